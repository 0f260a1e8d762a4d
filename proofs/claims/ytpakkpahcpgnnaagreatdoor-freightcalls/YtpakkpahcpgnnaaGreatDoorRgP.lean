import Derived.Test.YtpakkpahcpgnnaaGreatDoorRows
set_option linter.unusedVariables false
set_option linter.unusedSimpArgs false
namespace Go.Proofs.YtpakkpahcpgnnaaGreatDoor
abbrev Rg := Int × Int
def hasR (l : List Rg) (i : Int) : Prop := ∃ x ∈ l, x.1 ≤ i ∧ i < x.2
structure Lst (l : List Rg) : Prop where
 pos : ∀ x ∈ l, x.1 < x.2
 gap : l.Pairwise (fun x y => x.2 < y.1)
theorem Lst.nil : Lst [] := ⟨by simp, List.Pairwise.nil⟩
theorem hasR_nil (i : Int) : ¬ hasR [] i := by rintro ⟨x, hx, -⟩; cases hx
theorem hasR_cons (x : Rg) (l : List Rg) (i : Int) : hasR (x :: l) i ↔ (x.1 ≤ i ∧ i < x.2) ∨ hasR l i := by
 unfold hasR; constructor
 · rintro ⟨y, hy, h⟩; rcases List.mem_cons.1 hy with rfl | hy
   · exact .inl h
   · exact .inr ⟨y, hy, h⟩
 · rintro (h | ⟨y, hy, h⟩)
   · exact ⟨x, by simp, h⟩
   · exact ⟨y, by simp [hy], h⟩
theorem hasR_app (l m : List Rg) (i : Int) : hasR (l ++ m) i ↔ hasR l i ∨ hasR m i := by
 unfold hasR; constructor
 · rintro ⟨y, hy, h⟩; rcases List.mem_append.1 hy with hy | hy
   · exact .inl ⟨y, hy, h⟩
   · exact .inr ⟨y, hy, h⟩
 · rintro (⟨y, hy, h⟩ | ⟨y, hy, h⟩)
   · exact ⟨y, by simp [hy], h⟩
   · exact ⟨y, by simp [hy], h⟩
theorem hasR_one (x : Rg) (i : Int) : hasR [x] i ↔ x.1 ≤ i ∧ i < x.2 := by simp [hasR]
theorem hasR_snoc (l : List Rg) (x : Rg) (i : Int) : hasR (l ++ [x]) i ↔ hasR l i ∨ (x.1 ≤ i ∧ i < x.2) := by rw [hasR_app, hasR_one]
theorem hasR_perm {l m : List Rg} (h : l.Perm m) (i : Int) : hasR l i ↔ hasR m i := by
 unfold hasR; constructor
 · rintro ⟨x, hx, h9⟩; exact ⟨x, h.mem_iff.1 hx, h9⟩
 · rintro ⟨x, hx, h9⟩; exact ⟨x, h.mem_iff.2 hx, h9⟩
theorem Lst.tail {x : Rg} {l : List Rg} (h : Lst (x :: l)) : Lst l := ⟨fun y hy => h.pos y (by simp [hy]), (List.pairwise_cons.1 h.gap).2⟩
theorem Lst.after {x : Rg} {l : List Rg} (h : Lst (x :: l)) {i : Int} (hi : hasR l i) : x.2 < i := by
 obtain ⟨y, hy, h1, -⟩ := hi; have := (List.pairwise_cons.1 h.gap).1 y hy; omega
theorem Lst.uniq : ∀ {l m : List Rg}, Lst l → Lst m → (∀ i, hasR l i ↔ hasR m i) → l = m
 | [], [], _, _, _ => rfl
 | [], y :: m, _, hm, h => absurd ((h y.1).2 ⟨y, by simp, by have := hm.pos y (by simp); omega⟩) (hasR_nil _)
 | x :: l, [], hl, _, h => absurd ((h x.1).1 ⟨x, by simp, by have := hl.pos x (by simp); omega⟩) (hasR_nil _)
 | x :: l, y :: m, hl, hm, h => by
  have px := hl.pos x (by simp); have py := hm.pos y (by simp)
  have low : ∀ {z : Rg} {k : List Rg}, Lst (z :: k) → ∀ i, hasR (z :: k) i → z.1 ≤ i := fun {z k} hz i hi => by
   rcases (hasR_cons z k i).1 hi with h9 | h9
   · exact h9.1
   · have := hz.after h9; have := hz.pos z (by simp); omega
  have e1 : x.1 = y.1 := by
   have a := low hm x.1 ((h x.1).1 ((hasR_cons _ _ _).2 (.inl ⟨by omega, px⟩))); have b := low hl y.1 ((h y.1).2 ((hasR_cons _ _ _).2 (.inl ⟨by omega, py⟩))); omega
  have out : ∀ {z : Rg} {k : List Rg}, Lst (z :: k) → ¬ hasR (z :: k) z.2 := fun {z k} hz hi => by
   rcases (hasR_cons z k _).1 hi with h9 | h9
   · omega
   · have := hz.after h9; omega
  have e2 : x.2 = y.2 := by
   rcases Int.lt_trichotomy x.2 y.2 with h9 | h9 | h9
   · exact absurd ((h x.2).2 ((hasR_cons _ _ _).2 (.inl ⟨by omega, h9⟩))) (out hl)
   · exact h9
   · exact absurd ((h y.2).1 ((hasR_cons _ _ _).2 (.inl ⟨by omega, h9⟩))) (out hm)
  have e : x = y := Prod.ext e1 e2; subst e
  have ht : l = m := Lst.uniq hl.tail hm.tail (fun i => by
    constructor
    · intro hi; have h9 := hl.after hi; rcases (hasR_cons _ _ _).1 ((h i).1 ((hasR_cons _ _ _).2 (.inr hi))) with h8 | h8
      · omega
      · exact h8
    · intro hi; have h9 := hm.after hi; rcases (hasR_cons _ _ _).1 ((h i).2 ((hasR_cons _ _ _).2 (.inr hi))) with h8 | h8
      · omega
      · exact h8)
  rw [ht]
theorem Lst.snoc {l : List Rg} {x : Rg} (h : Lst l) (hx : x.1 < x.2) (hg : ∀ y ∈ l, y.2 < x.1) : Lst (l ++ [x]) := by
 refine ⟨fun y hy => ?_, List.pairwise_append.2 ⟨h.gap, by simp, fun a ha b hb => by rw [List.mem_singleton.1 hb]; exact hg a ha⟩⟩; rcases List.mem_append.1 hy with hy | hy
 · exact h.pos y hy
 · rw [List.mem_singleton.1 hy]; exact hx
theorem Lst.init {l : List Rg} {x : Rg} (h : Lst (l ++ [x])) : Lst l ∧ x.1 < x.2 ∧ ∀ y ∈ l, y.2 < x.1 := by
 obtain ⟨h1, -, h3⟩ := List.pairwise_append.1 h.gap; exact ⟨⟨fun y hy => h.pos y (by simp [hy]), h1⟩, h.pos x (by simp), fun y hy => h3 y hy x (by simp)⟩
def mstep (out : List Rg) (x : Rg) : List Rg := if x.2 ≤ x.1 then out else match out.getLast? with
 | none => out ++ [x]
 | some y => if x.1 ≤ y.2 then out.dropLast ++ [(y.1, max y.2 x.2)] else out ++ [x]
structure MI (out p : List Rg) : Prop where
 lst : Lst out
 has : ∀ i, hasR out i ↔ hasR p i
 beg : ∀ y ∈ out, ∃ z ∈ p, y.1 = z.1
theorem MI.nil : MI [] [] := ⟨Lst.nil, fun _ => Iff.rfl, by simp⟩
theorem last_split {α : Type} {l : List α} {y : α} (h : l.getLast? = some y) : l = l.dropLast ++ [y] := by
 have hne : l ≠ [] := by intro e; rw [e] at h; simp at h
 have h2 : l.getLast hne = y := by rw [List.getLast?_eq_some_getLast hne] at h; simpa using h
 rw [← h2]; exact (List.dropLast_concat_getLast hne).symm
theorem MI.step {out p : List Rg} {x : Rg} (h : MI out p) (hx : ∀ z ∈ p, z.1 ≤ x.1) : MI (mstep out x) (p ++ [x]) := by
 have beg1 : ∀ y ∈ out, ∃ z ∈ p ++ [x], y.1 = z.1 := fun y hy => by
  obtain ⟨z, hz, e⟩ := h.beg y hy; exact ⟨z, by simp [hz], e⟩
 unfold mstep
 by_cases he : x.2 ≤ x.1
 · rw [if_pos he]; refine ⟨h.lst, fun i => ?_, beg1⟩; rw [hasR_snoc, h.has i]; constructor
   · exact .inl
   · rintro (h9 | h9)
     · exact h9
     · omega
 · rw [if_neg he]; cases hl : out.getLast? with
   | none =>
    simp only; have hn : out = [] := List.getLast?_eq_none_iff.1 hl; subst hn; refine ⟨⟨by simp; omega, by simp⟩, fun i => ?_, fun y hy => ⟨x, by simp, by simp at hy; rw [hy]⟩⟩; rw [List.nil_append, hasR_one, hasR_snoc, ← h.has i]; constructor
    · exact .inr
    · rintro (h9 | h9)
      · exact absurd h9 (hasR_nil _)
      · exact h9
   | some y =>
    simp only; have hs := last_split hl; obtain ⟨o, ho⟩ : ∃ o, o = out.dropLast := ⟨_, rfl⟩; rw [← ho] at hs ⊢; subst hs; obtain ⟨i1, i2, i3⟩ := h.lst.init; obtain ⟨z, hz, ez⟩ := h.beg y (by simp); have hyx : y.1 ≤ x.1 := by have := hx z hz; omega
    by_cases hc : x.1 ≤ y.2
    · rw [if_pos hc]; refine ⟨Lst.snoc i1 (show y.1 < max y.2 x.2 by omega) i3, fun i => ?_, fun v hv => ?_⟩
      · rw [hasR_snoc, hasR_snoc, ← h.has i, hasR_snoc]; simp only; constructor
        · rintro (h9 | h9)
          · exact .inl (.inl h9)
          · by_cases h8 : i < y.2
            · exact .inl (.inr ⟨h9.1, h8⟩)
            · exact .inr ⟨by omega, by omega⟩
        · rintro ((h9 | h9) | h9)
          · exact .inl h9
          · exact .inr ⟨h9.1, by omega⟩
          · exact .inr ⟨by omega, by omega⟩
      · rcases List.mem_append.1 hv with hv | hv
        · exact beg1 v (by simp [hv])
        · rw [List.mem_singleton.1 hv]; exact beg1 y (by simp)
    · rw [if_neg hc]; refine ⟨Lst.snoc h.lst (by omega) (fun v hv => ?_), fun i => ?_, fun v hv => ?_⟩
      · rcases List.mem_append.1 hv with hv | hv
        · have := i3 v hv; omega
        · rw [List.mem_singleton.1 hv]; omega
      · rw [hasR_snoc (o ++ [y]), hasR_snoc p, h.has i]
      · rcases List.mem_append.1 hv with hv | hv
        · exact beg1 v hv
        · exact ⟨x, by simp, by rw [List.mem_singleton.1 hv]⟩
def cntR (l : List Rg) (a : Int) : Nat := l.countP fun x => decide (a < x.2)
theorem cntR_mono (l : List Rg) {a b : Int} (h : a ≤ b) : cntR l b ≤ cntR l a := by
 unfold cntR; apply List.countP_mono_left; intro x _ hx; simp at hx ⊢; omega
theorem cntR_less : ∀ (l : List Rg) {a b : Int}, a ≤ b → (∃ x ∈ l, a < x.2 ∧ x.2 ≤ b) → cntR l b < cntR l a
 | [], _, _, _, ⟨x, hx, _⟩ => by cases hx
 | y :: l, a, b, h, ⟨x, hx, h1, h2⟩ => by
  unfold cntR; rw [List.countP_cons, List.countP_cons]; have hm : cntR l b ≤ cntR l a := cntR_mono l h; unfold cntR at hm; rcases List.mem_cons.1 hx with rfl | hx
  · rw [if_neg (by simp; omega), if_pos (by simpa using h1)]; omega
  · have h3 := cntR_less l h ⟨x, hx, h1, h2⟩; unfold cntR at h3
    by_cases h4 : b < y.2
    · rw [if_pos (by simpa using h4), if_pos (by simp; omega)]; omega
    · rw [if_neg (by simpa using h4)]; split <;> omega
def NextS (l : List Rg) (a : Int) (f : Int) (ok : Bool) : Prop := if ok then a ≤ f ∧ hasR l f ∧ ∀ i, a ≤ i → i < f → ¬ hasR l i else ∀ i, a ≤ i → ¬ hasR l i
theorem NextS.nil (a : Int) (f : Int) : NextS [] a f false := fun i _ => hasR_nil i
theorem NextS.skip {l : List Rg} {a f : Int} {ok : Bool} {x : Rg} (h : NextS l a f ok) (hx : x.2 ≤ x.1 ∨ x.2 ≤ a) : NextS (l ++ [x]) a f ok := by
 have hn : ∀ i, a ≤ i → hasR (l ++ [x]) i → hasR l i := fun i hi h9 => by
  rcases (hasR_snoc _ _ _).1 h9 with h8 | h8
  · exact h8
  · omega
 cases ok
 · intro i hi h9; exact h i hi (hn i hi h9)
 · obtain ⟨h1, h2, h3⟩ := h; exact ⟨h1, (hasR_snoc _ _ _).2 (.inl h2), fun i hi hf h9 => h3 i hi hf (hn i hi h9)⟩
theorem NextS.take {l : List Rg} {a f : Int} {ok : Bool} {x : Rg} (h : NextS l a f ok) (h1 : x.1 < x.2) (h2 : a < x.2) (hc : ok = false ∨ max x.1 a < f) : NextS (l ++ [x]) a (max x.1 a) true := by
 refine ⟨by omega, (hasR_snoc _ _ _).2 (.inr ⟨by omega, by omega⟩), fun i hi hf h9 => ?_⟩; rcases (hasR_snoc _ _ _).1 h9 with h8 | h8
 · cases ok
   · exact h i hi h8
   · rcases hc with hc | hc
     · cases hc
     · exact h.2.2 i hi (by omega) h8
 · omega
theorem NextS.keep {l : List Rg} {a f : Int} {x : Rg} (h : NextS l a f true) (h1 : x.1 < x.2) (hc : f ≤ max x.1 a) : NextS (l ++ [x]) a f true := by
 obtain ⟨k1, k2, k3⟩ := h; refine ⟨k1, (hasR_snoc _ _ _).2 (.inl k2), fun i hi hf h9 => ?_⟩; rcases (hasR_snoc _ _ _).1 h9 with h8 | h8
 · exact k3 i hi hf h8
 · omega
def EndS (l : List Rg) (a e : Int) : Prop := a ≤ e ∧ ¬ hasR l e ∧ ∀ i, a ≤ i → i < e → hasR l i
structure LI (l out : List Rg) (A : Int) : Prop where
 lst : Lst out
 ends : ∀ y ∈ out, y.2 ≤ A
 off : out ≠ [] → ¬ hasR l A
 has : ∀ i, i < A → (hasR out i ↔ hasR l i)
theorem LI.step {l out : List Rg} {A f e : Int} (h : LI l out A) (hn : NextS l A f true) (he : EndS l f e) : LI l (out ++ [(f, e)]) e ∧ cntR l e < cntR l f := by
 obtain ⟨n1, n2, n3⟩ := hn; obtain ⟨e1, e2, e3⟩ := he
 have hfe : f < e := by
  rcases Int.lt_or_eq_of_le e1 with h9 | h9
  · exact h9
  · rw [← h9] at e2; exact absurd n2 e2
 refine ⟨⟨Lst.snoc h.lst hfe (fun y hy => ?_), fun y hy => ?_, fun _ => e2, fun i hi => ?_⟩, ?_⟩
 · have h1 := h.ends y hy; have h2 := h.off (by intro e9; rw [e9] at hy; cases hy); show y.2 < f; rcases Int.lt_or_eq_of_le n1 with h9 | h9
   · omega
   · rw [h9] at h2; exact absurd n2 h2
 · rcases List.mem_append.1 hy with hy | hy
   · have := h.ends y hy; omega
   · rw [List.mem_singleton.1 hy]; exact Int.le_refl _
 · rw [hasR_snoc]
   by_cases h1 : i < A
   · rw [h.has i h1]; constructor
     · rintro (h9 | h9)
       · exact h9
       · simp only at h9; omega
     · exact .inl
   · constructor
     · rintro (⟨y, hy, h9⟩ | h9)
       · have := h.ends y hy; omega
       · exact e3 i h9.1 h9.2
     · intro h9; refine .inr ⟨?_, hi⟩; show f ≤ i; rcases Int.lt_or_le i f with h8 | h8
       · exact absurd h9 (n3 i (by omega) h8)
       · exact h8
 · obtain ⟨x, hx, h1, h2⟩ := n2; refine cntR_less l e1 ⟨x, hx, h2, ?_⟩; rcases Int.lt_or_le e x.2 with h9 | h9
   · exact absurd ⟨x, hx, by omega, h9⟩ e2
   · exact h9
theorem LI.done {l out : List Rg} {A f : Int} (h : LI l out A) (hn : NextS l A f false) : Lst out ∧ ∀ i, hasR out i ↔ hasR l i := by
 refine ⟨h.lst, fun i => ?_⟩
 by_cases h1 : i < A
 · exact h.has i h1
 · constructor
   · rintro ⟨y, hy, h9⟩; have := h.ends y hy; omega
   · intro h9; exact absurd h9 (hn i (by omega))
structure NI (l out : List Rg) (n a : Int) : Prop where
 lst : Lst out
 ends : ∀ y ∈ out, y.2 < a
 a0 : 0 ≤ a
 has : ∀ i, hasR out i ↔ 0 ≤ i ∧ i < n ∧ i < a ∧ ¬ hasR l i
def MissS (l out : List Rg) (n : Int) : Prop := Lst out ∧ ∀ i, hasR out i ↔ 0 ≤ i ∧ i < n ∧ ¬ hasR l i
theorem NI.start (l : List Rg) (n : Int) : NI l [] n 0 := ⟨Lst.nil, by simp, Int.le_refl _, fun i => ⟨fun h => absurd h (hasR_nil i), fun h => by omega⟩⟩
def gapped (out : List Rg) (a f : Int) : List Rg := if a < f then out ++ [(a, f)] else out
theorem NI.gap {l out : List Rg} {n a f : Int} (h : NI l out n a) (hf : f ≤ n) (hno : ∀ i, a ≤ i → i < f → ¬ hasR l i) : Lst (gapped out a f) ∧ (∀ y ∈ gapped out a f, y.2 < a ∨ y.2 = f) ∧ ∀ i, hasR (gapped out a f) i ↔ 0 ≤ i ∧ i < n ∧ (i < a ∨ i < f) ∧ ¬ hasR l i := by
 unfold gapped
 by_cases h1 : a < f
 · rw [if_pos h1]; refine ⟨Lst.snoc h.lst h1 h.ends, fun y hy => ?_, fun i => ?_⟩
   · rcases List.mem_append.1 hy with hy | hy
     · exact .inl (h.ends y hy)
     · rw [List.mem_singleton.1 hy]; exact .inr rfl
   · rw [hasR_snoc, h.has i]; simp only; have := h.a0; constructor
     · rintro (⟨h2, h3, h4, h5⟩ | ⟨h2, h3⟩)
       · exact ⟨h2, h3, .inl h4, h5⟩
       · exact ⟨by omega, by omega, .inr h3, hno i h2 h3⟩
     · rintro ⟨h2, h3, h4, h5⟩
       by_cases h6 : i < a
       · exact .inl ⟨h2, h3, h6, h5⟩
       · exact .inr ⟨by omega, by omega⟩
 · rw [if_neg h1]; refine ⟨h.lst, fun y hy => .inl (h.ends y hy), fun i => ?_⟩; rw [h.has i]; constructor
   · rintro ⟨h2, h3, h4, h5⟩; exact ⟨h2, h3, .inl h4, h5⟩
   · rintro ⟨h2, h3, h4, h5⟩; exact ⟨h2, h3, by omega, h5⟩
theorem NI.last {l out : List Rg} {n a : Int} (h : NI l out n a) (hno : ∀ i, a ≤ i → i < n → ¬ hasR l i) : MissS l (gapped out a n) n := by
 obtain ⟨h1, -, h3⟩ := h.gap (Int.le_refl n) hno; refine ⟨h1, fun i => ?_⟩; rw [h3 i]; constructor
 · rintro ⟨a1, a2, -, a4⟩; exact ⟨a1, a2, a4⟩
 · rintro ⟨a1, a2, a4⟩; exact ⟨a1, a2, .inr a2, a4⟩
structure PI (p out : List Rg) (n a : Int) : Prop where
 ni : NI p out n a
 mx : ∀ z ∈ p, z.2 ≤ a
 at_ : a = 0 ∨ ∃ z ∈ p, a = z.2
theorem PI.start (n : Int) : PI [] [] n 0 := ⟨NI.start [] n, by simp, .inl rfl⟩
theorem PI.step {p out : List Rg} {n a : Int} {x : Rg} (h : PI p out n a) (hx : x.1 < x.2) (hg : ∀ z ∈ p, z.2 < x.1) : PI (p ++ [x]) (gapped out a (min x.1 n)) n (max a x.2) := by
 have hno : ∀ i, a ≤ i → ¬ hasR p i := fun i hi ⟨z, hz, h9⟩ => by have := h.mx z hz; omega
 obtain ⟨h1, h2, h3⟩ := h.ni.gap (f := min x.1 n) (by omega) (fun i hi _ => hno i hi); have a0 := h.ni.a0
 have hax : a = 0 ∨ a < x.1 := by
  rcases h.at_ with h9 | ⟨z, hz, h9⟩
  · exact .inl h9
  · have := hg z hz; exact .inr (by omega)
 refine ⟨⟨h1, fun y hy => ?_, by omega, fun i => ?_⟩, fun z hz => ?_, ?_⟩
 · rcases h2 y hy with h9 | h9 <;> omega
 · rw [h3 i, hasR_snoc]; constructor
   · rintro ⟨a1, a2, a3, a4⟩; exact ⟨a1, a2, by omega, fun h9 => by rcases h9 with h9 | h9; (· exact a4 h9); (· omega)⟩
   · rintro ⟨a1, a2, a3, a4⟩; refine ⟨a1, a2, ?_, fun h9 => a4 (.inl h9)⟩
     by_cases h9 : i < a
     · exact .inl h9
     · have h8 : ¬ (x.1 ≤ i ∧ i < x.2) := fun h7 => a4 (.inr h7)
       exact .inr (by omega)
 · rcases List.mem_append.1 hz with hz | hz
   · have := h.mx z hz; omega
   · rw [List.mem_singleton.1 hz]; omega
 · rcases h.at_ with h9 | ⟨z, hz, h9⟩
   · by_cases h8 : x.2 ≤ 0
     · exact .inl (by omega)
     · exact .inr ⟨x, by simp, by omega⟩
   · exact .inr ⟨x, by simp, by have := hg z hz; omega⟩
theorem PI.last {p out : List Rg} {n a : Int} (h : PI p out n a) : MissS p (gapped out a n) n := h.ni.last (fun i hi _ ⟨z, hz, h9⟩ => by have := h.mx z hz; omega)
end Go.Proofs.YtpakkpahcpgnnaaGreatDoor
