import Derived.Test.YtiedgcanndgmoaaGreatDoorRows
namespace Go.Proofs.YtiedgcanndgmoaaGreatDoor
set_option linter.unusedVariables false
set_option linter.unusedSimpArgs false
abbrev Rg := Int × Int
/-- a number that the ranges have -/
def hasR (l : List Rg) (i : Int) : Prop := ∃ x ∈ l, x.1 ≤ i ∧ i < x.2
/-- a least form -/
structure Lst (l : List Rg) : Prop where
  pos : ∀ x ∈ l, x.1 < x.2
  gap : l.Pairwise (fun x y => x.2 < y.1)
theorem Lst.nil : Lst [] := ⟨by simp, List.Pairwise.nil⟩
theorem hasR_nil (i : Int) : ¬ hasR [] i := by rintro ⟨x, hx, -⟩; cases hx
theorem hasR_cons (x : Rg) (l : List Rg) (i : Int) : hasR (x :: l) i ↔ (x.1 ≤ i ∧ i < x.2) ∨ hasR l i := by
  unfold hasR
  constructor
  · rintro ⟨y, hy, h⟩
    rcases List.mem_cons.1 hy with rfl | hy
    · exact .inl h
    · exact .inr ⟨y, hy, h⟩
  · rintro (h | ⟨y, hy, h⟩)
    · exact ⟨x, by simp, h⟩
    · exact ⟨y, by simp [hy], h⟩
theorem hasR_app (l m : List Rg) (i : Int) : hasR (l ++ m) i ↔ hasR l i ∨ hasR m i := by
  unfold hasR
  constructor
  · rintro ⟨y, hy, h⟩
    rcases List.mem_append.1 hy with hy | hy
    · exact .inl ⟨y, hy, h⟩
    · exact .inr ⟨y, hy, h⟩
  · rintro (⟨y, hy, h⟩ | ⟨y, hy, h⟩)
    · exact ⟨y, by simp [hy], h⟩
    · exact ⟨y, by simp [hy], h⟩
theorem hasR_one (x : Rg) (i : Int) : hasR [x] i ↔ x.1 ≤ i ∧ i < x.2 := by simp [hasR]
theorem hasR_snoc (l : List Rg) (x : Rg) (i : Int) : hasR (l ++ [x]) i ↔ hasR l i ∨ (x.1 ≤ i ∧ i < x.2) := by rw [hasR_app, hasR_one]
theorem Lst.tail {x : Rg} {l : List Rg} (h : Lst (x :: l)) : Lst l := ⟨fun y hy => h.pos y (by simp [hy]), (List.pairwise_cons.1 h.gap).2⟩
theorem Lst.after {x : Rg} {l : List Rg} (h : Lst (x :: l)) {i : Int} (hi : hasR l i) : x.2 < i := by
  obtain ⟨y, hy, h1, -⟩ := hi
  have := (List.pairwise_cons.1 h.gap).1 y hy
  omega
theorem Lst.uniq : ∀ {l m : List Rg}, Lst l → Lst m → (∀ i, hasR l i ↔ hasR m i) → l = m
  | [], [], _, _, _ => rfl
  | [], y :: m, _, hm, h => absurd ((h y.1).2 ⟨y, by simp, by have := hm.pos y (by simp); omega⟩) (hasR_nil _)
  | x :: l, [], hl, _, h => absurd ((h x.1).1 ⟨x, by simp, by have := hl.pos x (by simp); omega⟩) (hasR_nil _)
  | x :: l, y :: m, hl, hm, h => by
    have px := hl.pos x (by simp)
    have py := hm.pos y (by simp)
    have low : ∀ {z : Rg} {k : List Rg}, Lst (z :: k) → ∀ i, hasR (z :: k) i → z.1 ≤ i := fun {z k} hz i hi => by
      rcases (hasR_cons z k i).1 hi with h9 | h9
      · exact h9.1
      · have := hz.after h9; have := hz.pos z (by simp); omega
    have e1 : x.1 = y.1 := by
      have a := low hm x.1 ((h x.1).1 ((hasR_cons _ _ _).2 (.inl ⟨by omega, px⟩)))
      have b := low hl y.1 ((h y.1).2 ((hasR_cons _ _ _).2 (.inl ⟨by omega, py⟩)))
      omega
    have out : ∀ {z : Rg} {k : List Rg}, Lst (z :: k) → ¬ hasR (z :: k) z.2 := fun {z k} hz hi => by
      rcases (hasR_cons z k _).1 hi with h9 | h9
      · omega
      · have := hz.after h9; omega
    have e2 : x.2 = y.2 := by
      rcases Int.lt_trichotomy x.2 y.2 with h9 | h9 | h9
      · exact absurd ((h x.2).2 ((hasR_cons _ _ _).2 (.inl ⟨by omega, h9⟩))) (out hl)
      · exact h9
      · exact absurd ((h y.2).1 ((hasR_cons _ _ _).2 (.inl ⟨by omega, h9⟩))) (out hm)
    have e : x = y := Prod.ext e1 e2
    subst e
    have ht : l = m := Lst.uniq hl.tail hm.tail (fun i => by
      constructor
      · intro hi
        have h9 := hl.after hi
        rcases (hasR_cons _ _ _).1 ((h i).1 ((hasR_cons _ _ _).2 (.inr hi))) with h8 | h8
        · omega
        · exact h8
      · intro hi
        have h9 := hm.after hi
        rcases (hasR_cons _ _ _).1 ((h i).2 ((hasR_cons _ _ _).2 (.inr hi))) with h8 | h8
        · omega
        · exact h8)
    rw [ht]
theorem Lst.snoc {l : List Rg} {x : Rg} (h : Lst l) (hx : x.1 < x.2) (hg : ∀ y ∈ l, y.2 < x.1) : Lst (l ++ [x]) := by
  refine ⟨fun y hy => ?_, List.pairwise_append.2 ⟨h.gap, by simp, fun a ha b hb => by rw [List.mem_singleton.1 hb]; exact hg a ha⟩⟩
  rcases List.mem_append.1 hy with hy | hy
  · exact h.pos y hy
  · rw [List.mem_singleton.1 hy]; exact hx
/-- what it keeps: a least form of what came, each beginning where one of those begins -/
structure MI (out p : List Rg) : Prop where
  lst : Lst out
  has : ∀ i, hasR out i ↔ hasR p i
  beg : ∀ y ∈ out, ∃ z ∈ p, y.1 = z.1
theorem MI.nil : MI [] [] := ⟨Lst.nil, fun _ => Iff.rfl, by simp⟩
/-- what the document's next finds -/
def NextS (l : List Rg) (a : Int) (f : Int) (ok : Bool) : Prop := if ok then a ≤ f ∧ hasR l f ∧ ∀ i, a ≤ i → i < f → ¬ hasR l i else ∀ i, a ≤ i → ¬ hasR l i
theorem NextS.nil (a : Int) (f : Int) : NextS [] a f false := fun i _ => hasR_nil i
theorem NextS.skip {l : List Rg} {a f : Int} {ok : Bool} {x : Rg} (h : NextS l a f ok) (hx : x.2 ≤ x.1 ∨ x.2 ≤ a) : NextS (l ++ [x]) a f ok := by
  have hn : ∀ i, a ≤ i → hasR (l ++ [x]) i → hasR l i := fun i hi h9 => by
    rcases (hasR_snoc _ _ _).1 h9 with h8 | h8
    · exact h8
    · omega
  cases ok
  · intro i hi h9
    exact h i hi (hn i hi h9)
  · obtain ⟨h1, h2, h3⟩ := h
    exact ⟨h1, (hasR_snoc _ _ _).2 (.inl h2), fun i hi hf h9 => h3 i hi hf (hn i hi h9)⟩
theorem NextS.take {l : List Rg} {a f : Int} {ok : Bool} {x : Rg} (h : NextS l a f ok) (h1 : x.1 < x.2) (h2 : a < x.2) (hc : ok = false ∨ max x.1 a < f) : NextS (l ++ [x]) a (max x.1 a) true := by
  refine ⟨by omega, (hasR_snoc _ _ _).2 (.inr ⟨by omega, by omega⟩), fun i hi hf h9 => ?_⟩
  rcases (hasR_snoc _ _ _).1 h9 with h8 | h8
  · cases ok
    · exact h i hi h8
    · rcases hc with hc | hc
      · cases hc
      · exact h.2.2 i hi (by omega) h8
  · omega
/-- the document's Least, on its way: all below A are told -/
structure LI (l out : List Rg) (A : Int) : Prop where
  lst : Lst out
  ends : ∀ y ∈ out, y.2 ≤ A
  off : out ≠ [] → ¬ hasR l A
  has : ∀ i, i < A → (hasR out i ↔ hasR l i)
theorem LI.done {l out : List Rg} {A f : Int} (h : LI l out A) (hn : NextS l A f false) : Lst out ∧ ∀ i, hasR out i ↔ hasR l i := by
  refine ⟨h.lst, fun i => ?_⟩
  by_cases h1 : i < A
  · exact h.has i h1
  · constructor
    · rintro ⟨y, hy, h9⟩
      have := h.ends y hy
      omega
    · intro h9
      exact absurd h9 (hn i (by omega))
/-- the numbers from 0 to n - 1 that are missing, all below a told -/
structure NI (l out : List Rg) (n a : Int) : Prop where
  lst : Lst out
  ends : ∀ y ∈ out, y.2 < a
  a0 : 0 ≤ a
  has : ∀ i, hasR out i ↔ 0 ≤ i ∧ i < n ∧ i < a ∧ ¬ hasR l i
def MissS (l out : List Rg) (n : Int) : Prop := Lst out ∧ ∀ i, hasR out i ↔ 0 ≤ i ∧ i < n ∧ ¬ hasR l i
/-- out with the gap from a to f -/
def gapped (out : List Rg) (a f : Int) : List Rg := if a < f then out ++ [(a, f)] else out
theorem NI.gap {l out : List Rg} {n a f : Int} (h : NI l out n a) (hf : f ≤ n) (hno : ∀ i, a ≤ i → i < f → ¬ hasR l i) : Lst (gapped out a f) ∧ (∀ y ∈ gapped out a f, y.2 < a ∨ y.2 = f) ∧ ∀ i, hasR (gapped out a f) i ↔ 0 ≤ i ∧ i < n ∧ (i < a ∨ i < f) ∧ ¬ hasR l i := by
  unfold gapped
  by_cases h1 : a < f
  · rw [if_pos h1]
    refine ⟨Lst.snoc h.lst h1 h.ends, fun y hy => ?_, fun i => ?_⟩
    · rcases List.mem_append.1 hy with hy | hy
      · exact .inl (h.ends y hy)
      · rw [List.mem_singleton.1 hy]; exact .inr rfl
    · rw [hasR_snoc, h.has i]
      simp only
      have := h.a0
      constructor
      · rintro (⟨h2, h3, h4, h5⟩ | ⟨h2, h3⟩)
        · exact ⟨h2, h3, .inl h4, h5⟩
        · exact ⟨by omega, by omega, .inr h3, hno i h2 h3⟩
      · rintro ⟨h2, h3, h4, h5⟩
        by_cases h6 : i < a
        · exact .inl ⟨h2, h3, h6, h5⟩
        · exact .inr ⟨by omega, by omega⟩
  · rw [if_neg h1]
    refine ⟨h.lst, fun y hy => .inl (h.ends y hy), fun i => ?_⟩
    rw [h.has i]
    constructor
    · rintro ⟨h2, h3, h4, h5⟩; exact ⟨h2, h3, .inl h4, h5⟩
    · rintro ⟨h2, h3, h4, h5⟩; exact ⟨h2, h3, by omega, h5⟩
/-- the document's round: nothing more up to n -/
theorem NI.last {l out : List Rg} {n a : Int} (h : NI l out n a) (hno : ∀ i, a ≤ i → i < n → ¬ hasR l i) : MissS l (gapped out a n) n := by
  obtain ⟨h1, -, h3⟩ := h.gap (Int.le_refl n) hno
  refine ⟨h1, fun i => ?_⟩
  rw [h3 i]
  constructor
  · rintro ⟨a1, a2, -, a4⟩; exact ⟨a1, a2, a4⟩
  · rintro ⟨a1, a2, a4⟩; exact ⟨a1, a2, .inr a2, a4⟩
theorem NI.over {l out : List Rg} {n a : Int} (h : NI l out n a) (ha : n ≤ a) : MissS l out n := by
  refine ⟨h.lst, fun i => ?_⟩
  rw [h.has i]
  constructor
  · rintro ⟨a1, a2, -, a4⟩; exact ⟨a1, a2, a4⟩
  · rintro ⟨a1, a2, a4⟩; exact ⟨a1, a2, by omega, a4⟩
/-- the program's round, over a least form p -/
structure PI (p out : List Rg) (n a : Int) : Prop where
  ni : NI p out n a
  mx : ∀ z ∈ p, z.2 ≤ a
  at_ : a = 0 ∨ ∃ z ∈ p, a = z.2
theorem PI.last {p out : List Rg} {n a : Int} (h : PI p out n a) : MissS p (gapped out a n) n := h.ni.last (fun i hi _ ⟨z, hz, h9⟩ => by have := h.mx z hz; omega)
theorem MissS.uniq {l m a b : List Rg} {n : Int} (h1 : MissS l a n) (h2 : MissS m b n) (h : ∀ i, hasR l i ↔ hasR m i) : a = b := Lst.uniq h1.1 h2.1 (fun i => by rw [h1.2 i, h2.2 i, h i])
end Go.Proofs.YtiedgcanndgmoaaGreatDoor
