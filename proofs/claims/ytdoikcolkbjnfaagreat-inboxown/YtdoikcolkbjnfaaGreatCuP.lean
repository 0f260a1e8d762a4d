import Derived.Test.YtdoikcolkbjnfaaGreatRegn
import Derived.DeepKeys4
import Derived.Maps.OwnSet
import Derived.Maps.RangeWalk
import Derived.MapFrom
import Derived.Test.YtdoikcolkbjnfaaGreatRows
namespace Go.Proofs.YtdoikcolkbjnfaaGreat
set_option linter.unusedVariables false
set_option linter.unusedSimpArgs false
open Go.RowKit Go.Maps
/-- a session: epoch, number -/
abbrev Ss := Nat × Nat
abbrev tSs : TypeId := 74
abbrev sv (s : Ss) : Value := .agg #[.int .u64 (s.1 : Int), .int .u64 (s.2 : Int)]
def inS (s : Ss) : Prop := s.1 < 18446744073709551616 ∧ s.2 < 18446744073709551616
def kS (s : Ss) : Lit := .string (keyBytes [.int .u64 (s.1 : Int), .int .u64 (s.2 : Int)])
theorem laidS : laidOutB Tryz.prog = true := by kernel_rfl
theorem rowSs : tSs < Tryz.prog.types.size := of_decide_eq_true (by kernel_rfl)
theorem cellsSs : Tryz.prog.cellsOf tSs = 2 := by kernel_rfl
theorem wideSs : (match Tryz.prog.underlying tSs with | some (.array _ _) | some (.struct _) => true | _ => false) = true := by kernel_rfl
set_option maxRecDepth 20000 in
theorem lawSs : WideMaps.KeyLaw Tryz.prog tSs := deep_law_laid laidS (m := 2) (by omega) rowSs (by kernel_rfl) wideSs
theorem keyS : Keyed Tryz.prog tSs := Keyed.of_law lawSs
theorem ktS : Tryz.prog.keyType tSs = true := by kernel_rfl
theorem u64T : Tryz.prog.underlying 24 = some (.int .u64) := by kernel_rfl
theorem cells64 : Tryz.prog.cellsOf 24 = 1 := by kernel_rfl
theorem wf64 {n : Nat} (h : n < 18446744073709551616) : (Lit.int .u64 (n : Int)).wf = true := by
  simp [Lit.wf, IntKind.min, IntKind.max, IntKind.signed, IntKind.bits]; omega
theorem lits1 {n : Nat} (h : n < 18446744073709551616) (d : Nat) : Tryz.prog.keyLits (d + 1) 24 [.int .u64 (n : Int)] = some [.int .u64 (n : Int)] := by
  unfold Program.keyLits
  simp [u64T, wf64 h]
theorem lits2 {s : Ss} (h : inS s) (d : Nat) : Tryz.prog.keyLits (d + 1 + 1) tSs [.int .u64 (s.1 : Int), .int .u64 (s.2 : Int)] = some [.int .u64 (s.1 : Int), .int .u64 (s.2 : Int)] := by
  unfold Program.keyLits
  simp only [Tryz.underlying74]
  simp [cellsSs, cells64, lits1 h.1 d, lits1 h.2 d]
theorem formSs (a b : Value) : (Value.agg #[a, b]).formed Tryz.prog tSs = true := by
  simp [Value.formed, Tryz.underlying74, cellsSs]
theorem kS_of {s : Ss} (h : inS s) : keyOf Tryz.prog tSs (sv s) = some (kS s) := by
  obtain ⟨m, hm⟩ : ∃ m, Tryz.prog.types.size = m + 1 := ⟨Tryz.prog.types.size - 1, by have h0 : 0 < Tryz.prog.types.size := Nat.lt_of_le_of_lt (Nat.zero_le _) rowSs; omega⟩
  unfold keyOf
  simp only [Tryz.underlying74]
  rw [if_pos (by rw [ktS, formSs]; rfl), hm]
  show (Tryz.prog.keyLits (m + 1 + 1) tSs [.int .u64 (s.1 : Int), .int .u64 (s.2 : Int)]).map _ = _
  rw [lits2 h m]
  rfl
theorem sv_inj {s t : Ss} (h : sv s = sv t) : s = t := by
  simp only [sv, Value.agg.injEq, Array.mk.injEq, List.cons.injEq, Value.int.injEq, and_true, true_and] at h
  obtain ⟨a, b⟩ := s
  obtain ⟨c, d⟩ := t
  have h1 : (a : Int) = c := h.1
  have h2 : (b : Int) = d := h.2
  rw [show a = c by omega, show b = d by omega]
theorem kS_ne {s t : Ss} (hs : inS s) (ht : inS t) (h : s ≠ t) : kS s ≠ kS t := fun e => h (sv_inj (keyS.inj (kS_of hs) (by rw [e]; exact kS_of ht)))
theorem kS_key {s : Ss} (h : inS s) : WideAt.IsKeyLit (kS s) := keyS.key (kS_of h)
theorem lits1_inv {d : Nat} {c : List Value} {l : List Lit} (h : Tryz.prog.keyLits d 24 c = some l) : ∃ n : Nat, c = [.int .u64 (n : Int)] ∧ n < 18446744073709551616 := by
  cases d with
  | zero => simp [Program.keyLits] at h
  | succ d =>
    unfold Program.keyLits at h
    simp only [u64T] at h
    match c, h with
    | [.int q n], h =>
      simp only [] at h
      split at h
      · rename_i h1
        obtain ⟨rfl, h2⟩ := h1
        simp [Lit.wf, IntKind.min, IntKind.max, IntKind.signed, IntKind.bits] at h2
        refine ⟨n.toNat, ?_, by omega⟩
        rw [show ((n.toNat : Nat) : Int) = n by omega]
      · cases h
theorem kS_inv {v : Value} {l : Lit} (h : keyOf Tryz.prog tSs v = some l) : ∃ s : Ss, v = sv s ∧ inS s := by
  unfold keyOf at h
  simp only [Tryz.underlying74] at h
  split at h
  · rename_i h1
    rw [Bool.and_eq_true] at h1
    obtain ⟨ls, h2, -⟩ := Option.map_eq_some_iff.1 h
    cases v <;> simp [Value.formed, Tryz.underlying74] at h1
    rename_i cs
    obtain ⟨-, h3⟩ := h1
    rw [cellsSs] at h3
    obtain ⟨xs⟩ := cs
    clear h
    generalize Tryz.prog.types.size + 1 = D at h2
    obtain ⟨a, b, rfl⟩ : ∃ a b, xs = [a, b] := by
      rcases xs with _ | ⟨a, _ | ⟨b, _ | ⟨c, r⟩⟩⟩
      · simp at h3
      · simp at h3
      · exact ⟨a, b, rfl⟩
      · simp at h3
    cases D with
    | zero => simp [Program.keyLits] at h2
    | succ D =>
      unfold Program.keyLits at h2
      simp only [Tryz.underlying74] at h2
      split at h2
      · obtain ⟨ls2, h4, -⟩ := Option.map_eq_some_iff.1 h2
        simp [cells64, Option.bind_eq_some_iff] at h4
        obtain ⟨l1, h5, l2, ⟨l3, h6, -⟩, -⟩ := h4
        obtain ⟨n, hn, hn2⟩ := lits1_inv h5
        obtain ⟨m, hm, hm2⟩ := lits1_inv h6
        have e1 : [a] = [Value.int .u64 (n : Int)] := hn
        have e2 : [b] = [Value.int .u64 (m : Int)] := hm
        cases e1
        cases e2
        exact ⟨(n, m), rfl, hn2, hm2⟩
      · cases h2
  · cases h
end Go.Proofs.YtdoikcolkbjnfaaGreat
namespace Go.Proofs.YtdoikcolkbjnfaaGreat
set_option linter.unusedVariables false
set_option linter.unusedSimpArgs false
abbrev Rg := Int × Int
/-- a number that the ranges have -/
def hasR (l : List Rg) (i : Int) : Prop := ∃ x ∈ l, x.1 ≤ i ∧ i < x.2
/-- a least form -/
structure Lst (l : List Rg) : Prop where
  pos : ∀ x ∈ l, x.1 < x.2
  gap : l.Pairwise (fun x y => x.2 < y.1)
theorem Lst.nil : Lst [] := ⟨by simp, List.Pairwise.nil⟩
theorem hasR_nil (i : Int) : ¬ hasR [] i := by rintro ⟨x, hx, -⟩; cases hx
theorem hasR_cons (x : Rg) (l : List Rg) (i : Int) : hasR (x :: l) i ↔ (x.1 ≤ i ∧ i < x.2) ∨ hasR l i := by
  unfold hasR
  constructor
  · rintro ⟨y, hy, h⟩
    rcases List.mem_cons.1 hy with rfl | hy
    · exact .inl h
    · exact .inr ⟨y, hy, h⟩
  · rintro (h | ⟨y, hy, h⟩)
    · exact ⟨x, by simp, h⟩
    · exact ⟨y, by simp [hy], h⟩
theorem hasR_app (l m : List Rg) (i : Int) : hasR (l ++ m) i ↔ hasR l i ∨ hasR m i := by
  unfold hasR
  constructor
  · rintro ⟨y, hy, h⟩
    rcases List.mem_append.1 hy with hy | hy
    · exact .inl ⟨y, hy, h⟩
    · exact .inr ⟨y, hy, h⟩
  · rintro (⟨y, hy, h⟩ | ⟨y, hy, h⟩)
    · exact ⟨y, by simp [hy], h⟩
    · exact ⟨y, by simp [hy], h⟩
theorem hasR_one (x : Rg) (i : Int) : hasR [x] i ↔ x.1 ≤ i ∧ i < x.2 := by simp [hasR]
theorem hasR_snoc (l : List Rg) (x : Rg) (i : Int) : hasR (l ++ [x]) i ↔ hasR l i ∨ (x.1 ≤ i ∧ i < x.2) := by rw [hasR_app, hasR_one]
theorem hasR_perm {l m : List Rg} (h : l.Perm m) (i : Int) : hasR l i ↔ hasR m i := by
  unfold hasR
  constructor
  · rintro ⟨x, hx, h9⟩; exact ⟨x, h.mem_iff.1 hx, h9⟩
  · rintro ⟨x, hx, h9⟩; exact ⟨x, h.mem_iff.2 hx, h9⟩
theorem Lst.tail {x : Rg} {l : List Rg} (h : Lst (x :: l)) : Lst l := ⟨fun y hy => h.pos y (by simp [hy]), (List.pairwise_cons.1 h.gap).2⟩
theorem Lst.after {x : Rg} {l : List Rg} (h : Lst (x :: l)) {i : Int} (hi : hasR l i) : x.2 < i := by
  obtain ⟨y, hy, h1, -⟩ := hi
  have := (List.pairwise_cons.1 h.gap).1 y hy
  omega
theorem Lst.uniq : ∀ {l m : List Rg}, Lst l → Lst m → (∀ i, hasR l i ↔ hasR m i) → l = m
  | [], [], _, _, _ => rfl
  | [], y :: m, _, hm, h => absurd ((h y.1).2 ⟨y, by simp, by have := hm.pos y (by simp); omega⟩) (hasR_nil _)
  | x :: l, [], hl, _, h => absurd ((h x.1).1 ⟨x, by simp, by have := hl.pos x (by simp); omega⟩) (hasR_nil _)
  | x :: l, y :: m, hl, hm, h => by
    have px := hl.pos x (by simp)
    have py := hm.pos y (by simp)
    have low : ∀ {z : Rg} {k : List Rg}, Lst (z :: k) → ∀ i, hasR (z :: k) i → z.1 ≤ i := fun {z k} hz i hi => by
      rcases (hasR_cons z k i).1 hi with h9 | h9
      · exact h9.1
      · have := hz.after h9; have := hz.pos z (by simp); omega
    have e1 : x.1 = y.1 := by
      have a := low hm x.1 ((h x.1).1 ((hasR_cons _ _ _).2 (.inl ⟨by omega, px⟩)))
      have b := low hl y.1 ((h y.1).2 ((hasR_cons _ _ _).2 (.inl ⟨by omega, py⟩)))
      omega
    have out : ∀ {z : Rg} {k : List Rg}, Lst (z :: k) → ¬ hasR (z :: k) z.2 := fun {z k} hz hi => by
      rcases (hasR_cons z k _).1 hi with h9 | h9
      · omega
      · have := hz.after h9; omega
    have e2 : x.2 = y.2 := by
      rcases Int.lt_trichotomy x.2 y.2 with h9 | h9 | h9
      · exact absurd ((h x.2).2 ((hasR_cons _ _ _).2 (.inl ⟨by omega, h9⟩))) (out hl)
      · exact h9
      · exact absurd ((h y.2).1 ((hasR_cons _ _ _).2 (.inl ⟨by omega, h9⟩))) (out hm)
    have e : x = y := Prod.ext e1 e2
    subst e
    have ht : l = m := Lst.uniq hl.tail hm.tail (fun i => by
      constructor
      · intro hi
        have h9 := hl.after hi
        rcases (hasR_cons _ _ _).1 ((h i).1 ((hasR_cons _ _ _).2 (.inr hi))) with h8 | h8
        · omega
        · exact h8
      · intro hi
        have h9 := hm.after hi
        rcases (hasR_cons _ _ _).1 ((h i).2 ((hasR_cons _ _ _).2 (.inr hi))) with h8 | h8
        · omega
        · exact h8)
    rw [ht]
theorem Lst.snoc {l : List Rg} {x : Rg} (h : Lst l) (hx : x.1 < x.2) (hg : ∀ y ∈ l, y.2 < x.1) : Lst (l ++ [x]) := by
  refine ⟨fun y hy => ?_, List.pairwise_append.2 ⟨h.gap, by simp, fun a ha b hb => by rw [List.mem_singleton.1 hb]; exact hg a ha⟩⟩
  rcases List.mem_append.1 hy with hy | hy
  · exact h.pos y hy
  · rw [List.mem_singleton.1 hy]; exact hx
theorem Lst.init {l : List Rg} {x : Rg} (h : Lst (l ++ [x])) : Lst l ∧ x.1 < x.2 ∧ ∀ y ∈ l, y.2 < x.1 := by
  obtain ⟨h1, -, h3⟩ := List.pairwise_append.1 h.gap
  exact ⟨⟨fun y hy => h.pos y (by simp [hy]), h1⟩, h.pos x (by simp), fun y hy => h3 y hy x (by simp)⟩
/-- the program's step: a range behind those that are there -/
def mstep (out : List Rg) (x : Rg) : List Rg := if x.2 ≤ x.1 then out else match out.getLast? with
  | none => out ++ [x]
  | some y => if x.1 ≤ y.2 then out.dropLast ++ [(y.1, max y.2 x.2)] else out ++ [x]
/-- what it keeps: a least form of what came, each beginning where one of those begins -/
structure MI (out p : List Rg) : Prop where
  lst : Lst out
  has : ∀ i, hasR out i ↔ hasR p i
  beg : ∀ y ∈ out, ∃ z ∈ p, y.1 = z.1
theorem MI.nil : MI [] [] := ⟨Lst.nil, fun _ => Iff.rfl, by simp⟩
theorem last_split {α : Type} {l : List α} {y : α} (h : l.getLast? = some y) : l = l.dropLast ++ [y] := by
  have hne : l ≠ [] := by intro e; rw [e] at h; simp at h
  have h2 : l.getLast hne = y := by rw [List.getLast?_eq_some_getLast hne] at h; simpa using h
  rw [← h2]
  exact (List.dropLast_concat_getLast hne).symm
theorem MI.step {out p : List Rg} {x : Rg} (h : MI out p) (hx : ∀ z ∈ p, z.1 ≤ x.1) : MI (mstep out x) (p ++ [x]) := by
  have beg1 : ∀ y ∈ out, ∃ z ∈ p ++ [x], y.1 = z.1 := fun y hy => by
    obtain ⟨z, hz, e⟩ := h.beg y hy
    exact ⟨z, by simp [hz], e⟩
  unfold mstep
  by_cases he : x.2 ≤ x.1
  · rw [if_pos he]
    refine ⟨h.lst, fun i => ?_, beg1⟩
    rw [hasR_snoc, h.has i]
    constructor
    · exact .inl
    · rintro (h9 | h9)
      · exact h9
      · omega
  · rw [if_neg he]
    cases hl : out.getLast? with
    | none =>
      simp only
      have hn : out = [] := List.getLast?_eq_none_iff.1 hl
      subst hn
      refine ⟨⟨by simp; omega, by simp⟩, fun i => ?_, fun y hy => ⟨x, by simp, by simp at hy; rw [hy]⟩⟩
      rw [List.nil_append, hasR_one, hasR_snoc, ← h.has i]
      constructor
      · exact .inr
      · rintro (h9 | h9)
        · exact absurd h9 (hasR_nil _)
        · exact h9
    | some y =>
      simp only
      have hs := last_split hl
      obtain ⟨o, ho⟩ : ∃ o, o = out.dropLast := ⟨_, rfl⟩
      rw [← ho] at hs ⊢
      subst hs
      obtain ⟨i1, i2, i3⟩ := h.lst.init
      obtain ⟨z, hz, ez⟩ := h.beg y (by simp)
      have hyx : y.1 ≤ x.1 := by have := hx z hz; omega
      by_cases hc : x.1 ≤ y.2
      · rw [if_pos hc]
        refine ⟨Lst.snoc i1 (show y.1 < max y.2 x.2 by omega) i3, fun i => ?_, fun v hv => ?_⟩
        · rw [hasR_snoc, hasR_snoc, ← h.has i, hasR_snoc]
          simp only
          constructor
          · rintro (h9 | h9)
            · exact .inl (.inl h9)
            · by_cases h8 : i < y.2
              · exact .inl (.inr ⟨h9.1, h8⟩)
              · exact .inr ⟨by omega, by omega⟩
          · rintro ((h9 | h9) | h9)
            · exact .inl h9
            · exact .inr ⟨h9.1, by omega⟩
            · exact .inr ⟨by omega, by omega⟩
        · rcases List.mem_append.1 hv with hv | hv
          · exact beg1 v (by simp [hv])
          · rw [List.mem_singleton.1 hv]; exact beg1 y (by simp)
      · rw [if_neg hc]
        refine ⟨Lst.snoc h.lst (by omega) (fun v hv => ?_), fun i => ?_, fun v hv => ?_⟩
        · rcases List.mem_append.1 hv with hv | hv
          · have := i3 v hv; omega
          · rw [List.mem_singleton.1 hv]; omega
        · rw [hasR_snoc (o ++ [y]), hasR_snoc p, h.has i]
        · rcases List.mem_append.1 hv with hv | hv
          · exact beg1 v hv
          · exact ⟨x, by simp, by rw [List.mem_singleton.1 hv]⟩
/-- the numbers of the list from a number on -/
def cntR (l : List Rg) (a : Int) : Nat := l.countP fun x => decide (a < x.2)
theorem cntR_mono (l : List Rg) {a b : Int} (h : a ≤ b) : cntR l b ≤ cntR l a := by
  unfold cntR
  apply List.countP_mono_left
  intro x _ hx
  simp at hx ⊢
  omega
theorem cntR_less : ∀ (l : List Rg) {a b : Int}, a ≤ b → (∃ x ∈ l, a < x.2 ∧ x.2 ≤ b) → cntR l b < cntR l a
  | [], _, _, _, ⟨x, hx, _⟩ => by cases hx
  | y :: l, a, b, h, ⟨x, hx, h1, h2⟩ => by
    unfold cntR
    rw [List.countP_cons, List.countP_cons]
    have hm : cntR l b ≤ cntR l a := cntR_mono l h
    unfold cntR at hm
    rcases List.mem_cons.1 hx with rfl | hx
    · rw [if_neg (by simp; omega), if_pos (by simpa using h1)]
      omega
    · have h3 := cntR_less l h ⟨x, hx, h1, h2⟩
      unfold cntR at h3
      by_cases h4 : b < y.2
      · rw [if_pos (by simpa using h4), if_pos (by simp; omega)]; omega
      · rw [if_neg (by simpa using h4)]
        split <;> omega
/-- what the document's next finds -/
def NextS (l : List Rg) (a : Int) (f : Int) (ok : Bool) : Prop := if ok then a ≤ f ∧ hasR l f ∧ ∀ i, a ≤ i → i < f → ¬ hasR l i else ∀ i, a ≤ i → ¬ hasR l i
theorem NextS.nil (a : Int) (f : Int) : NextS [] a f false := fun i _ => hasR_nil i
theorem NextS.skip {l : List Rg} {a f : Int} {ok : Bool} {x : Rg} (h : NextS l a f ok) (hx : x.2 ≤ x.1 ∨ x.2 ≤ a) : NextS (l ++ [x]) a f ok := by
  have hn : ∀ i, a ≤ i → hasR (l ++ [x]) i → hasR l i := fun i hi h9 => by
    rcases (hasR_snoc _ _ _).1 h9 with h8 | h8
    · exact h8
    · omega
  cases ok
  · intro i hi h9
    exact h i hi (hn i hi h9)
  · obtain ⟨h1, h2, h3⟩ := h
    exact ⟨h1, (hasR_snoc _ _ _).2 (.inl h2), fun i hi hf h9 => h3 i hi hf (hn i hi h9)⟩
theorem NextS.take {l : List Rg} {a f : Int} {ok : Bool} {x : Rg} (h : NextS l a f ok) (h1 : x.1 < x.2) (h2 : a < x.2) (hc : ok = false ∨ max x.1 a < f) : NextS (l ++ [x]) a (max x.1 a) true := by
  refine ⟨by omega, (hasR_snoc _ _ _).2 (.inr ⟨by omega, by omega⟩), fun i hi hf h9 => ?_⟩
  rcases (hasR_snoc _ _ _).1 h9 with h8 | h8
  · cases ok
    · exact h i hi h8
    · rcases hc with hc | hc
      · cases hc
      · exact h.2.2 i hi (by omega) h8
  · omega
theorem NextS.keep {l : List Rg} {a f : Int} {x : Rg} (h : NextS l a f true) (h1 : x.1 < x.2) (hc : f ≤ max x.1 a) : NextS (l ++ [x]) a f true := by
  obtain ⟨k1, k2, k3⟩ := h
  refine ⟨k1, (hasR_snoc _ _ _).2 (.inl k2), fun i hi hf h9 => ?_⟩
  rcases (hasR_snoc _ _ _).1 h9 with h8 | h8
  · exact k3 i hi hf h8
  · omega
/-- what the document's end finds -/
def EndS (l : List Rg) (a e : Int) : Prop := a ≤ e ∧ ¬ hasR l e ∧ ∀ i, a ≤ i → i < e → hasR l i
/-- the document's Least, on its way: all below A are told -/
structure LI (l out : List Rg) (A : Int) : Prop where
  lst : Lst out
  ends : ∀ y ∈ out, y.2 ≤ A
  off : out ≠ [] → ¬ hasR l A
  has : ∀ i, i < A → (hasR out i ↔ hasR l i)
theorem LI.step {l out : List Rg} {A f e : Int} (h : LI l out A) (hn : NextS l A f true) (he : EndS l f e) : LI l (out ++ [(f, e)]) e ∧ cntR l e < cntR l f := by
  obtain ⟨n1, n2, n3⟩ := hn
  obtain ⟨e1, e2, e3⟩ := he
  have hfe : f < e := by
    rcases Int.lt_or_eq_of_le e1 with h9 | h9
    · exact h9
    · rw [← h9] at e2; exact absurd n2 e2
  refine ⟨⟨Lst.snoc h.lst hfe (fun y hy => ?_), fun y hy => ?_, fun _ => e2, fun i hi => ?_⟩, ?_⟩
  · have h1 := h.ends y hy
    have h2 := h.off (by intro e9; rw [e9] at hy; cases hy)
    show y.2 < f
    rcases Int.lt_or_eq_of_le n1 with h9 | h9
    · omega
    · rw [h9] at h2; exact absurd n2 h2
  · rcases List.mem_append.1 hy with hy | hy
    · have := h.ends y hy; omega
    · rw [List.mem_singleton.1 hy]; exact Int.le_refl _
  · rw [hasR_snoc]
    by_cases h1 : i < A
    · rw [h.has i h1]
      constructor
      · rintro (h9 | h9)
        · exact h9
        · simp only at h9; omega
      · exact .inl
    · constructor
      · rintro (⟨y, hy, h9⟩ | h9)
        · have := h.ends y hy; omega
        · exact e3 i h9.1 h9.2
      · intro h9
        refine .inr ⟨?_, hi⟩
        show f ≤ i
        rcases Int.lt_or_le i f with h8 | h8
        · exact absurd h9 (n3 i (by omega) h8)
        · exact h8
  · obtain ⟨x, hx, h1, h2⟩ := n2
    refine cntR_less l e1 ⟨x, hx, h2, ?_⟩
    rcases Int.lt_or_le e x.2 with h9 | h9
    · exact absurd ⟨x, hx, by omega, h9⟩ e2
    · exact h9
theorem LI.done {l out : List Rg} {A f : Int} (h : LI l out A) (hn : NextS l A f false) : Lst out ∧ ∀ i, hasR out i ↔ hasR l i := by
  refine ⟨h.lst, fun i => ?_⟩
  by_cases h1 : i < A
  · exact h.has i h1
  · constructor
    · rintro ⟨y, hy, h9⟩
      have := h.ends y hy
      omega
    · intro h9
      exact absurd h9 (hn i (by omega))
/-- the numbers from 0 to n - 1 that are missing, all below a told -/
structure NI (l out : List Rg) (n a : Int) : Prop where
  lst : Lst out
  ends : ∀ y ∈ out, y.2 < a
  a0 : 0 ≤ a
  has : ∀ i, hasR out i ↔ 0 ≤ i ∧ i < n ∧ i < a ∧ ¬ hasR l i
def MissS (l out : List Rg) (n : Int) : Prop := Lst out ∧ ∀ i, hasR out i ↔ 0 ≤ i ∧ i < n ∧ ¬ hasR l i
theorem NI.start (l : List Rg) (n : Int) : NI l [] n 0 := ⟨Lst.nil, by simp, Int.le_refl _, fun i => ⟨fun h => absurd h (hasR_nil i), fun h => by omega⟩⟩
/-- out with the gap from a to f -/
def gapped (out : List Rg) (a f : Int) : List Rg := if a < f then out ++ [(a, f)] else out
theorem NI.gap {l out : List Rg} {n a f : Int} (h : NI l out n a) (hf : f ≤ n) (hno : ∀ i, a ≤ i → i < f → ¬ hasR l i) : Lst (gapped out a f) ∧ (∀ y ∈ gapped out a f, y.2 < a ∨ y.2 = f) ∧ ∀ i, hasR (gapped out a f) i ↔ 0 ≤ i ∧ i < n ∧ (i < a ∨ i < f) ∧ ¬ hasR l i := by
  unfold gapped
  by_cases h1 : a < f
  · rw [if_pos h1]
    refine ⟨Lst.snoc h.lst h1 h.ends, fun y hy => ?_, fun i => ?_⟩
    · rcases List.mem_append.1 hy with hy | hy
      · exact .inl (h.ends y hy)
      · rw [List.mem_singleton.1 hy]; exact .inr rfl
    · rw [hasR_snoc, h.has i]
      simp only
      have := h.a0
      constructor
      · rintro (⟨h2, h3, h4, h5⟩ | ⟨h2, h3⟩)
        · exact ⟨h2, h3, .inl h4, h5⟩
        · exact ⟨by omega, by omega, .inr h3, hno i h2 h3⟩
      · rintro ⟨h2, h3, h4, h5⟩
        by_cases h6 : i < a
        · exact .inl ⟨h2, h3, h6, h5⟩
        · exact .inr ⟨by omega, by omega⟩
  · rw [if_neg h1]
    refine ⟨h.lst, fun y hy => .inl (h.ends y hy), fun i => ?_⟩
    rw [h.has i]
    constructor
    · rintro ⟨h2, h3, h4, h5⟩; exact ⟨h2, h3, .inl h4, h5⟩
    · rintro ⟨h2, h3, h4, h5⟩; exact ⟨h2, h3, by omega, h5⟩
/-- the document's round: nothing more up to n -/
theorem NI.last {l out : List Rg} {n a : Int} (h : NI l out n a) (hno : ∀ i, a ≤ i → i < n → ¬ hasR l i) : MissS l (gapped out a n) n := by
  obtain ⟨h1, -, h3⟩ := h.gap (Int.le_refl n) hno
  refine ⟨h1, fun i => ?_⟩
  rw [h3 i]
  constructor
  · rintro ⟨a1, a2, -, a4⟩; exact ⟨a1, a2, a4⟩
  · rintro ⟨a1, a2, a4⟩; exact ⟨a1, a2, .inr a2, a4⟩
theorem NI.step {l out : List Rg} {n a f e : Int} (h : NI l out n a) (hn : NextS l a f true) (hf : f ≤ n) (he : EndS l f e) : NI l (gapped out a f) n e ∧ cntR l e < cntR l a := by
  obtain ⟨n1, n2, n3⟩ := hn
  obtain ⟨e1, e2, e3⟩ := he
  have hfe : f < e := by
    rcases Int.lt_or_eq_of_le e1 with h9 | h9
    · exact h9
    · rw [← h9] at e2; exact absurd n2 e2
  obtain ⟨h1, h2, h3⟩ := h.gap hf n3
  have := h.a0
  refine ⟨⟨h1, fun y hy => ?_, by omega, fun i => ?_⟩, ?_⟩
  · rcases h2 y hy with h9 | h9 <;> omega
  · rw [h3 i]
    constructor
    · rintro ⟨a1, a2, a3, a4⟩; exact ⟨a1, a2, by omega, a4⟩
    · rintro ⟨a1, a2, a3, a4⟩
      refine ⟨a1, a2, ?_, a4⟩
      by_cases h9 : i < f
      · exact .inr h9
      · exact absurd (e3 i (by omega) a3) a4
  · obtain ⟨x, hx, h4, h5⟩ := n2
    refine cntR_less l (by omega) ⟨x, hx, by omega, ?_⟩
    rcases Int.lt_or_le e x.2 with h9 | h9
    · exact absurd ⟨x, hx, by omega, h9⟩ e2
    · exact h9
theorem NI.over {l out : List Rg} {n a : Int} (h : NI l out n a) (ha : n ≤ a) : MissS l out n := by
  refine ⟨h.lst, fun i => ?_⟩
  rw [h.has i]
  constructor
  · rintro ⟨a1, a2, -, a4⟩; exact ⟨a1, a2, a4⟩
  · rintro ⟨a1, a2, a4⟩; exact ⟨a1, a2, by omega, a4⟩
/-- the program's round, over a least form p -/
structure PI (p out : List Rg) (n a : Int) : Prop where
  ni : NI p out n a
  mx : ∀ z ∈ p, z.2 ≤ a
  at_ : a = 0 ∨ ∃ z ∈ p, a = z.2
theorem PI.start (n : Int) : PI [] [] n 0 := ⟨NI.start [] n, by simp, .inl rfl⟩
theorem PI.step {p out : List Rg} {n a : Int} {x : Rg} (h : PI p out n a) (hx : x.1 < x.2) (hg : ∀ z ∈ p, z.2 < x.1) : PI (p ++ [x]) (gapped out a (min x.1 n)) n (max a x.2) := by
  have hno : ∀ i, a ≤ i → ¬ hasR p i := fun i hi ⟨z, hz, h9⟩ => by have := h.mx z hz; omega
  obtain ⟨h1, h2, h3⟩ := h.ni.gap (f := min x.1 n) (by omega) (fun i hi _ => hno i hi)
  have a0 := h.ni.a0
  have hax : a = 0 ∨ a < x.1 := by
    rcases h.at_ with h9 | ⟨z, hz, h9⟩
    · exact .inl h9
    · have := hg z hz; exact .inr (by omega)
  refine ⟨⟨h1, fun y hy => ?_, by omega, fun i => ?_⟩, fun z hz => ?_, ?_⟩
  · rcases h2 y hy with h9 | h9 <;> omega
  · rw [h3 i, hasR_snoc]
    constructor
    · rintro ⟨a1, a2, a3, a4⟩
      exact ⟨a1, a2, by omega, fun h9 => by rcases h9 with h9 | h9; (· exact a4 h9); (· omega)⟩
    · rintro ⟨a1, a2, a3, a4⟩
      refine ⟨a1, a2, ?_, fun h9 => a4 (.inl h9)⟩
      by_cases h9 : i < a
      · exact .inl h9
      · have h8 : ¬ (x.1 ≤ i ∧ i < x.2) := fun h7 => a4 (.inr h7)
        exact .inr (by omega)
  · rcases List.mem_append.1 hz with hz | hz
    · have := h.mx z hz; omega
    · rw [List.mem_singleton.1 hz]; omega
  · rcases h.at_ with h9 | ⟨z, hz, h9⟩
    · by_cases h8 : x.2 ≤ 0
      · exact .inl (by omega)
      · exact .inr ⟨x, by simp, by omega⟩
    · exact .inr ⟨x, by simp, by have := hg z hz; omega⟩
theorem PI.last {p out : List Rg} {n a : Int} (h : PI p out n a) : MissS p (gapped out a n) n := h.ni.last (fun i hi _ ⟨z, hz, h9⟩ => by have := h.mx z hz; omega)
theorem MissS.uniq {l m a b : List Rg} {n : Int} (h1 : MissS l a n) (h2 : MissS m b n) (h : ∀ i, hasR l i ↔ hasR m i) : a = b := Lst.uniq h1.1 h2.1 (fun i => by rw [h1.2 i, h2.2 i, h i])
end Go.Proofs.YtdoikcolkbjnfaaGreat
namespace Go.Proofs.YtdoikcolkbjnfaaGreat
set_option linter.unusedVariables false
set_option linter.unusedSimpArgs false
abbrev Seg := List UInt8
/-- the length of the first that is there -/
def frL : List Seg → Nat
  | [] => 0
  | x :: r => if x.length = 0 then frL r else x.length
def lenS (S : List Seg) : Nat := frL (S.take (S.length - 1))
def lastS (S : List Seg) : Nat := (S[S.length - 1]?.getD []).length
def uniD (n : Nat) (D : List Seg) : Bool := D.all (fun x => x.length == 0 || x.length == n)
def capB (N l z : Nat) : Bool := if l = 0 then decide (N * z ≤ 1024) else decide (z ≤ l) && decide ((N - 1) * l + max 1 z ≤ 1024)
def fitS (S : List Seg) : Bool := uniD (lenS S) (S.take (S.length - 1)) && capB S.length (lenS S) (lastS S)
theorem frL_zero : ∀ {D : List Seg}, frL D = 0 ↔ ∀ x ∈ D, x.length = 0
  | [] => by simp [frL]
  | x :: r => by
    unfold frL
    by_cases h : x.length = 0
    · rw [if_pos h, frL_zero]
      constructor
      · intro h1 y hy
        rcases List.mem_cons.1 hy with rfl | hy
        · exact h
        · exact h1 y hy
      · intro h1 y hy
        exact h1 y (by simp [hy])
    · rw [if_neg h]
      exact ⟨fun e => absurd e h, fun h1 => h1 x (by simp)⟩
theorem frL_mem : ∀ {D : List Seg}, frL D ≠ 0 → ∃ x ∈ D, x.length = frL D
  | [] => fun h => absurd rfl h
  | x :: r => by
    unfold frL
    by_cases h : x.length = 0
    · rw [if_pos h]
      intro h1
      obtain ⟨y, hy, e⟩ := frL_mem h1
      exact ⟨y, by simp [hy], e⟩
    · rw [if_neg h]
      intro _
      exact ⟨x, by simp, rfl⟩
theorem uniD_iff {n : Nat} {D : List Seg} : uniD n D = true ↔ ∀ x ∈ D, x.length = 0 ∨ x.length = n := by simp [uniD]
theorem frL_of {n : Nat} {D : List Seg} (h : ∀ x ∈ D, x.length = 0 ∨ x.length = n) (hx : ∃ x ∈ D, x.length = n) (hn : 0 < n) : frL D = n := by
  have h0 : frL D ≠ 0 := fun e => by
    obtain ⟨x, h1, h2⟩ := hx
    have := frL_zero.1 e x h1
    omega
  obtain ⟨y, hy, e⟩ := frL_mem h0
  rcases h y hy with h1 | h1
  · omega
  · omega
theorem mem_set' {D : List Seg} {k : Nat} {xs x : Seg} (h : x ∈ D.set k xs) : x ∈ D ∨ x = xs := List.mem_or_eq_of_mem_set h
theorem mem_of_ne {D : List Seg} {k : Nat} {xs x : Seg} (h : x ∈ D) (hk : D[k]? ≠ some x) : x ∈ D.set k xs := by
  obtain ⟨j, hj, rfl⟩ := List.mem_iff_getElem.1 h
  have hne : k ≠ j := fun e => hk (by subst e; exact List.getElem?_eq_getElem hj)
  exact List.mem_iff_getElem.2 ⟨j, by simpa using hj, by rw [List.getElem_set_ne hne]⟩
theorem set_take (S : List Seg) (k : Nat) (xs : Seg) (hk : k + 1 < S.length) : (S.set k xs).take ((S.set k xs).length - 1) = (S.take (S.length - 1)).set k xs := by
  rw [List.length_set, List.take_set]
theorem set_takeL (S : List Seg) (k : Nat) (xs : Seg) (hk : k + 1 = S.length) : (S.set k xs).take ((S.set k xs).length - 1) = S.take (S.length - 1) := by
  rw [List.length_set, List.take_set, List.set_eq_of_length_le (by rw [List.length_take]; omega)]
theorem lastS_set (S : List Seg) (k : Nat) (xs : Seg) (hk : k + 1 < S.length) : lastS (S.set k xs) = lastS S := by
  unfold lastS
  rw [List.length_set, List.getElem?_set_ne (by omega)]
theorem lastS_setL (S : List Seg) (k : Nat) (xs : Seg) (hk : k + 1 = S.length) : lastS (S.set k xs) = xs.length := by
  unfold lastS
  rw [List.length_set, show S.length - 1 = k by omega, List.getElem?_set_self (by omega)]
  rfl
theorem fit_last (S : List Seg) (k : Nat) (xs : Seg) (hk : k + 1 = S.length) (hu : uniD (lenS S) (S.take (S.length - 1)) = true) :
    lenS (S.set k xs) = lenS S ∧ lastS (S.set k xs) = xs.length ∧ fitS (S.set k xs) = capB S.length (lenS S) xs.length := by
  have h1 : lenS (S.set k xs) = lenS S := by unfold lenS; rw [set_takeL S k xs hk]
  refine ⟨h1, lastS_setL S k xs hk, ?_⟩
  unfold fitS
  rw [h1, lastS_setL S k xs hk, set_takeL S k xs hk, hu, List.length_set]
  rfl
theorem fit_mid (S : List Seg) (k : Nat) (xs : Seg) (hk : k + 1 < S.length) (hu : uniD (lenS S) (S.take (S.length - 1)) = true) (hx : 0 < xs.length) (hl : lenS S = 0 ∨ lenS S = xs.length) :
    lenS (S.set k xs) = xs.length ∧ lastS (S.set k xs) = lastS S ∧ fitS (S.set k xs) = capB S.length xs.length (lastS S) := by
  have hall : ∀ x ∈ (S.take (S.length - 1)).set k xs, x.length = 0 ∨ x.length = xs.length := fun x h => by
    rcases mem_set' h with h1 | rfl
    · rcases hl with h2 | h2
      · exact .inl (frL_zero.1 h2 x h1)
      · rcases uniD_iff.1 hu x h1 with h3 | h3
        · exact .inl h3
        · exact .inr (h3.trans h2)
    · exact .inr rfl
  have hkt : k < (S.take (S.length - 1)).length := by rw [List.length_take]; omega
  have h1 : lenS (S.set k xs) = xs.length := by
    unfold lenS
    rw [set_take S k xs hk]
    exact frL_of hall ⟨xs, List.mem_iff_getElem.2 ⟨k, by simpa using hkt, by rw [List.getElem_set_self]⟩, rfl⟩ hx
  refine ⟨h1, lastS_set S k xs hk, ?_⟩
  unfold fitS
  rw [h1, lastS_set S k xs hk, set_take S k xs hk, uniD_iff.2 hall, List.length_set]
  rfl
theorem fit_no (S : List Seg) (k : Nat) (xs : Seg) (hk : k + 1 < S.length) (hx : 0 < xs.length) (h0 : S[k]? = some []) (hl : lenS S ≠ 0) (hm : lenS S ≠ xs.length) : fitS (S.set k xs) = false := by
  rcases hf : fitS (S.set k xs) with _ | _
  · rfl
  · exfalso
    unfold fitS at hf
    rw [Bool.and_eq_true] at hf
    have hu := uniD_iff.1 hf.1
    unfold lenS at hu
    rw [set_take S k xs hk] at hu
    have hkt : k < (S.take (S.length - 1)).length := by rw [List.length_take]; omega
    have h1 := hu xs (List.mem_iff_getElem.2 ⟨k, by simpa using hkt, by rw [List.getElem_set_self]⟩)
    obtain ⟨y, hy, e⟩ := frL_mem (D := S.take (S.length - 1)) hl
    have h2 := hu y (mem_of_ne hy (fun e2 => by
      rw [List.getElem?_take_of_lt (by omega), h0] at e2
      cases e2
      exact hl e.symm))
    have e' : y.length = lenS S := e
    omega
/-- what Put answers, and what is there behind it; none: a box that nobody made -/
def putE : Option (List Seg) → Int → Seg → Int
  | none, _, _ => 1
  | some S, i, xs => if i < 0 ∨ (S.length : Int) ≤ i ∨ xs.length = 0 ∨ 1024 < xs.length then 1 else if (S[i.toNat]?.getD []).length = 0 then (if fitS (S.set i.toNat xs) = true then 0 else 120) else if S[i.toNat]?.getD [] = xs then 3 else 120
def putS : Option (List Seg) → Int → Seg → Option (List Seg)
  | none, _, _ => none
  | some S, i, xs => some (if i < 0 ∨ (S.length : Int) ≤ i ∨ xs.length = 0 ∨ 1024 < xs.length then S else if (S[i.toNat]?.getD []).length = 0 then (if fitS (S.set i.toNat xs) = true then S.set i.toNat xs else S) else S)
def cntS : Option (List Seg) → Nat
  | none => 0
  | some S => S.length
def allS (S : List Seg) : Bool := S.all (fun x => x.length != 0)
def wholeB : Option (List Seg) → Bool
  | none => false
  | some S => allS S
def wholeX : Option (List Seg) → Seg
  | none => []
  | some S => if allS S = true then S.flatten else []
/-- the ranges of those that are there, one each -/
def ones (S : List Seg) : Nat → List Rg
  | 0 => []
  | k + 1 => ones S k ++ (if (S[k]?.getD []).length = 0 then [] else [((k : Int), (k : Int) + 1)])
def onesO : Option (List Seg) → List Rg
  | none => []
  | some S => ones S S.length
structure GotIs (rs : List Rg) (St : Option (List Seg)) : Prop where
  lst : Lst rs
  has : ∀ i, hasR rs i ↔ hasR (onesO St) i
theorem GotIs.uniq {rs ss : List Rg} {St : Option (List Seg)} (h : GotIs rs St) (k : GotIs ss St) : rs = ss := Lst.uniq h.lst k.lst (fun i => (h.has i).trans (k.has i).symm)
theorem ones_len (S : List Seg) : ∀ k, (ones S k).length ≤ k
  | 0 => Nat.le_refl _
  | k + 1 => by
    have := ones_len S k
    unfold ones
    rw [List.length_append]
    split <;> simp <;> omega
theorem ones_mem (S : List Seg) : ∀ k, ∀ z ∈ ones S k, 0 ≤ z.1 ∧ z.1 < (k : Int) ∧ z.2 = z.1 + 1
  | 0, z, h => by cases h
  | k + 1, z, h => by
    unfold ones at h
    rcases List.mem_append.1 h with h1 | h1
    · have := ones_mem S k z h1
      omega
    · split at h1
      · cases h1
      · rw [List.mem_singleton] at h1
        subst h1
        exact ⟨by simp, by simp; omega, rfl⟩
end Go.Proofs.YtdoikcolkbjnfaaGreat
