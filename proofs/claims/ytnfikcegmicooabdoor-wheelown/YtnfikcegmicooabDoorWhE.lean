import Derived.Test.YtnfikcegmicooabDoorWhD
namespace Go.Proofs.YtnfikcegmicooabDoor
set_option linter.unusedVariables false
set_option linter.unusedSimpArgs false
open Go.RowKit Go.Maps
/-- nothing changed but the blocks that F names -/
structure Chg (F : Nat → Prop) (w w' : World) : Prop where
  os : w'.os = w.os
  tape : w'.tape = w.tape
  output : w'.output = w.output
  size : w.heap.size ≤ w'.heap.size
  block : ∀ k, k < w.heap.size → ¬ F k → w'.heap[k]? = w.heap[k]?
theorem Chg.of_grown {F : Nat → Prop} {w w' : World} {row : Option Nat} (h : w.grownBy w' row) (hF : ∀ b, row = some b → F b) : Chg F w w' :=
  ⟨h.os, h.tape, h.output, h.size, fun k hk hn => h.block k hk (fun e => hn (hF k e.symm))⟩
theorem Chg.of_below {F : Nat → Prop} {w w' : World} (h : Below w.heap.size w w') : Chg F w w' := ⟨h.os, h.tape, h.output, h.size, fun k hk _ => h.block k hk⟩
theorem Chg.refl (F : Nat → Prop) (w : World) : Chg F w w := Chg.of_below (Below.refl _ _)
/-- what changes later may be new -/
theorem Chg.trans {F G : Nat → Prop} {a b c : World} (h : Chg F a b) (k : Chg G b c) (hG : ∀ i, G i → F i ∨ a.heap.size ≤ i) : Chg F a c := by
  refine ⟨k.os.trans h.os, k.tape.trans h.tape, k.output.trans h.output, Nat.le_trans h.size k.size, fun i hi hn => ?_⟩
  refine (k.block i (Nat.lt_of_lt_of_le hi h.size) (fun hg => ?_)).trans (h.block i hi hn)
  rcases hG i hg with h1 | h1
  · exact hn h1
  · omega
theorem Chg.mono {F G : Nat → Prop} {w w' : World} (h : Chg F w w') (hG : ∀ i, F i → G i) : Chg G w w' := ⟨h.os, h.tape, h.output, h.size, fun k hk hn => h.block k hk (fun hf => hn (hG k hf))⟩
theorem Chg.below {F : Nat → Prop} {w w' : World} {B : Nat} (h : Chg F w w') (hF : ∀ i, F i → B ≤ i) (hB : B ≤ w.heap.size) : Below B w w' :=
  ⟨h.os, h.tape, h.output, h.size, fun k hk => h.block k (by omega) (fun hf => by have := hF k hf; omega)⟩
def upd {α : Type} (C : Nat → α) (i : Nat) (x : α) : Nat → α := fun j => if j = i then x else C j
def upd2 {α : Type} (C : Nat → Nat → α) (i j : Nat) (x : α) : Nat → Nat → α := fun k s => if k = i ∧ s = j then x else C k s
theorem upd_same {α : Type} (C : Nat → α) (i : Nat) (x : α) : upd C i x i = x := by simp [upd]
theorem upd_other {α : Type} (C : Nat → α) {i j : Nat} (h : j ≠ i) (x : α) : upd C i x j = C j := by simp [upd, h]
theorem upd2_same {α : Type} (C : Nat → Nat → α) (i j : Nat) (x : α) : upd2 C i j x i j = x := by simp [upd2]
theorem upd2_other {α : Type} (C : Nat → Nat → α) {i j k s : Nat} (h : ¬ (k = i ∧ s = j)) (x : α) : upd2 C i j x k s = C k s := by simp only [upd2, if_neg h]
/-- a place -/
structure Pl where
  k : Nat
  s : Nat
  i : Nat
abbrev plv (x : Pl) : Value := .agg #[.int .i64 (x.k : Int), .int .i64 (x.s : Int), .int .i64 (x.i : Int)]
abbrev tWh : TypeId := 60
abbrev tMp : TypeId := 58
abbrev tPl : TypeId := 85
def selfR (v : Value) : Option (DataW Value × List MemPlace) := some (.held v, [])
theorem keyI : Keyed Tryd.prog 3 := int_keyed Tryd.underlying3
theorem zeroP (w : World) : (zeroValue tPl).run Tryd.prog w = .ok (plv ⟨0, 0, 0⟩) w := by kernel_rfl
def inI (z : Int) : Prop := -9223372036854775808 ≤ z ∧ z ≤ 9223372036854775807
def kI (z : Int) : Lit := .int .i64 z
theorem kI_of {z : Int} (h : inI z) : keyOf Tryd.prog 3 (.int .i64 z) = some (kI z) := keyOf_int_mk Tryd.underlying3 (a := z) (by obtain ⟨h1, h2⟩ := h; simp [Lit.wf, IntKind.min, IntKind.max, IntKind.signed, IntKind.bits]; omega)
theorem kI_ne {z y : Int} (h : z ≠ y) : kI z ≠ kI y := fun e => h (Lit.int.inj e).2
theorem kI_key {z : Int} (h : inI z) : WideAt.IsKeyLit (kI z) := keyI.key (kI_of h)
/-- the cells of a wheel -/
structure Cells (C : Array Value) (N S m : Nat) (V : Nat → Nat → Value) (fl : Nat → Nat) : Prop where
  sz : C.size = 523
  c0 : C[0]? = some (.int .u64 (N : Int))
  c1 : C[1]? = some (.int .u64 (S : Int))
  cm : C[522]? = some (.map (some m))
  cv : ∀ k s, k < 8 → s < 64 → C[2 + 65 * k + s]? = some (V k s)
  cf : ∀ k, k < 8 → C[2 + 65 * k + 64]? = some (.int .u64 (fl k : Int))
theorem set_get {C : Array Value} {i j : Nat} (v : Value) (hi : i < C.size) : (C.setIfInBounds i v)[j]? = if i = j then some v else C[j]? := by
  rw [Array.getElem?_setIfInBounds]
  by_cases h : i = j
  · subst h; simp [hi]
  · simp [h]
section
variable {C : Array Value} {N S m : Nat} {V : Nat → Nat → Value} {fl : Nat → Nat}
theorem Cells.setN (h : Cells C N S m V fl) (N' : Nat) : Cells (C.setIfInBounds 0 (.int .u64 (N' : Int))) N' S m V fl := by
  have hz : 0 < C.size := by rw [h.sz]; decide
  refine ⟨by simp [h.sz], ?_, ?_, ?_, fun k s hk hs => ?_, fun k hk => ?_⟩
  · rw [set_get _ hz, if_pos rfl]
  · rw [set_get _ hz, if_neg (by omega)]; exact h.c1
  · rw [set_get _ hz, if_neg (by omega)]; exact h.cm
  · rw [set_get _ hz, if_neg (by omega)]; exact h.cv k s hk hs
  · rw [set_get _ hz, if_neg (by omega)]; exact h.cf k hk
theorem Cells.setS (h : Cells C N S m V fl) (S' : Nat) : Cells (C.setIfInBounds 1 (.int .u64 (S' : Int))) N S' m V fl := by
  have hz : 1 < C.size := by rw [h.sz]; decide
  refine ⟨by simp [h.sz], ?_, ?_, ?_, fun k s hk hs => ?_, fun k hk => ?_⟩
  · rw [set_get _ hz, if_neg (by omega)]; exact h.c0
  · rw [set_get _ hz, if_pos rfl]
  · rw [set_get _ hz, if_neg (by omega)]; exact h.cm
  · rw [set_get _ hz, if_neg (by omega)]; exact h.cv k s hk hs
  · rw [set_get _ hz, if_neg (by omega)]; exact h.cf k hk
theorem Cells.setV (h : Cells C N S m V fl) {k s : Nat} (hk : k < 8) (hs : s < 64) (v : Value) : Cells (C.setIfInBounds (2 + 65 * k + s) v) N S m (upd2 V k s v) fl := by
  have hz : 2 + 65 * k + s < C.size := by rw [h.sz]; omega
  refine ⟨by simp [h.sz], ?_, ?_, ?_, fun k' s' hk' hs' => ?_, fun k' hk' => ?_⟩
  · rw [set_get _ hz, if_neg (by omega)]; exact h.c0
  · rw [set_get _ hz, if_neg (by omega)]; exact h.c1
  · rw [set_get _ hz, if_neg (by omega)]; exact h.cm
  · rw [set_get _ hz]
    by_cases e : k' = k ∧ s' = s
    · obtain ⟨rfl, rfl⟩ := e
      rw [if_pos rfl, upd2_same]
    · rw [if_neg (by omega), upd2_other _ e]
      exact h.cv k' s' hk' hs'
  · rw [set_get _ hz, if_neg (by omega)]; exact h.cf k' hk'
theorem Cells.setF (h : Cells C N S m V fl) {k : Nat} (hk : k < 8) (x : Nat) : Cells (C.setIfInBounds (2 + 65 * k + 64) (.int .u64 (x : Int))) N S m V (upd fl k x) := by
  have hz : 2 + 65 * k + 64 < C.size := by rw [h.sz]; omega
  refine ⟨by simp [h.sz], ?_, ?_, ?_, fun k' s' hk' hs' => ?_, fun k' hk' => ?_⟩
  · rw [set_get _ hz, if_neg (by omega)]; exact h.c0
  · rw [set_get _ hz, if_neg (by omega)]; exact h.c1
  · rw [set_get _ hz, if_neg (by omega)]; exact h.cm
  · rw [set_get _ hz, if_neg (by omega)]; exact h.cv k' s' hk' hs'
  · rw [set_get _ hz]
    by_cases e : k' = k
    · subst e
      rw [if_pos rfl, upd_same]
    · rw [if_neg (by omega), upd_other _ e]
      exact h.cf k' hk'
end
/-- the map of places: K the numbers that are in it -/
structure MapW (w : World) (m : Nat) (K : List Int) (X : Int → Pl) : Prop where
  own : ∃ D, w.ownsMap Tryd.prog 3 selfR m K.length D ∧ Maps.size D = K.length ∧ (∀ z, inI z → (Maps.has D (kI z) = true ↔ z ∈ K)) ∧ ∀ z, z ∈ K → ∀ y, D.atKey (kI z) y = .held (plv (X z))
  nd : K.Nodup
  rg : ∀ z, z ∈ K → inI z
/-- a wheel in memory -/
structure Whl (w : World) (p m N S : Nat) (F : Nat → Nat → List Tm) (V : Nat → Nat → Value) (fl : Nat → Nat) (K : List Int) (X : Int → Pl) : Prop where
  blk : ∃ C, w.heap[p]? = some (.cells C tWh (0, 0)) ∧ Cells C N S m V fl
  rows : ∀ k s, k < 8 → s < 64 → OwnM w 0 (V k s) (F k s)
  apart : ∀ k s k' s' b, k < 8 → s < 64 → k' < 8 → s' < 64 → (V k s).ownBlock = some b → (V k' s').ownBlock = some b → k = k' ∧ s = s'
  map : MapW w m K X
  fw : ∀ k, k < 8 → fl k < 18446744073709551616
def footW (p m : Nat) (V : Nat → Nat → Value) (b : Nat) : Prop := b = p ∨ b = m ∨ ∃ k s, k < 8 ∧ s < 64 ∧ (V k s).ownBlock = some b
section
variable {w w' : World} {p m N S : Nat} {F : Nat → Nat → List Tm} {V : Nat → Nat → Value} {fl : Nat → Nat} {K : List Int} {X : Int → Pl}
theorem rowM_at {v : Value} {xs : List Tm} {b : Nat} (h : OwnM w 0 v xs) (hb : v.ownBlock = some b) : ∃ cur, w.heap[b]? = some (.cells cur tTm (0, 0)) := by
  rcases h.2 with ⟨rfl, -⟩ | ⟨g, cap, cur, rfl, -, hg, -⟩
  · cases hb
  · cases hb; exact ⟨cur, hg⟩
theorem rowM_kept {B : Nat} {v : Value} {xs : List Tm} (h : OwnM w B v xs) (hk : ∀ b, v.ownBlock = some b → w'.heap[b]? = w.heap[b]?) : OwnM w' B v xs := by
  refine ⟨h.1, ?_⟩
  rcases h.2 with h0 | ⟨g, cap, cur, e, hB, hg, r⟩
  · exact .inl h0
  · exact .inr ⟨g, cap, cur, e, hB, (hk g (by rw [e]; rfl)).trans hg, r⟩
theorem MapW.at_ (h : MapW w m K X) : ∃ es cl, w.heap[m]? = some (.map es cl) := by
  obtain ⟨D, ⟨es, cl, h1, -⟩, -⟩ := h.own
  exact ⟨es, cl, h1⟩
theorem MapW.kept (h : MapW w m K X) (hk : w'.heap[m]? = w.heap[m]?) : MapW w' m K X := by
  obtain ⟨D, ⟨es, cl, e1, e2⟩, h2⟩ := h.own
  exact ⟨⟨D, ⟨es, cl, hk.trans e1, e2⟩, h2⟩, h.nd, h.rg⟩
theorem Whl.at_ (h : Whl w p m N S F V fl K X) : ∃ C, w.heap[p]? = some (.cells C tWh (0, 0)) := by
  obtain ⟨C, h1, -⟩ := h.blk
  exact ⟨C, h1⟩
theorem Whl.lt (h : Whl w p m N S F V fl K X) {b : Nat} (hb : footW p m V b) : b < w.heap.size := by
  rcases hb with rfl | rfl | ⟨k, s, hk, hs, e⟩
  · obtain ⟨C, h1⟩ := h.at_; exact (Array.getElem?_eq_some_iff.1 h1).1
  · obtain ⟨es, cl, h1⟩ := h.map.at_; exact (Array.getElem?_eq_some_iff.1 h1).1
  · obtain ⟨cur, h1⟩ := rowM_at (h.rows k s hk hs) e; exact (Array.getElem?_eq_some_iff.1 h1).1
theorem Whl.pm (h : Whl w p m N S F V fl K X) : p ≠ m := by
  intro e
  obtain ⟨C, h1⟩ := h.at_
  obtain ⟨es, cl, h2⟩ := h.map.at_
  rw [e, h2] at h1
  cases h1
theorem Whl.pV (h : Whl w p m N S F V fl K X) {k s : Nat} (hk : k < 8) (hs : s < 64) : (V k s).ownBlock ≠ some p := by
  intro e
  obtain ⟨C, h1⟩ := h.at_
  obtain ⟨cur, h2⟩ := rowM_at (h.rows k s hk hs) e
  rw [h1] at h2
  simp only [Option.some.injEq, Obj.cells.injEq] at h2
  exact absurd h2.2.1 (by decide)
theorem Whl.mV (h : Whl w p m N S F V fl K X) {k s : Nat} (hk : k < 8) (hs : s < 64) : (V k s).ownBlock ≠ some m := by
  intro e
  obtain ⟨es, cl, h1⟩ := h.map.at_
  obtain ⟨cur, h2⟩ := rowM_at (h.rows k s hk hs) e
  rw [h1] at h2
  cases h2
theorem Whl.kept (h : Whl w p m N S F V fl K X) (hk : ∀ b, footW p m V b → w'.heap[b]? = w.heap[b]?) : Whl w' p m N S F V fl K X := by
  obtain ⟨C, h1, h2⟩ := h.blk
  exact ⟨⟨C, (hk p (.inl rfl)).trans h1, h2⟩, fun k s h3 h4 => rowM_kept (h.rows k s h3 h4) (fun b hb => hk b (.inr (.inr ⟨k, s, h3, h4, hb⟩))), h.apart, h.map.kept (hk m (.inr (.inl rfl))), h.fw⟩
theorem Whl.below (h : Whl w p m N S F V fl K X) (hb : Below w.heap.size w w') : Whl w' p m N S F V fl K X := h.kept (fun b hf => hb.block b (h.lt hf))
theorem Whl.chg {G : Nat → Prop} (h : Whl w p m N S F V fl K X) (hc : Chg G w w') (hG : ∀ b, footW p m V b → ¬ G b) : Whl w' p m N S F V fl K X := h.kept (fun b hf => hc.block b (h.lt hf) (hG b hf))
theorem Whl.cell (h : Whl w p m N S F V fl K X) {i : Nat} {v : Value} (hc : ∀ C, Cells C N S m V fl → C[i]? = some v) : w.cell? ⟨p, i, none⟩ = some v := by
  obtain ⟨C, h1, h2⟩ := h.blk
  rw [cell_of_row _ _ _ _ _ _ h1]
  exact hc C h2
theorem Whl.cN (h : Whl w p m N S F V fl K X) : w.cell? ⟨p, 0, none⟩ = some (.int .u64 (N : Int)) := h.cell (fun _ c => c.c0)
theorem Whl.cS (h : Whl w p m N S F V fl K X) : w.cell? ⟨p, 1, none⟩ = some (.int .u64 (S : Int)) := h.cell (fun _ c => c.c1)
theorem Whl.cM (h : Whl w p m N S F V fl K X) : w.cell? ⟨p, 522, none⟩ = some (.map (some m)) := h.cell (fun _ c => c.cm)
theorem Whl.cV (h : Whl w p m N S F V fl K X) {k s : Nat} (hk : k < 8) (hs : s < 64) : w.cell? ⟨p, 2 + 65 * k + s, none⟩ = some (V k s) := h.cell (fun _ c => c.cv k s hk hs)
theorem Whl.cF (h : Whl w p m N S F V fl K X) {k : Nat} (hk : k < 8) : w.cell? ⟨p, 2 + 65 * k + 64, none⟩ = some (.int .u64 (fl k : Int)) := h.cell (fun _ c => c.cf k hk)
theorem Whl.fz (h : Whl w p m N S F V fl K X) (i : Nat) : w.frozen? ⟨p, i, none⟩ = false := by
  obtain ⟨C, h1⟩ := h.at_
  simp [World.frozen?, h1]
/-- a store into the wheel's own block -/
theorem Whl.st {i : Nat} {v : Value} {N' S' : Nat} {V' : Nat → Nat → Value} {fl' : Nat → Nat} {F' : Nat → Nat → List Tm} (h : Whl w p m N S F V fl K X) (hc : ∀ C, Cells C N S m V fl → Cells (C.setIfInBounds i v) N' S' m V' fl')
    (hr : ∀ k s, k < 8 → s < 64 → OwnM w 0 (V' k s) (F' k s)) (ha : ∀ k s k' s' b, k < 8 → s < 64 → k' < 8 → s' < 64 → (V' k s).ownBlock = some b → (V' k' s').ownBlock = some b → k = k' ∧ s = s')
    (hf : ∀ k, k < 8 → fl' k < 18446744073709551616) : Whl (w.setCell ⟨p, i, none⟩ v) p m N' S' F' V' fl' K X := by
  obtain ⟨C, h1, h2⟩ := h.blk
  refine ⟨⟨_, heap_setCell_same w p i C tWh v h1, hc C h2⟩, fun k s hk hs => rowM_kept (hr k s hk hs) (fun b hb => heap_setCell_other _ _ _ _ (fun e => ?_)), ha, h.map.kept (heap_setCell_other _ _ _ _ (fun e => h.pm e.symm)), hf⟩
  subst e
  obtain ⟨cur, h3⟩ := rowM_at (hr k s hk hs) hb
  rw [h1] at h3
  simp only [Option.some.injEq, Obj.cells.injEq] at h3
  exact absurd h3.2.1 (by decide)
theorem Whl.stN (h : Whl w p m N S F V fl K X) (N' : Nat) : Whl (w.setCell ⟨p, 0, none⟩ (.int .u64 (N' : Int))) p m N' S F V fl K X := h.st (fun _ c => c.setN N') h.rows h.apart h.fw
theorem Whl.stS (h : Whl w p m N S F V fl K X) (S' : Nat) : Whl (w.setCell ⟨p, 1, none⟩ (.int .u64 (S' : Int))) p m N S' F V fl K X := h.st (fun _ c => c.setS S') h.rows h.apart h.fw
theorem Whl.stF (h : Whl w p m N S F V fl K X) {k : Nat} (hk : k < 8) (x : Nat) (hx : x < 18446744073709551616) : Whl (w.setCell ⟨p, 2 + 65 * k + 64, none⟩ (.int .u64 (x : Int))) p m N S F V (upd fl k x) K X :=
  h.st (fun _ c => c.setF hk x) h.rows h.apart (fun k' hk' => by by_cases e : k' = k; (subst e; rw [upd_same]; exact hx); (rw [upd_other _ e]; exact h.fw k' hk'))
/-- a slot's row is another one -/
theorem Whl.stV (h : Whl w p m N S F V fl K X) {k s : Nat} (hk : k < 8) (hs : s < 64) (hg : w.grownBy w' (V k s).ownBlock) {v : Value} {ys : List Tm} (hv : OwnM w' 0 v ys) (hb : ∀ b, v.ownBlock = some b → (V k s).ownBlock = some b ∨ w.heap.size ≤ b) :
    Whl (w'.setCell ⟨p, 2 + 65 * k + s, none⟩ v) p m N S (upd2 F k s ys) (upd2 V k s v) fl K X := by
  obtain ⟨C, h1, h2⟩ := h.blk
  have far : ∀ b, footW p m V b → (V k s).ownBlock ≠ some b → w'.heap[b]? = w.heap[b]? := fun b hf hn => hg.block b (h.lt hf) (fun e => hn e.symm)
  have h1' : w'.heap[p]? = some (.cells C tWh (0, 0)) := (far p (.inl rfl) (h.pV hk hs)).trans h1
  have hr : ∀ k' s', k' < 8 → s' < 64 → OwnM w' 0 (upd2 V k s v k' s') (upd2 F k s ys k' s') := fun k' s' hk' hs' => by
    by_cases e : k' = k ∧ s' = s
    · obtain ⟨rfl, rfl⟩ := e
      rw [upd2_same, upd2_same]; exact hv
    · rw [upd2_other _ e, upd2_other _ e]
      exact rowM_kept (h.rows k' s' hk' hs') (fun b hb' => far b (.inr (.inr ⟨k', s', hk', hs', hb'⟩)) (fun e9 => e (h.apart k' s' k s b hk' hs' hk hs hb' e9)))
  have hap : ∀ k' s' b, k' < 8 → s' < 64 → ¬ (k' = k ∧ s' = s) → v.ownBlock = some b → (V k' s').ownBlock = some b → False := fun k' s' b hk' hs' e h3 h4 => by
    rcases hb b h3 with h5 | h5
    · exact e (h.apart k' s' k s b hk' hs' hk hs h4 h5)
    · have := h.lt (.inr (.inr ⟨k', s', hk', hs', h4⟩)); omega
  refine ⟨⟨_, heap_setCell_same w' p _ C tWh v h1', h2.setV hk hs v⟩, fun k' s' hk' hs' => rowM_kept (hr k' s' hk' hs') (fun b hb' => heap_setCell_other _ _ _ _ (fun e => ?_)), fun a b c d y ha hb' hc hd h3 h4 => ?_, h.map.kept ((heap_setCell_other _ _ _ _ (fun e => h.pm e.symm)).trans (far m (.inr (.inl rfl)) (h.mV hk hs))), h.fw⟩
  · subst e
    obtain ⟨cur, h3⟩ := rowM_at (hr k' s' hk' hs') hb'
    rw [h1'] at h3
    simp only [Option.some.injEq, Obj.cells.injEq] at h3
    exact absurd h3.2.1 (by decide)
  · by_cases e1 : a = k ∧ b = s
    · by_cases e2 : c = k ∧ d = s
      · exact ⟨e1.1.trans e2.1.symm, e1.2.trans e2.2.symm⟩
      · rw [e1.1, e1.2, upd2_same] at h3
        rw [upd2_other _ e2] at h4
        exact (hap c d y hc hd e2 h3 h4).elim
    · rw [upd2_other _ e1] at h3
      by_cases e2 : c = k ∧ d = s
      · rw [e2.1, e2.2, upd2_same] at h4
        exact (hap a b y ha hb' e1 h4 h3).elim
      · rw [upd2_other _ e2] at h4
        exact h.apart a b c d y ha hb' hc hd h3 h4
end
end Go.Proofs.YtnfikcegmicooabDoor
