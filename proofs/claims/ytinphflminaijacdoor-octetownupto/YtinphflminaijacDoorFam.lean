import Derived.Test.YtinphflminaijacDoorHelp
namespace Go.Proofs.YtinphflminaijacDoor
set_option linter.unusedVariables false
set_option linter.unusedSimpArgs false
open Go.RowKit
/-- a row of memory: the type of its elements, the slice, what it holds -/
structure Row where
  e : TypeId
  v : Value
  xs : List Value
def Row.at (r : Row) (w : World) (B : Nat) : Prop := w.ownsRow B r.e 1 r.v r.xs.length r.xs
/-- rows of memory, no two of them in one block -/
structure Fam (w : World) (B : Nat) (rs : List Row) : Prop where
  own : ∀ j (h : j < rs.length), rs[j].at w B
  dis : ∀ i j (hi : i < rs.length) (hj : j < rs.length), i ≠ j → rs[i].v.ownBlock = none ∨ rs[i].v.ownBlock ≠ rs[j].v.ownBlock
theorem Row.at_lt {r : Row} {w : World} {B : Nat} (h : r.at w B) (g : Nat) (hg : r.v.ownBlock = some g) : B ≤ g ∧ g < w.heap.size := World.ownsRow.lt h g hg
theorem Row.at_below {r : Row} {w w' : World} {B : Nat} (h : r.at w B) (hb : Below w.heap.size w w') : r.at w' B :=
  World.ownsRow.kept h ⟨hb.os, hb.tape, hb.output, hb.size, fun k hk _ => hb.block k hk⟩ (by cases hv : r.v.ownBlock <;> simp) (row := none)
theorem Row.at_base {r : Row} {w : World} {B B' : Nat} (h : r.at w B) (hB : B' ≤ B) : r.at w B' := by
  refine ⟨h.1, ?_⟩
  rcases h.2 with h0 | ⟨g, cap, cur, hv, hg, q⟩
  · exact .inl h0
  · exact .inr ⟨g, cap, cur, hv, Nat.le_trans hB hg, q⟩
theorem Fam.nil (w : World) (B : Nat) : Fam w B [] := ⟨fun j h => by simp at h, fun i j h => by simp at h⟩
theorem Fam.below {w w' : World} {B : Nat} {rs : List Row} (h : Fam w B rs) (hb : Below w.heap.size w w') : Fam w' B rs :=
  ⟨fun j hj => Row.at_below (h.own j hj) hb, h.dis⟩
theorem Fam.base {w : World} {B B' : Nat} {rs : List Row} (h : Fam w B rs) (hB : B' ≤ B) : Fam w B' rs :=
  ⟨fun j hj => Row.at_base (h.own j hj) hB, h.dis⟩
/-- a row changes: in its block, or it goes to a new one -/
theorem Fam.step {w w' : World} {B : Nat} {rs : List Row} (h : Fam w B rs) (i : Nat) (hi : i < rs.length) (hg : w.grownBy w' rs[i].v.ownBlock) (r : Row) (hr : r.at w' B) (hb : r.v.ownBlock = rs[i].v.ownBlock ∨ ∀ g, r.v.ownBlock = some g → w.heap.size ≤ g) : Fam w' B (rs.set i r) := by
  have old : ∀ j (hj : j < rs.length), j ≠ i → rs[j].v.ownBlock = none ∨ (rs[j].v.ownBlock ≠ r.v.ownBlock ∧ r.v.ownBlock ≠ rs[j].v.ownBlock) := by
    intro j hj hne
    rcases hb with hb | hb
    · rw [hb]
      rcases h.dis j i hj hi hne with h1 | h1
      · exact .inl h1
      · exact .inr ⟨h1, fun e => h1 e.symm⟩
    · cases hv : rs[j].v.ownBlock with
      | none => exact .inl rfl
      | some g =>
        have h1 := (Row.at_lt (h.own j hj) g hv).2
        right
        refine ⟨fun e => ?_, fun e => ?_⟩
        · have := hb g e.symm; omega
        · have := hb g e; omega
  refine ⟨fun j hj => ?_, fun a b ha hb' hne => ?_⟩
  · rw [List.length_set] at hj
    rw [List.getElem_set]
    split
    · exact hr
    · rename_i hne
      exact World.ownsRow.kept (h.own j hj) hg (h.dis j i hj hi (fun e => hne e.symm))
  · rw [List.length_set] at ha hb'
    rw [List.getElem_set, List.getElem_set]
    split
    · split
      · omega
      · rename_i h1 h2
        rcases old b hb' (fun e => h2 e.symm) with h3 | h3
        · by_cases h4 : r.v.ownBlock = none
          · exact .inl h4
          · right; rw [h3]; exact h4
        · exact .inr h3.2
    · split
      · rename_i h1 h2
        rcases old a ha (fun e => h1 e.symm) with h3 | h3
        · exact .inl h3
        · exact .inr h3.1
      · exact h.dis a b ha hb' hne
/-- new rows beside -/
theorem Fam.app {w w' : World} {B : Nat} {rs qs : List Row} (h : Fam w B rs) (hb : Below w.heap.size w w') (hB : B ≤ w.heap.size) (k : Fam w' w.heap.size qs) : Fam w' B (rs ++ qs) := by
  refine ⟨fun j hj => ?_, fun i j hi hj hne => ?_⟩
  · rw [List.getElem_append]
    split
    · exact Row.at_below (h.own j (by assumption)) hb
    · exact Row.at_base (k.own (j - rs.length) (by rw [List.length_append] at hj; omega)) hB
  · rw [List.length_append] at hi hj
    rw [List.getElem_append, List.getElem_append]
    split
    · rename_i h1
      split
      · exact h.dis i j h1 (by assumption) hne
      · rename_i h2
        cases hv : rs[i].v.ownBlock with
        | none => exact .inl rfl
        | some g =>
          right
          intro e
          have h3 := (Row.at_lt (h.own i h1) g hv).2
          have h4 := (Row.at_lt (k.own (j - rs.length) (by omega)) g e.symm).1
          omega
    · rename_i h1
      split
      · rename_i h2
        cases hv : qs[i - rs.length].v.ownBlock with
        | none => exact .inl rfl
        | some g =>
          right
          intro e
          have h3 := (Row.at_lt (h.own j h2) g e.symm).2
          have h4 := (Row.at_lt (k.own (i - rs.length) (by omega)) g hv).1
          omega
      · exact k.dis _ _ (by omega) (by omega) (by omega)
theorem Fam.one {w : World} {B : Nat} {r : Row} (h : r.at w B) : Fam w B [r] :=
  ⟨fun j hj => by simp at hj; subst hj; exact h, fun i j hi hj hne => by simp at hi hj; omega⟩
theorem Fam.push {w w' : World} {B : Nat} {rs : List Row} (h : Fam w B rs) (hb : Below w.heap.size w w') (hB : B ≤ w.heap.size) (r : Row) (k : r.at w' w.heap.size) : Fam w' B (rs ++ [r]) := h.app hb hB (.one k)
/-- a block that is none of the rows' changes -/
theorem Fam.far {w w' : World} {B p : Nat} {rs : List Row} (h : Fam w B rs) (hg : w.grownBy w' (some p)) (hp : ∀ j (hj : j < rs.length), rs[j].v.ownBlock ≠ some p) : Fam w' B rs :=
  ⟨fun j hj => World.ownsRow.kept (h.own j hj) hg (.inr (hp j hj)), h.dis⟩
/-- some of the rows, in another order -/
theorem Fam.perm {w : World} {B : Nat} {rs : List Row} (h : Fam w B rs) (f : Nat → Nat) (qs : List Row) (hf : ∀ j (hj : j < qs.length), ∃ hl : f j < rs.length, qs[j] = rs[f j]) (hi : ∀ i j, i < qs.length → j < qs.length → f i = f j → i = j) : Fam w B qs := by
  refine ⟨fun j hj => ?_, fun i j hi' hj hne => ?_⟩
  · obtain ⟨hl, e⟩ := hf j hj
    rw [e]; exact h.own _ hl
  · obtain ⟨hl, e⟩ := hf j hj
    obtain ⟨hl', e'⟩ := hf i hi'
    rw [e, e']
    exact h.dis _ _ hl' hl (fun e => hne (hi i j hi' hj e))
/-- two families side by side -/
theorem Fam.cat {w : World} {B lo : Nat} {rs qs : List Row} (h : Fam w B rs) (hlo : ∀ j (hj : j < rs.length) g, rs[j].v.ownBlock = some g → g < lo) (k : Fam w lo qs) (hB : B ≤ lo) : Fam w B (rs ++ qs) := by
  refine ⟨fun j hj => ?_, fun i j hi hj hne => ?_⟩
  · rw [List.getElem_append]
    split
    · exact h.own j (by assumption)
    · exact Row.at_base (k.own (j - rs.length) (by rw [List.length_append] at hj; omega)) hB
  · rw [List.length_append] at hi hj
    rw [List.getElem_append, List.getElem_append]
    split
    · rename_i h1
      split
      · exact h.dis i j h1 (by assumption) hne
      · rename_i h2
        cases hv : rs[i].v.ownBlock with
        | none => exact .inl rfl
        | some g =>
          right
          intro e
          have h3 := hlo i h1 g hv
          have h4 := (Row.at_lt (k.own (j - rs.length) (by omega)) g e.symm).1
          omega
    · rename_i h1
      split
      · rename_i h2
        cases hv : qs[i - rs.length].v.ownBlock with
        | none => exact .inl rfl
        | some g =>
          right
          intro e
          have h3 := hlo j h2 g e.symm
          have h4 := (Row.at_lt (k.own (i - rs.length) (by omega)) g hv).1
          omega
      · exact k.dis _ _ (by omega) (by omega) (by omega)
theorem Fam.lt {w : World} {B : Nat} {rs : List Row} (h : Fam w B rs) : ∀ j (hj : j < rs.length) g, rs[j].v.ownBlock = some g → g < w.heap.size := fun j hj g hg => (Row.at_lt (h.own j hj) g hg).2
theorem Fam.ge {w : World} {B p : Nat} {rs : List Row} (h : Fam w B rs) (hp : p < B) : ∀ j (hj : j < rs.length), rs[j].v.ownBlock ≠ some p := fun j hj e => by
  have := (Row.at_lt (h.own j hj) p e).1
  omega
def bRow (v : Value) (l : List UInt8) : Row := ⟨5, v, bv l⟩
theorem bRow_at {w : World} {B : Nat} {v : Value} {l : List UInt8} : (bRow v l).at w B ↔ Own w B v l := by
  unfold Row.at Own bRow
  simp only [bv_length]
end Go.Proofs.YtinphflminaijacDoor
