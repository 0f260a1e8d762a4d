import Derived.Test.YtkbpdcjaimbioaaDoorUG3
import Derived.Laws.Rows
import Derived.Laws.ResultCell
namespace Go.Proofs.YtkbpdcjaimbioaaDoor
set_option linter.unusedVariables false
set_option linter.unusedSimpArgs false
open Go.RowKit
theorem splice_step {α : Type} (L : List α) (k : Nat) (v : α) (r : List α) (h : k < L.length) : splice (L.set k v) (k + 1) r = splice L k (v :: r) := by
  unfold splice
  rw [List.take_set, List.drop_set_of_lt (by omega), List.take_succ_eq_append_getElem h]
  rw [List.set_append_right _ _ (by simp; omega)]
  simp only [List.length_take, Nat.min_eq_left (Nat.le_of_lt h), Nat.sub_self, List.set_cons_zero, List.append_assoc, List.cons_append, List.nil_append, List.length_cons]
  rw [show k + 1 + r.length = k + (r.length + 1) from by omega]
/-- behind a store of cells in the midst of a row -/
theorem heap_setCells (g : Nat) (t : TypeId) : ∀ (cs : List Value) (o : Nat) (L : List Value) (w : World), w.heap[g]? = some (.cells L.toArray t (0, 0)) → o + cs.length ≤ L.length → (w.setCells g o cs).heap[g]? = some (.cells (splice L o cs).toArray t (0, 0))
  | [], o, L, w, h, _ => by simpa [splice, World.setCells] using h
  | v :: r, o, L, w, h, hl => by
    rw [World.setCells, heap_setCells g t r (o + 1) (L.set o v) _ (by rw [heap_setCell_same w g o _ t v h]; simp) (by simp at hl ⊢; omega), splice_step _ _ _ _ (by simp at hl; omega)]
theorem heap_setCells_far (g : Nat) : ∀ (cs : List Value) (o : Nat) (w : World) (k : Nat), k ≠ g → (w.setCells g o cs).heap[k]? = w.heap[k]?
  | [], _, _, _, _ => rfl
  | v :: r, o, w, k, hk => by
    rw [World.setCells, heap_setCells_far g r (o + 1) _ k hk, heap_setCell_other _ _ _ _ hk]
theorem gset1 (w : World) (g i : Nat) (v : Value) : w.grownBy (w.setCell ⟨g, i, none⟩ v) (some g) :=
  ⟨rfl, rfl, rfl, by simp, fun k _ hne => heap_setCell_other _ _ _ _ (fun e => hne (by rw [e]))⟩
theorem setCells_grown (g : Nat) : ∀ (cs : List Value) (o : Nat) (w : World), w.grownBy (w.setCells g o cs) (some g)
  | [], _, w => World.grownBy.refl _ _
  | v :: r, o, w => by
    rw [World.setCells]
    exact (gset1 w g o v).trans' (setCells_grown g r (o + 1) _)
theorem results_ct {P : Program} {fn : Func} {p u : Tmp} {ty : TypeId} (h : fn.results = #[.cell p ty, .tmp u]) (tmps : Array Value) (w : World) (g : Nat) (t : TypeId) (cs : Array Value) (fr : Nat × Nat) (d : TypeDesc)
    (hp : tmps.getD p undef = .pointer (some ⟨g, 0, none⟩)) (hg : w.heap[g]? = some (.cells cs t fr))
    (hu : P.underlying ty = some d) (hd : (match d with | .struct _ | .array _ _ => true | _ => false) = true) (hi : (P.info? ty).map (·.size) = some cs.size) :
    (results fn tmps).run P w = .ok (.tuple #[.agg cs, tmps.getD u undef]) w := by
  rw [results_cell_tmp h]
  rw [hp]
  simp [asAddr, run_loadVar_row w g t ty cs fr d hg hu hd hi, Result.andThen]
theorem splice_all {L cs : List Value} (h : L.length = cs.length) : splice L 0 cs = cs := by unfold splice; simp; omega
theorem box_set {w : World} {g : Nat} {t : TypeId} {C : Array Value} {cs : List Value} (h : w.heap[g]? = some (.cells C t (0, 0))) (hl : C.size = cs.length) : (w.setCells g 0 cs).heap[g]? = some (.cells cs.toArray t (0, 0)) := by
  have h2 := heap_setCells g t cs 0 C.toList w (by simpa using h) (by simp; omega)
  rw [splice_all (by simpa using hl)] at h2
  exact h2
theorem box_there {w : World} {g n : Nat} {t : TypeId} {C : Array Value} (h : w.heap[g]? = some (.cells C t (0, 0))) (hl : C.size = n) : w.there g 0 n := fun i hi => by
  refine ⟨?_, by simp [World.frozen?, h]⟩
  rw [Nat.zero_add, cell_of_row _ _ _ _ _ _ h]
  simp [hl, hi]
theorem box_range {w : World} {g : Nat} {t : TypeId} {cs : List Value} (h : w.heap[g]? = some (.cells cs.toArray t (0, 0))) : w.rangeAt g 0 cs := fun j v hv => by
  rw [Nat.zero_add, cell_of_row _ _ _ _ _ _ h]
  simpa using hv
theorem heap_alloc_size1' (w : World) (o : Obj) : (w.alloc o).heap.size = w.heap.size + 1 := by simp
theorem Below.getB {B : Nat} {w w' : World} (h : Below B w w') {g : Nat} (hg : g < B) : w'.heap[g]? = w.heap[g]? := h.block g hg
end Go.Proofs.YtkbpdcjaimbioaaDoor
