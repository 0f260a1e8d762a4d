import Derived.Test.YtgdkiejlggiakaaDRow
namespace Go.Proofs.Ytgdkiejlggiakaa
set_option linter.unusedVariables false
set_option linter.unusedSimpArgs false
open Go.RowKit
theorem splice_step {α : Type} (L : List α) (k : Nat) (v : α) (r : List α) (h : k < L.length) : splice (L.set k v) (k + 1) r = splice L k (v :: r) := by
  unfold splice
  rw [List.take_set, List.drop_set_of_lt (by omega), List.take_succ_eq_append_getElem h]
  rw [List.set_append_right _ _ (by simp; omega)]
  simp only [List.length_take, Nat.min_eq_left (Nat.le_of_lt h), Nat.sub_self, List.set_cons_zero, List.append_assoc, List.cons_append, List.nil_append, List.length_cons]
  rw [show k + 1 + r.length = k + (r.length + 1) from by omega]
theorem fold_set : ∀ (X : List Value) (k : Nat) (Z : Array Value), k + X.length ≤ Z.size → (X.zipIdx k).foldl (fun cs x => cs.setIfInBounds x.2 x.1) Z = (splice Z.toList k X).toArray
  | [], k, Z, h => by simp [splice]
  | v :: r, k, Z, h => by
    rw [List.zipIdx_cons, List.foldl_cons, fold_set r (k + 1) _ (by simp at h ⊢; omega)]
    rw [Array.toList_setIfInBounds, splice_step _ _ _ _ (by simp at h ⊢; omega)]
/-- behind a store of cells in the midst of a row -/
theorem heap_setCells (g : Nat) (t : TypeId) : ∀ (cs : List Value) (o : Nat) (L : List Value) (w : World), w.heap[g]? = some (.cells L.toArray t (0, 0)) → o + cs.length ≤ L.length → (w.setCells g o cs).heap[g]? = some (.cells (splice L o cs).toArray t (0, 0))
  | [], o, L, w, h, _ => by simpa [splice, World.setCells] using h
  | v :: r, o, L, w, h, hl => by
    rw [World.setCells, heap_setCells g t r (o + 1) (L.set o v) _ (by rw [heap_setCell_same w g o _ t v h]; simp) (by simp at hl ⊢; omega), splice_step _ _ _ _ (by simp at hl; omega)]
theorem heap_setCells_far (g : Nat) : ∀ (cs : List Value) (o : Nat) (w : World) (k : Nat), k ≠ g → (w.setCells g o cs).heap[k]? = w.heap[k]?
  | [], _, _, _, _ => rfl
  | v :: r, o, w, k, hk => by
    rw [World.setCells, heap_setCells_far g r (o + 1) _ k hk, heap_setCell_other _ _ _ _ hk]
theorem gset1 (w : World) (g i : Nat) (v : Value) : w.grownBy (w.setCell ⟨g, i, none⟩ v) (some g) :=
  ⟨rfl, rfl, rfl, by simp, fun k _ hne => heap_setCell_other _ _ _ _ (fun e => hne (by rw [e]))⟩
theorem setCells_grown (g : Nat) : ∀ (cs : List Value) (o : Nat) (w : World), w.grownBy (w.setCells g o cs) (some g)
  | [], _, w => World.grownBy.refl _ _
  | v :: r, o, w => by
    rw [World.setCells]
    exact (gset1 w g o v).trans' (setCells_grown g r (o + 1) _)
theorem splice_all {α : Type} (L X : List α) (h : X.length = L.length) : splice L 0 X = X := by
  unfold splice
  simp [h]
theorem built_at (parts : List (Nat × Value)) : Try.prog.built 61 parts = Instr.fill (fun i => #[(0, 128), (128, 1)][i]?) z129 parts := by kernel_rfl
theorem z129_size : z129.size = 129 := by simp [z129]
set_option maxRecDepth 20000 in
theorem built_sec (X : List Value) (h : X.length = 128) (t : Bool) : Try.prog.built 61 [(0, .agg X.toArray), (1, .bool t)] = some (X ++ [Value.bool t]).toArray := by
  rw [built_at]
  simp only [Instr.fill]
  simp [Instr.fill, Value.cells, h]
  rw [fold_set X 0 z129 (by rw [z129_size, h]; decide)]
  have e : splice z129.toList 0 X = X ++ [Value.bool false] := by
    unfold splice
    rw [h]
    simp [z129]
  rw [e]
  refine ⟨by rw [z129_size]; decide, by simp [h], ?_⟩
  rw [List.setIfInBounds_toArray, List.set_append_right _ _ (by omega), h]
  rfl
theorem run_build_sec (X : List Value) (h : X.length = 128) (t : Bool) (w : World) : (Instr.build 61 #[(0, .agg X.toArray), (1, .bool t)]).run Try.prog w = .ok (.agg (X ++ [Value.bool t]).toArray) w :=
  run_build w _ _ _ (built_sec X h t)
end Go.Proofs.Ytgdkiejlggiakaa
