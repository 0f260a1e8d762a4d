import Derived.Test.YtekfolppahnpoaaDNew
import Derived.Test.YtekfolppahnpoaaClone
import Derived.Test.YtekfolppahnpoaaRegn
import Derived.Deep.MidRow
import Derived.Deep.WholeRow
import Derived.Laws.CopyOwn
import Derived.OwnWalk
namespace Go.Proofs.Ytekfolppahnpoaa
set_option linter.unusedVariables false
set_option linter.unusedSimpArgs false
open Go.RowKit
/-- the 128 cells of a text of zeros -/
def z128 : Array Value := Array.replicate 128 (.int .u8 0)
theorem info_text : (Try.prog.info? 61).map (fun i => (i.zero, i.size)) = some (some (.agg z128), 128) := by kernel_rfl
theorem info_sect : (Try.prog.info? 63).map (fun i => (i.zero, i.size)) = some (some (.agg z129), 129) := by kernel_rfl
theorem z128_list : z128.toList = List.replicate 128 (.int .u8 0) := by simp [z128]
theorem splice_whole (X : List Value) (h : X.length = 128) : splice z128.toList 0 X = X := by
  unfold splice
  simp [h, z128]
set_option maxRecDepth 20000 in
set_option maxHeartbeats 800000 in
theorem textOf_t (ao : Option Addr) (cap : Nat) (xs : List UInt8) (w : World) (hx : Rd w ao xs) (hl : xs.length = 128) :
    Calls Try.prog 29 #[.slice ao 128 cap] w fun e w' => e = .returned (.agg (bv xs).toArray) ∧ Below w.heap.size w w' := by
  have hz := (zero_of_info info_text).1
  obtain ⟨X, hX⟩ : ∃ X : List Value, X = bv xs := ⟨_, rfl⟩
  rw [← hX]
  have hXl : X.length = 128 := by rw [hX, bv_length, hl]
  have h1 : ∀ v ∈ X, v.oneCell' = true := by rw [hX]; exact bv_one xs
  have HX : Hid (X = bv xs) := hX
  have HXl : Hid (X.length = 128) := hXl
  have H1 : Hid _ := h1
  clear hX hXl h1
  obtain ⟨Z, hZ⟩ : ∃ Z : Array Value, Z = z128 := ⟨_, rfl⟩
  rw [← hZ] at hz
  have HZ : Hid (Z = z128) := hZ
  have HZl : Hid (Z.toList.length = 128) := by unfold Hid; rw [hZ]; simp [z128]
  have HSP : Hid (splice Z.toList 0 X = X) := by unfold Hid; rw [hZ]; exact splice_whole X HXl.out
  have HIt : Hid ((Try.prog.info? 61).map (·.size) = some 128) := (zero_of_info info_text).2
  have hsz1 : (Try.prog.info? 5).map (·.size) = some 1 := by obtain ⟨i0, hi, hz0, hz1, hz2⟩ := info_parts info5; rw [hi, Option.map_some, hz1]
  have HPos : Hid (∃ ad, ao = some ad ∧ ∀ j v, X[j]? = some v → ((w.alloc (.cells Z 61)).alloc (.cells Z 61)).cell? (ad.add j) = some v) := by
    obtain ⟨b, o, rfl, hc⟩ := ((hx.alloc (.cells Z 61)).alloc (.cells Z 61)) (by omega)
    refine ⟨_, rfl, fun j v hj => ?_⟩
    rw [HX.out] at hj
    have hlt : j < xs.length := by
      have := (List.getElem?_eq_some_iff.1 hj).1
      simpa [bv_length] using this
    rw [bv_get xs j hlt] at hj
    rw [Go.WideShapes.add_plain, hc j hlt]
    exact hj
  clear hZ
  go_enter Try.func29, Try.ntmps29
  go_wp2_with (first
    | (refine wpList_copy_splice rfl _ _ 40 40 rfl 5 Try.underlying40 hsz1 (some ⟨w.heap.size + 1, 0, none⟩) ao 128 128 128 cap rfl rfl (w.heap.size + 1) 0 Z.toList 61 (by rw [Array.toArray_toList]; simpa using heap_alloc_new (w.alloc (.cells Z 61)) (.cells Z 61)) X (by rw [HXl.out]; rfl) (fun _ => ⟨rfl, HPos.out⟩) (by rw [HXl.out, HZl.out]; decide) H1.out (w.heap.size + 1) (w.alloc (.cells Z 61)) (by simpa using (Below.refl _ (w.alloc (.cells Z 61))).alloc (Nat.le_refl _) (.cells Z 61)) (Nat.le_refl _) ?_; intro w2 hg2 hb2; rw [HSP.out] at hg2; have HB2 : Hid (w2.heap[w.heap.size]? = some (.cells Z 61 (0, 0))) := (hb2.block w.heap.size (Nat.lt_succ_self _)).trans (heap_alloc_new w _))
    | (refine wpList_load_row rfl 61 _ rfl (w.heap.size + 1) rfl 61 X.toArray (0, 0) _ hg2.out Try.underlying61 rfl (by rw [HIt.out]; simp [HXl.out]) ?_)
    | (refine wpList_store_row rfl 61 _ _ rfl w.heap.size X.toArray rfl rfl 61 Z HB2.out (by rw [HIt.out]; simp [HXl.out]) (by have := HZl.out; simp only [List.size_toArray, HXl.out]; simpa using this) (all_oneCell_toArray H1.out) ?_))
  refine bodyPost_ret (v := .agg X.toArray) (results_cell_row Try.results29 _ _ w.heap.size 61 X.toArray (0, 0) _ rfl (setRow_heap _ _ _ _ _ _ HB2.out) Try.underlying61 rfl (by rw [HIt.out]; simp [HXl.out])) rfl ⟨rfl, ?_⟩
  exact below_setRow (((Below.refl _ w).alloc (Nat.le_refl _) _).trans (hb2.mono (Nat.le_succ _))) (Nat.le_refl _) _
end Go.Proofs.Ytekfolppahnpoaa
namespace Go.Proofs.Ytekfolppahnpoaa
set_option linter.unusedVariables false
set_option linter.unusedSimpArgs false
open Go.RowKit
set_option maxRecDepth 20000 in
set_option maxHeartbeats 800000 in
theorem row_t (b o n cap i : Nat) (w : World) (h : i * 129 + 129 ≤ n) (hc : n ≤ cap) (hm : n ≤ 140737488355328) :
    Calls Try.prog 27 #[.slice (some ⟨b, o, none⟩) n cap, .int .i64 (i : Int)] w fun e w' => e = .returned (.slice (some ⟨b, o + i * 129, none⟩) 129 129) ∧ w' = w := by
  obtain ⟨M, hM⟩ : ∃ M : Nat, M = i * 129 := ⟨_, rfl⟩
  obtain ⟨L, hL⟩ : ∃ L : Nat, L = i * 129 + 129 := ⟨_, rfl⟩
  have hw1 : IntKind.i64.wrap ((i : Int) * 129) = (M : Int) := by rw [IntKind.wrap_i64]; omega
  have hw0 : IntKind.i64.wrap ((i : Int) + 1) = (i : Int) + 1 := by rw [IntKind.wrap_i64]; omega
  have hw2 : IntKind.i64.wrap (((i : Int) + 1) * 129) = (L : Int) := by rw [IntKind.wrap_i64]; omega
  have g1 : L ≤ cap := by omega
  have g2 : M ≤ L := by omega
  have g3 : ¬ L = M := by omega
  have HLM : Hid (L - M = 129) := by show L - M = 129; omega
  rw [← hM]
  clear hM hL h hc
  go_enter Try.func27, Try.ntmps27
  go_wp2
  go_ret
  refine ⟨?_, rfl⟩
  rw [HLM.out]
  rfl
end Go.Proofs.Ytekfolppahnpoaa
namespace Go.Proofs.Ytekfolppahnpoaa
set_option linter.unusedVariables false
set_option linter.unusedSimpArgs false
open Go.RowKit
theorem splice_step {α : Type} (L : List α) (k : Nat) (v : α) (r : List α) (h : k < L.length) : splice (L.set k v) (k + 1) r = splice L k (v :: r) := by
  unfold splice
  rw [List.take_set, List.drop_set_of_lt (by omega), List.take_succ_eq_append_getElem h]
  rw [List.set_append_right _ _ (by simp; omega)]
  simp only [List.length_take, Nat.min_eq_left (Nat.le_of_lt h), Nat.sub_self, List.set_cons_zero, List.append_assoc, List.cons_append, List.nil_append, List.length_cons]
  rw [show k + 1 + r.length = k + (r.length + 1) from by omega]
theorem fold_set : ∀ (X : List Value) (k : Nat) (Z : Array Value), k + X.length ≤ Z.size → (X.zipIdx k).foldl (fun cs x => cs.setIfInBounds x.2 x.1) Z = (splice Z.toList k X).toArray
  | [], k, Z, h => by simp [splice]
  | v :: r, k, Z, h => by
    rw [List.zipIdx_cons, List.foldl_cons, fold_set r (k + 1) _ (by simp at h ⊢; omega)]
    rw [Array.toList_setIfInBounds, splice_step _ _ _ _ (by simp at h ⊢; omega)]
/-- behind a store of cells in the midst of a row -/
theorem heap_setCells (g : Nat) (t : TypeId) : ∀ (cs : List Value) (o : Nat) (L : List Value) (w : World), w.heap[g]? = some (.cells L.toArray t (0, 0)) → o + cs.length ≤ L.length → (w.setCells g o cs).heap[g]? = some (.cells (splice L o cs).toArray t (0, 0))
  | [], o, L, w, h, _ => by simpa [splice, World.setCells] using h
  | v :: r, o, L, w, h, hl => by
    rw [World.setCells, heap_setCells g t r (o + 1) (L.set o v) _ (by rw [heap_setCell_same w g o _ t v h]; simp) (by simp at hl ⊢; omega), splice_step _ _ _ _ (by simp at hl; omega)]
theorem heap_setCells_far (g : Nat) : ∀ (cs : List Value) (o : Nat) (w : World) (k : Nat), k ≠ g → (w.setCells g o cs).heap[k]? = w.heap[k]?
  | [], _, _, _, _ => rfl
  | v :: r, o, w, k, hk => by
    rw [World.setCells, heap_setCells_far g r (o + 1) _ k hk, heap_setCell_other _ _ _ _ hk]
theorem gset1 (w : World) (g i : Nat) (v : Value) : w.grownBy (w.setCell ⟨g, i, none⟩ v) (some g) :=
  ⟨rfl, rfl, rfl, by simp, fun k _ hne => heap_setCell_other _ _ _ _ (fun e => hne (by rw [e]))⟩
theorem setCells_grown (g : Nat) : ∀ (cs : List Value) (o : Nat) (w : World), w.grownBy (w.setCells g o cs) (some g)
  | [], _, w => World.grownBy.refl _ _
  | v :: r, o, w => by
    rw [World.setCells]
    exact (gset1 w g o v).trans' (setCells_grown g r (o + 1) _)
theorem splice_all {α : Type} (L X : List α) (h : X.length = L.length) : splice L 0 X = X := by
  unfold splice
  simp [h]
theorem built_at (parts : List (Nat × Value)) : Try.prog.built 63 parts = Instr.fill (fun i => #[(0, 128), (128, 1)][i]?) z129 parts := by kernel_rfl
theorem z129_size : z129.size = 129 := by simp [z129]
set_option maxRecDepth 20000 in
theorem built_sec (X : List Value) (h : X.length = 128) (t : Bool) : Try.prog.built 63 [(0, .agg X.toArray), (1, .bool t)] = some (X ++ [Value.bool t]).toArray := by
  rw [built_at]
  simp only [Instr.fill]
  simp [Instr.fill, Value.cells, h]
  rw [fold_set X 0 z129 (by rw [z129_size, h]; decide)]
  have e : splice z129.toList 0 X = X ++ [Value.bool false] := by
    unfold splice
    rw [h]
    simp [z129]
  rw [e]
  refine ⟨by rw [z129_size]; decide, by simp [h], ?_⟩
  rw [List.setIfInBounds_toArray, List.set_append_right _ _ (by omega), h]
  rfl
theorem run_build_sec (X : List Value) (h : X.length = 128) (t : Bool) (w : World) : (Instr.build 63 #[(0, .agg X.toArray), (1, .bool t)]).run Try.prog w = .ok (.agg (X ++ [Value.bool t]).toArray) w :=
  run_build w _ _ _ (built_sec X h t)
end Go.Proofs.Ytekfolppahnpoaa
