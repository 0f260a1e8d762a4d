import Derived.Test.YtgdkiejlggiakaaDNew
import Derived.Test.YtgdkiejlggiakaaClone
import Derived.Test.YtgdkiejlggiakaaRegn
import Derived.Deep.MidRow
import Derived.Deep.WholeRow
import Derived.Laws.CopyOwn
import Derived.OwnWalk
namespace Go.Proofs.Ytgdkiejlggiakaa
set_option linter.unusedVariables false
set_option linter.unusedSimpArgs false
open Go.RowKit
/-- the 128 cells of a text of zeros -/
def z128 : Array Value := Array.replicate 128 (.int .u8 0)
theorem info_text : (Try.prog.info? 59).map (fun i => (i.zero, i.size)) = some (some (.agg z128), 128) := by kernel_rfl
theorem info_sect : (Try.prog.info? 61).map (fun i => (i.zero, i.size)) = some (some (.agg z129), 129) := by kernel_rfl
theorem z128_list : z128.toList = List.replicate 128 (.int .u8 0) := by simp [z128]
theorem splice_whole (X : List Value) (h : X.length = 128) : splice z128.toList 0 X = X := by
  unfold splice
  simp [h, z128]
set_option maxRecDepth 20000 in
set_option maxHeartbeats 800000 in
theorem textOf_t (ao : Option Addr) (cap : Nat) (xs : List UInt8) (w : World) (hx : Rd w ao xs) (hl : xs.length = 128) :
    Calls Try.prog 34 #[.slice ao 128 cap] w fun e w' => e = .returned (.agg (bv xs).toArray) ∧ Below w.heap.size w w' := by
  have hz := (zero_of_info info_text).1
  obtain ⟨X, hX⟩ : ∃ X : List Value, X = bv xs := ⟨_, rfl⟩
  rw [← hX]
  have hXl : X.length = 128 := by rw [hX, bv_length, hl]
  have h1 : ∀ v ∈ X, v.oneCell' = true := by rw [hX]; exact bv_one xs
  have HX : Hid (X = bv xs) := hX
  have HXl : Hid (X.length = 128) := hXl
  have H1 : Hid _ := h1
  clear hX hXl h1
  obtain ⟨Z, hZ⟩ : ∃ Z : Array Value, Z = z128 := ⟨_, rfl⟩
  rw [← hZ] at hz
  have HZ : Hid (Z = z128) := hZ
  have HZl : Hid (Z.toList.length = 128) := by unfold Hid; rw [hZ]; simp [z128]
  have HSP : Hid (splice Z.toList 0 X = X) := by unfold Hid; rw [hZ]; exact splice_whole X HXl.out
  have HIt : Hid ((Try.prog.info? 59).map (·.size) = some 128) := (zero_of_info info_text).2
  have hsz1 : (Try.prog.info? 5).map (·.size) = some 1 := by obtain ⟨i0, hi, hz0, hz1, hz2⟩ := info_parts info5; rw [hi, Option.map_some, hz1]
  have HPos : Hid (∃ ad, ao = some ad ∧ ∀ j v, X[j]? = some v → ((w.alloc (.cells Z 59)).alloc (.cells Z 59)).cell? (ad.add j) = some v) := by
    obtain ⟨b, o, rfl, hc⟩ := ((hx.alloc (.cells Z 59)).alloc (.cells Z 59)) (by omega)
    refine ⟨_, rfl, fun j v hj => ?_⟩
    rw [HX.out] at hj
    have hlt : j < xs.length := by
      have := (List.getElem?_eq_some_iff.1 hj).1
      simpa [bv_length] using this
    rw [bv_get xs j hlt] at hj
    rw [Go.WideShapes.add_plain, hc j hlt]
    exact hj
  clear hZ
  go_enter Try.func34, Try.ntmps34
  go_wp2_with (first
    | (refine wpList_copy_splice rfl _ _ 28 28 rfl 5 Try.underlying28 hsz1 (some ⟨w.heap.size + 1, 0, none⟩) ao 128 128 128 cap rfl rfl (w.heap.size + 1) 0 Z.toList 59 (by rw [Array.toArray_toList]; simpa using heap_alloc_new (w.alloc (.cells Z 59)) (.cells Z 59)) X (by rw [HXl.out]; rfl) (fun _ => ⟨rfl, HPos.out⟩) (by rw [HXl.out, HZl.out]; decide) H1.out (w.heap.size + 1) (w.alloc (.cells Z 59)) (by simpa using (Below.refl _ (w.alloc (.cells Z 59))).alloc (Nat.le_refl _) (.cells Z 59)) (Nat.le_refl _) ?_; intro w2 hg2 hb2; rw [HSP.out] at hg2; have HB2 : Hid (w2.heap[w.heap.size]? = some (.cells Z 59 (0, 0))) := (hb2.block w.heap.size (Nat.lt_succ_self _)).trans (heap_alloc_new w _))
    | (refine wpList_load_row rfl 59 _ rfl (w.heap.size + 1) rfl 59 X.toArray (0, 0) _ hg2.out Try.underlying59 rfl (by rw [HIt.out]; simp [HXl.out]) ?_)
    | (refine wpList_store_row rfl 59 _ _ rfl w.heap.size X.toArray rfl rfl 59 Z HB2.out (by rw [HIt.out]; simp [HXl.out]) (by have := HZl.out; simp only [List.size_toArray, HXl.out]; simpa using this) (all_oneCell_toArray H1.out) ?_))
  refine bodyPost_ret (v := .agg X.toArray) (results_cell_row Try.results34 _ _ w.heap.size 59 X.toArray (0, 0) _ rfl (setRow_heap _ _ _ _ _ _ HB2.out) Try.underlying59 rfl (by rw [HIt.out]; simp [HXl.out])) rfl ⟨rfl, ?_⟩
  exact below_setRow (((Below.refl _ w).alloc (Nat.le_refl _) _).trans (hb2.mono (Nat.le_succ _))) (Nat.le_refl _) _
end Go.Proofs.Ytgdkiejlggiakaa
