import Derived.Test.YtgdkiejlggiakaaDTell
namespace Go.Proofs.Ytgdkiejlggiakaa
set_option linter.unusedVariables false
set_option linter.unusedSimpArgs false
open Go.RowKit
theorem newW_cell (w : World) (n : Nat) : (newW w n).cell? ⟨w.heap.size + 2, 0, none⟩ = some (.slice (some ⟨w.heap.size, 0, none⟩) n n) := by
  have h : (newW w n).heap[w.heap.size + 2]? = some (.cells #[.slice (some ⟨w.heap.size, 0, none⟩) n n, .map (some (w.heap.size + 1)), .bool false, .int .i64 (-1)] 57 (0, 0)) := by
    unfold newW
    have := heap_alloc_new ((w.alloc (.cells (madeCells z129 (n * 129)) 61)).alloc (.map #[] 0)) (.cells #[.slice (some ⟨w.heap.size, 0, none⟩) n n, .map (some (w.heap.size + 1)), .bool false, .int .i64 (-1)] 57)
    simpa using this
  rw [cell_of_row _ _ 0 _ _ _ h]
  rfl
theorem newW_below (w : World) (n : Nat) : Below w.heap.size w (newW w n) := by
  unfold newW
  exact (((Below.refl _ _).alloc (Nat.le_refl _) _).alloc (by simp) _).alloc (by simp; omega) _
set_option maxRecDepth 20000 in
theorem diskNames_walk (w : World) : Calls Try.prog 3 #[] w fun e w' => e = .returned (.bool true) ∧ Below w.heap.size w w' := by
  go_enter Try.func3, Try.ntmps3
  go_wp2_with fail
  refine (new_t 3 (by decide) (by decide) w).mono ?_
  rintro e w1 ⟨rfl, rfl⟩
  have hc := newW_cell w 3
  have hb := newW_below w 3
  generalize newW w 3 = W at *
  go_wp2_with fail
  refine (sectors_t _ _ 3 3 W hc).mono ?_
  rintro e w2 ⟨rfl, rfl⟩
  go_wp2
  go_ret
  exact ⟨rfl, hb⟩
end Go.Proofs.Ytgdkiejlggiakaa
