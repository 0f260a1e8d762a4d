import Derived.Test.YtgdkiejlggiakabDTell
namespace Go.Proofs.Ytgdkiejlggiakab
set_option linter.unusedVariables false
set_option linter.unusedSimpArgs false
open Go.RowKit
theorem newW_cell (w : World) (n : Nat) : (newW w n).cell? ⟨w.heap.size + 2, 0, none⟩ = some (.slice (some ⟨w.heap.size, 0, none⟩) n n) := by
  have h : (newW w n).heap[w.heap.size + 2]? = some (.cells #[.slice (some ⟨w.heap.size, 0, none⟩) n n, .map (some (w.heap.size + 1)), .bool false, .int .i64 (-1)] 34 (0, 0)) := by
    unfold newW
    have := heap_alloc_new ((w.alloc (.cells (madeCells z129 (n * 129)) 71)).alloc (.map #[] 0)) (.cells #[.slice (some ⟨w.heap.size, 0, none⟩) n n, .map (some (w.heap.size + 1)), .bool false, .int .i64 (-1)] 34)
    simpa using this
  rw [cell_of_row _ _ 0 _ _ _ h]
  rfl
theorem newW_below (w : World) (n : Nat) : Below w.heap.size w (newW w n) := by
  unfold newW
  exact (((Below.refl _ _).alloc (Nat.le_refl _) _).alloc (by simp) _).alloc (by simp; omega) _
end Go.Proofs.Ytgdkiejlggiakab
