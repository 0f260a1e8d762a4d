import Derived.Test.YtpakkpahcpgnnaaGreatDoorXS
import Derived.Test.YtpakkpahcpgnnaaGreatDoorXNo
set_option linter.unusedVariables false
set_option linter.unusedSimpArgs false
namespace Go.Proofs.YtpakkpahcpgnnaaGreatDoor
open Go.RowKit Go.Maps
theorem keyBoxF (w : World) (k : Fk) : ∀ u, Below (w.heap.size + 1) (w.alloc (.cells #[.int .i64 k.1, .int .u64 (k.2 : Int)] tFk)) u → u.cell? ⟨w.heap.size, 0, none⟩ = some (.int .i64 k.1) ∧ u.cell? ⟨w.heap.size, 1, none⟩ = some (.int .u64 (k.2 : Int)) ∧ Below w.heap.size w u := fun u hu => by
 have h9 : u.heap[w.heap.size]? = some (.cells #[.int .i64 k.1, .int .u64 (k.2 : Int)] tFk (0, 0)) := (hu.block w.heap.size (by omega)).trans (heap_alloc_new w _); exact ⟨by rw [cR h9]; rfl, by rw [cR h9]; rfl, (alx (Below.refl w.heap.size w) (Nat.le_refl _) _).trans (hu.mono (by omega))⟩
section
variable {w w' : World} {p ms mn pw mw : Nat} {V : Nat → Nat → Value} {s : Xs}
set_option maxRecDepth 20000
set_option maxHeartbeats 1600000
end
end Go.Proofs.YtpakkpahcpgnnaaGreatDoor
