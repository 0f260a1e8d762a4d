import Derived.Test.YtpakkpahcpgnnaaGreatDoorXK
import Derived.Deep.MidRow
import Derived.Deep.WholeRow
import Derived.OwnWalk
set_option linter.unusedVariables false
set_option linter.unusedSimpArgs false
namespace Go.Proofs.YtpakkpahcpgnnaaGreatDoor
open Go.RowKit
theorem alx {w w1 : World} {B : Nat} (h : Below B w w1) (hB : B ≤ w1.heap.size) (o : Obj) : Below B w (w1.alloc o) := h.alloc hB o
section
variable {w : World} {q : Option Addr}
set_option maxRecDepth 20000
set_option maxHeartbeats 1600000
end
end Go.Proofs.YtpakkpahcpgnnaaGreatDoor
