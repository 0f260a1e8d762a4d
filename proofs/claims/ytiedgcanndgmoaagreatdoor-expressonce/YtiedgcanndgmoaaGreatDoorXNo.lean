import Derived.Test.YtiedgcanndgmoaaGreatDoorXK
import Derived.Deep.MidRow
import Derived.Deep.WholeRow
import Derived.OwnWalk
namespace Go.Proofs.YtiedgcanndgmoaaGreatDoor
set_option linter.unusedVariables false
set_option linter.unusedSimpArgs false
open Go.RowKit
theorem alx {w w1 : World} {B : Nat} (h : Below B w w1) (hB : B ≤ w1.heap.size) (o : Obj) : Below B w (w1.alloc o) := h.alloc hB o
/-- no sender, or one that nobody made -/
def S0 (w : World) (q : Option Addr) : Prop := q = none ∨ ∃ p, q = some ⟨p, 0, none⟩ ∧ w.cell? ⟨p, 5, none⟩ = some (.map none)
theorem S0.below {w w' : World} {q : Option Addr} (h : S0 w q) (hb : Below w.heap.size w w') : S0 w' q := by
  rcases h with rfl | ⟨p, rfl, hc⟩
  · exact .inl rfl
  · exact .inr ⟨p, rfl, (hb.cell (World.block_lt_of_cell? w _ hc)).trans hc⟩
section
variable {w : World} {q : Option Addr}
set_option maxRecDepth 20000
set_option maxHeartbeats 1600000
end
end Go.Proofs.YtiedgcanndgmoaaGreatDoor
