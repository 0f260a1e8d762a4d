import Derived.Test.YtkdgjfjcpgiokaaGreatLxB
namespace Go.Proofs.YtkdgjfjcpgiokaaGreat
set_option linter.unusedVariables false
set_option linter.unusedSimpArgs false
open Go.RowKit
set_option maxRecDepth 20000 in
set_option maxHeartbeats 3200000 in
theorem inboxNames_walk (w : World) : Calls Tryz.prog 3 #[] w fun e w' => e = .returned (.bool true) ∧ Below w.heap.size w w' := by
  have HK : Hid _ := knows_t w
  go_enter Tryz.func3, Tryz.ntmps3
  go_wp2_with (go_at_call 9; refine Calls.mono HK.out ?_; rintro e w1 ⟨rfl, hb1⟩)
  go_ret
  exact ⟨rfl, hb1⟩
end Go.Proofs.YtkdgjfjcpgiokaaGreat
