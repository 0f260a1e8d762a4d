import Derived.Test.YtinphflminaijaaDoorConv
namespace Go.Proofs.YtinphflminaijaaDoor
set_option linter.unusedVariables false
set_option linter.unusedSimpArgs false
open Go.RowKit
set_option maxRecDepth 20000 in
set_option maxHeartbeats 400000 in
theorem octetNames_walk (w : World) (ht : TabOk w) :
    Calls Tryd.prog 4 #[] w fun e w' => e = .returned (.bool true) ∧ Below w.heap.size w w' := by
  go_enter Tryd.func4, Tryd.ntmps4
  go_wp2_with (first | (go_at_call 7; refine (knows_any _ ht).mono ?_; rintro e w1 ⟨rfl, hb1⟩) | go_in)
  go_ways
  go_ret
  exact ⟨rfl, hb1⟩
end Go.Proofs.YtinphflminaijaaDoor
