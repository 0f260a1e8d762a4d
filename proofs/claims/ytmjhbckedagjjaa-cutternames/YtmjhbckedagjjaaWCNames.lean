import Derived.Test.YtmjhbckedagjjaaLCe
namespace Go.Proofs.Ytmjhbckedagjjaa
set_option linter.unusedVariables false
set_option linter.unusedSimpArgs false
open Go.RowKit
set_option maxRecDepth 20000 in
set_option maxHeartbeats 3200000 in
theorem cutterNames_walk (w : World) : Calls Try.prog 4 #[] w fun e w' => e = .returned (.bool true) ∧ Below w.heap.size w w' := by
  have HNUM : Hid (∀ (e : Int) (u : World), Calls _ _ _ u _) := fun e u => num_t e u
  have HSM : Hid _ := small_t w
  go_enter Try.func4, Try.ntmps4
  go_wp2_with (first | (go_at_call 12; refine Calls.mono (HNUM.out _ _) ?_; rintro e w' ⟨rfl, hq⟩; have hq := hq.symm; subst hq) | (go_at_call 15; refine Calls.mono HSM.out ?_; rintro e w1 ⟨rfl, hb1⟩))
  go_ret
  exact ⟨rfl, hb1⟩
end Go.Proofs.Ytmjhbckedagjjaa
