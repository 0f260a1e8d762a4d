import Derived.Test.YtppplmepddbldaaSNeed
namespace Go.Proofs.Ytppplmepddbldaa
set_option linter.unusedVariables false
set_option linter.unusedSimpArgs false
open Go.RowKit
set_option maxRecDepth 20000 in
theorem seglogNames_walk (w : World) : Calls Try.prog 3 #[] w fun e w' => e = .returned (.bool true) ∧ Below w.heap.size w w' := by
  have H1 : Hid (Calls Try.prog 4 #[.int .i64 0] w fun e w' => e = .returned (.int .i64 1) ∧ w' = w) := need_t 0 (by decide) w
  have H2 : Hid (Calls Try.prog 4 #[.int .i64 105] w fun e w' => e = .returned (.int .i64 2) ∧ w' = w) := need_t 105 (by decide) w
  have H3 : Hid (Calls Try.prog 4 #[.int .i64 8192] w fun e w' => e = .returned (.int .i64 79) ∧ w' = w) := need_t 8192 (by decide) w
  have H4 : Hid (Calls Try.prog 4 #[.int .i64 8193] w fun e w' => e = .returned (.int .i64 0) ∧ w' = w) := need_no 8193 (by decide) w
  go_enter Try.func3, Try.ntmps3
  go_wp2_with fail
  refine H1.out.mono ?_
  rintro e w1 ⟨rfl, hq⟩
  have hq := hq.symm
  subst hq
  go_wp2_with fail
  refine H2.out.mono ?_
  rintro e w1 ⟨rfl, hq⟩
  have hq := hq.symm
  subst hq
  go_wp2_with fail
  refine H3.out.mono ?_
  rintro e w1 ⟨rfl, hq⟩
  have hq := hq.symm
  subst hq
  go_wp2_with fail
  refine H4.out.mono ?_
  rintro e w1 ⟨rfl, hq⟩
  have hq := hq.symm
  subst hq
  go_wp2
  go_ret
  exact ⟨rfl, Below.refl _ _⟩
end Go.Proofs.Ytppplmepddbldaa
