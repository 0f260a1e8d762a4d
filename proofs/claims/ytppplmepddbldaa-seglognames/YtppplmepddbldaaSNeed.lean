import Derived.Test.YtppplmepddbldaaBase
namespace Go.Proofs.Ytppplmepddbldaa
set_option linter.unusedVariables false
set_option linter.unusedSimpArgs false
open Go.RowKit
/-- how many pieces a record of so many bytes has -/
def needS (n : Nat) : Nat := max 1 ((n + 103) / 104)
theorem tdiv104 (n : Nat) : ((n : Int).tdiv 104) = ((n / 104 : Nat) : Int) := by rw [Int.tdiv_eq_ediv_of_nonneg (by omega)]; omega
set_option maxRecDepth 20000 in
theorem need_t (n : Nat) (h : n ≤ 8192) (w : World) : Calls Try.prog 4 #[.int .i64 (n : Int)] w fun e w' => e = .returned (.int .i64 (needS n : Nat)) ∧ w' = w := by
  obtain ⟨A, hA⟩ : ∃ A : Nat, A = n + 104 := ⟨_, rfl⟩
  obtain ⟨B, hB⟩ : ∃ B : Nat, B = n + 103 := ⟨_, rfl⟩
  obtain ⟨C, hC⟩ : ∃ C : Nat, C = B / 104 := ⟨_, rfl⟩
  obtain ⟨D, hD⟩ : ∃ D : Nat, D = needS n := ⟨_, rfl⟩
  have h1 : IntKind.i64.wrap ((n : Int) + 104) = (A : Int) := by rw [IntKind.wrap_i64]; omega
  have h2 : IntKind.i64.wrap ((A : Int) - 1) = (B : Int) := by rw [IntKind.wrap_i64]; omega
  have h3 : (B : Int).tdiv 104 = (C : Int) := by rw [tdiv104, hC]
  have h3w : IntKind.i64.wrap (C : Int) = (C : Int) := by rw [IntKind.wrap_i64]; omega
  have h4 : max (1 : Int) (C : Int) = (D : Int) := by rw [hD]; unfold needS; rw [← hB, ← hC]; omega
  have h5 : ¬ (n : Int) < 0 := by omega
  have h6 : ¬ (8192 : Int) < (n : Int) := by omega
  rw [← hD]
  clear hA hB hC hD
  go_enter Try.func4, Try.ntmps4
  go_wp2
  all_goals
    go_ret
    refine ⟨?_, rfl⟩
    first
      | (show Ending.returned (.int .i64 (C : Int)) = _; rw [show (C : Int) = (D : Int) by omega])
      | (show Ending.returned (.int .i64 1) = _; rw [show (1 : Int) = (D : Int) by omega])
set_option maxRecDepth 20000 in
theorem need_no (n : Int) (h : n < 0 ∨ 8192 < n) (w : World) : Calls Try.prog 4 #[.int .i64 n] w fun e w' => e = .returned (.int .i64 0) ∧ w' = w := by
  by_cases h1 : n < 0
  · go_enter Try.func4, Try.ntmps4
    go_wp2
    go_ret
    exact ⟨rfl, rfl⟩
  · have h2 : (8192 : Int) < n := by omega
    go_enter Try.func4, Try.ntmps4
    go_wp2
    go_ret
    exact ⟨rfl, rfl⟩
end Go.Proofs.Ytppplmepddbldaa
