import Derived.Test.YtgdkiejlggiakaaDText
namespace Go.Proofs.Ytgdkiejlggiakaa
set_option linter.unusedVariables false
set_option linter.unusedSimpArgs false
open Go.RowKit
set_option maxRecDepth 20000 in
set_option maxHeartbeats 800000 in
theorem row_t (b o n cap i : Nat) (w : World) (h : i * 129 + 129 ≤ n) (hc : n ≤ cap) (hm : n ≤ 140737488355328) :
    Calls Try.prog 28 #[.slice (some ⟨b, o, none⟩) n cap, .int .i64 (i : Int)] w fun e w' => e = .returned (.slice (some ⟨b, o + i * 129, none⟩) 129 129) ∧ w' = w := by
  obtain ⟨M, hM⟩ : ∃ M : Nat, M = i * 129 := ⟨_, rfl⟩
  obtain ⟨L, hL⟩ : ∃ L : Nat, L = i * 129 + 129 := ⟨_, rfl⟩
  have hw1 : IntKind.i64.wrap ((i : Int) * 129) = (M : Int) := by rw [IntKind.wrap_i64]; omega
  have hw0 : IntKind.i64.wrap ((i : Int) + 1) = (i : Int) + 1 := by rw [IntKind.wrap_i64]; omega
  have hw2 : IntKind.i64.wrap (((i : Int) + 1) * 129) = (L : Int) := by rw [IntKind.wrap_i64]; omega
  have g1 : L ≤ cap := by omega
  have g2 : M ≤ L := by omega
  have g3 : ¬ L = M := by omega
  have HLM : Hid (L - M = 129) := by show L - M = 129; omega
  rw [← hM]
  clear hM hL h hc
  go_enter Try.func28, Try.ntmps28
  go_wp2
  go_ret
  refine ⟨?_, rfl⟩
  rw [HLM.out]
  rfl
end Go.Proofs.Ytgdkiejlggiakaa
