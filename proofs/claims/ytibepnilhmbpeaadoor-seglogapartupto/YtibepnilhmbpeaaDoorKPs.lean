import Derived.Test.YtibepnilhmbpeaaDoorClone
namespace Go.Proofs.YtibepnilhmbpeaaDoor
set_option linter.unusedVariables false
set_option linter.unusedSimpArgs false
open Go.RowKit
/-- a number in [lo, hi] out of any number -/
def spanK (n : Int) (lo hi : Nat) : Nat := lo + ((if n < 0 then -(n + 1) else n) % ((hi : Int) - lo + 1)).toNat
theorem spanK_in (n : Int) (lo hi : Nat) (h : lo ≤ hi) : lo ≤ spanK n lo hi ∧ spanK n lo hi ≤ hi := by
  unfold spanK
  have h1 := Int.emod_nonneg (if n < 0 then -(n + 1) else n) (show ((hi : Int) - lo + 1) ≠ 0 by omega)
  have h2 := Int.emod_lt_of_pos (if n < 0 then -(n + 1) else n) (show (0 : Int) < ((hi : Int) - lo + 1) by omega)
  omega
set_option maxRecDepth 20000 in
set_option maxHeartbeats 400000 in
theorem spanK_t (n : Int) (lo hi : Nat) (w : World) (h1 : -9223372036854775808 ≤ n) (h2 : n ≤ 9223372036854775807) (h3 : lo ≤ hi) (h4 : hi ≤ 65536) :
    Calls Tryd.prog 9 #[.int .i64 n, .int .i64 (lo : Int), .int .i64 (hi : Int)] w fun e w' => e = .returned (.int .i64 (spanK n lo hi : Nat)) ∧ w' = w := by
  obtain ⟨q, hq⟩ : ∃ q : Int, q = (hi : Int) - lo + 1 := ⟨_, rfl⟩
  have hq1 : IntKind.i64.wrap ((hi : Int) - lo) = q - 1 := by rw [IntKind.wrap_i64]; omega
  have hq2 : IntKind.i64.wrap (q - 1 + 1) = q := by rw [IntKind.wrap_i64]; omega
  have hq3 : 0 < q := by omega
  have hq4 : q ≤ 65537 := by omega
  have hin := spanK_in n lo hi h3
  by_cases hn : n < 0
  · obtain ⟨m, hm⟩ : ∃ m : Int, m = -(n + 1) := ⟨_, rfl⟩
    have hm0 : 0 ≤ m := by omega
    have hm1 : m ≤ 9223372036854775807 := by omega
    have hw1 : IntKind.i64.wrap (n + 1) = -m := by rw [IntKind.wrap_i64]; omega
    have hw2 : IntKind.i64.wrap (- -m) = m := by rw [IntKind.wrap_i64]; omega
    have hr : m % q = ((spanK n lo hi - lo : Nat) : Int) := by
      unfold spanK
      rw [if_pos hn, ← hm, ← hq]
      have := Int.emod_nonneg m (show q ≠ 0 by omega)
      omega
    have hr2 : IntKind.i64.wrap ((lo : Int) + m % q) = ((spanK n lo hi : Nat) : Int) := by rw [IntKind.wrap_i64, hr]; omega
    have HR : Hid _ := hr
    clear hq hm hr hin
    go_enter Tryd.func9, Tryd.ntmps9
    go_wp2
    go_ret
    exact ⟨rfl, rfl⟩
  · have hn0 : 0 ≤ n := by omega
    have hr : n % q = ((spanK n lo hi - lo : Nat) : Int) := by
      unfold spanK
      rw [if_neg hn, ← hq]
      have := Int.emod_nonneg n (show q ≠ 0 by omega)
      omega
    have hr2 : IntKind.i64.wrap ((lo : Int) + n % q) = ((spanK n lo hi : Nat) : Int) := by rw [IntKind.wrap_i64, hr]; omega
    have HR : Hid _ := hr
    clear hq hr hin
    go_enter Tryd.func9, Tryd.ntmps9
    go_wp2
    go_ret
    exact ⟨rfl, rfl⟩
end Go.Proofs.YtibepnilhmbpeaaDoor
