import Derived.Test.YtdpkommmkcmifabWr
namespace Go.Proofs.Ytdpkommmkcmifab
set_option linter.unusedVariables false
set_option linter.unusedSimpArgs false
open Go.RowKit
def carS (b : Bun) : Bool := decide (b.fl % 2 = 1) && (decide (b.e1 = b.e3) && decide (b.e3 < 8))
theorem and1 : ∀ n : Nat, n < 8 → bits .and .u64 (n : Int) 1 = ((n % 2 : Nat) : Int) := by decide
theorem and2 : ∀ n : Nat, n < 8 → bits .and .u64 (n : Int) 2 = ((n / 2 % 2 * 2 : Nat) : Int) := by decide
set_option maxRecDepth 20000 in
set_option maxHeartbeats 800000 in
theorem carries_any (b : Bun) (ba : Option Addr) (bc : Nat) (pa : Option Addr) (pc : Nat) (w : World) (h8 : b.fl < 8) :
    Calls Try.prog 40 #[bunV b ba bc pa pc] w fun e w' => e = .returned (.bool (carS b)) ∧ Below w.heap.size w w' := by
  unfold bunV
  have ha := and1 b.fl h8
  obtain ⟨r, hr⟩ : ∃ r, r = b.fl % 2 := ⟨_, rfl⟩
  rw [← hr] at ha
  have hr2 : r = 0 ∨ r = 1 := by omega
  rcases hr2 with h0 | h0
  · have HV : Hid (carS b = false) := by unfold Hid carS; rw [← hr, h0]; simp
    subst h0
    clear hr
    go_enter Try.func40, Try.ntmps40
    go_wp2
    go_ret
    exact ⟨by rw [HV.out]; rfl, al (Below.refl _ _) _⟩
  · have HV : Hid (carS b = (decide (b.e1 = b.e3) && decide (b.e3 < 8))) := by unfold Hid carS; rw [← hr, h0]; simp
    subst h0
    clear hr
    by_cases h1 : b.e1 = b.e3
    · by_cases h2 : b.e3 < 8
      · go_enter Try.func40, Try.ntmps40
        go_wp2
        go_ret
        exact ⟨by rw [HV.out]; simp [h1, h2] <;> omega, al (Below.refl _ _) _⟩
      · go_enter Try.func40, Try.ntmps40
        go_wp2
        go_ret
        exact ⟨by rw [HV.out]; simp [h1, h2] <;> omega, al (Below.refl _ _) _⟩
    · go_enter Try.func40, Try.ntmps40
      go_wp2
      go_ret
      exact ⟨by rw [HV.out]; simp [h1] <;> omega, al (Below.refl _ _) _⟩
end Go.Proofs.Ytdpkommmkcmifab
