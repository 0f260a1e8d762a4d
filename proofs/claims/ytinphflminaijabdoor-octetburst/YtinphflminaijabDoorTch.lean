import Derived.Test.YtinphflminaijabDoorTold
namespace Go.Proofs.YtinphflminaijabDoor
set_option linter.unusedVariables false
set_option linter.unusedSimpArgs false
open Go.RowKit
theorem u32_and1t (a : Nat) (h : a < 4294967296) : bits .and .u32 (a : Int) 1 = ((a % 2 : Nat) : Int) := by
  have h1 := u32_and_nat a 1 h (by decide)
  rw [nat_mask1] at h1
  exact h1
def tchB (at_ : Int) (mask n : Nat) : Bool := (List.range 32).any fun j => decide (mask / 2 ^ j % 2 = 1 ∧ 0 ≤ at_ + j ∧ at_ + j < 8 * n)
theorem tchB_iff (at_ : Int) (mask n : Nat) : tchB at_ mask n = true ↔ tch at_ mask n := by
  unfold tchB tch
  rw [List.any_eq_true]
  constructor
  · rintro ⟨j, hj, hc⟩; exact ⟨j, by simpa using hj, by simpa using hc⟩
  · rintro ⟨j, hj, hc⟩; exact ⟨j, by simpa using hj, by simpa using hc⟩
set_option maxRecDepth 20000 in
set_option maxHeartbeats 800000 in
theorem touches_any (L : Nat) (n : Int) (at_ : Int) (mask : Nat) (w : World) (hn : n = 8 * (L : Int)) (hL : L ≤ 140737488355328) (ha0 : -9223372036854775808 ≤ at_) (ha1 : at_ ≤ 9223372036854775807) (hm : (mask : Int) ≤ 4294967295) :
    Calls Tryd.prog 14 #[.int .i64 n, .int .i64 at_, .int .u32 mask] w fun e w' => e = .returned (.bool (tchB at_ mask L)) ∧ w' = w := by
  have HN : Hid (n = 8 * (L : Int)) := hn
  have hn0 : 0 ≤ n := by omega
  have hn1 : n ≤ 1125899906842624 := by omega
  clear hn
  go_enter Tryd.func14, Tryd.ntmps14
  go_wp2
  go_loop [7] (fun i => ∃ k : Nat, k ≤ 32 ∧ i = .int .i64 k ∧ ∀ j, j < k → ¬ (mask / 2 ^ j % 2 = 1 ∧ 0 ≤ at_ + j ∧ at_ + j < 8 * L)) (fun i => 32 - (intOf i).toNat)
  case atStart => exact ⟨0, Nat.zero_le _, rfl, fun j h => absurd h (Nat.not_lt_zero j)⟩
  case round =>
    obtain ⟨k, hk, rfl, hall⟩ := hrel
    by_cases hlt : k < 32
    · have HA : Hid (∀ j, j < k → ¬ (mask / 2 ^ j % 2 = 1 ∧ 0 ≤ at_ + j ∧ at_ + j < 8 * L)) := hall
      obtain ⟨bq, hbq⟩ : ∃ bq : Nat, bq = mask / 2 ^ k := ⟨_, rfl⟩
      have hbI : (mask : Int) / 2 ^ k = (bq : Int) := by rw [hbq]; simp
      have hbl : bq < 4294967296 := by rw [hbq]; exact Nat.lt_of_le_of_lt (Nat.div_le_self _ _) (by omega)
      have HQ : Hid (bq = mask / 2 ^ k) := hbq
      have hand := u32_and1t bq hbl
      have hnk : wrap64 (n - k) = n - k := by unfold wrap64; omega
      clear hall hbq
      go_wp2
      all_goals first
        | (have HT : tchB at_ mask L = true := (tchB_iff at_ mask L).2 ⟨k, hlt, by rw [← HQ.out]; omega, by omega, by have := HN.out; omega⟩; go_ret; exact ⟨by rw [HT]; rfl, rfl⟩)
        | (go_round
           case rel =>
             refine ⟨k + 1, by omega, by go_num, fun j hj => ?_⟩
             by_cases e : j = k
             · subst e
               rw [← HQ.out]
               have hnn := HN.out
               omega
             · exact HA.out j (by omega)
           case measure => simp [intOf]; omega)
    · obtain rfl : k = 32 := by omega
      go_wp2
      go_ret
      have HF : tchB at_ mask L = false := by
        rw [← Bool.not_eq_true, tchB_iff]
        rintro ⟨j, hj, hc⟩
        exact hall j hj hc
      exact ⟨by rw [HF]; rfl, rfl⟩
end Go.Proofs.YtinphflminaijabDoor
