import Derived.Test.YtnpcgegcoakbmaaDoorRH
namespace Go.Proofs.YtnpcgegcoakbmaaDoor
set_option linter.unusedVariables false
set_option linter.unusedSimpArgs false
open Go.RowKit
section
variable {w w' : World} {p R : Nat} {v : Value} {E : List Dc} {L : List Dgm}
set_option maxRecDepth 20000 in
set_option maxHeartbeats 3200000 in
theorem rdrop_t (h : Wy SR w p R v E L) (i : Int) :
    Calls Tryd.prog 37 #[.pointer (some ⟨p, 0, none⟩), .int .i64 i] w fun e w' => e = .returned (.int .i64 (plE L i)) ∧ ∃ v' E', Wy SR w' p R v' E' (dropL L i) ∧ WSt w w' p v E v' E' := by
  have H : Hid _ := rtake_t h i
  clear h
  go_enter Tryd.func37, Tryd.ntmps37
  go_wp2_with (go_at_call 36; refine Calls.mono H.out ?_; rintro e w1 ⟨u, rfl, -, v1, E1, h1, hst1⟩; have H1 : Hid _ := h1; have HS1 : Hid _ := hst1; clear h1 hst1)
  go_ret
  exact ⟨rfl, v1, E1, H1.out, HS1.out⟩
set_option maxRecDepth 20000 in
set_option maxHeartbeats 1600000 in
theorem rwithin_t (n : Nat) (at_ : Int) (m : Nat) (hn : n ≤ 2048) (hm : m < 4294967296) (ha0 : -9223372036854775808 ≤ at_) (ha1 : at_ ≤ 9223372036854775807) :
    Calls Tryd.prog 46 #[.int .i64 (n : Int), .int .i64 at_, .int .u32 (m : Int)] w fun e w' => e = .returned (.bool (okB n at_ m)) ∧ w' = w := by
  have HI : Hid _ := okB_iff n at_ m
  go_enter Tryd.func46, Tryd.ntmps46
  go_wp2
  go_loop [7] (fun i => ∃ k : Nat, k ≤ 32 ∧ i = .int .i64 k ∧ Hid (∀ j : Nat, j < k → m / 2 ^ j % 2 = 1 → 0 ≤ at_ + j ∧ at_ + j < 8 * n)) (fun i => 32 - (intOf i).toNat)
  case atStart => exact ⟨0, by omega, rfl, fun j hj => by omega⟩
  case round =>
    obtain ⟨k, hk, rfl, HA⟩ := hrel
    by_cases hlt : k < 32
    · obtain ⟨bq, hbq⟩ : ∃ bq : Nat, bq = m / 2 ^ k := ⟨_, rfl⟩
      have hbI : (m : Int) / 2 ^ k = (bq : Int) := by rw [hbq]; simp
      have hbl : bq < 4294967296 := by rw [hbq]; exact Nat.lt_of_le_of_lt (Nat.div_le_self _ _) (by omega)
      have hand := u32_and1b bq hbl
      have HQ : Hid _ := hbq
      clear hbq
      by_cases hb : bq % 2 = 1
      · have hbb : ((bq : Int) % 2 == 1) = true := by simp; omega
        by_cases h1 : at_ < -(k : Int)
        · have HF : Hid (okB n at_ m = false) := by
            rcases hq : okB n at_ m with _ | _
            · rfl
            · have := HI.out.1 hq k hlt (by rw [← HQ.out]; exact hb)
              omega
          go_wp2
          go_ret
          rw [HF.out]
          exact ⟨rfl, rfl⟩
        · by_cases h2 : 8 * (n : Int) - (k : Int) ≤ at_
          · have HF : Hid (okB n at_ m = false) := by
              rcases hq : okB n at_ m with _ | _
              · rfl
              · have := HI.out.1 hq k hlt (by rw [← HQ.out]; exact hb)
                omega
            go_wp2
            go_ret
            rw [HF.out]
            exact ⟨rfl, rfl⟩
          · have HA2 : Hid (∀ j : Nat, j < k + 1 → m / 2 ^ j % 2 = 1 → 0 ≤ at_ + j ∧ at_ + j < 8 * n) := fun j hj hbj => by
              by_cases e : j = k
              · subst e; omega
              · exact HA.out j (by omega) hbj
            go_wp2
            go_round
            case rel => exact ⟨k + 1, by omega, by go_num, HA2⟩
            case measure => simp [intOf]; omega
      · have hbb : ((bq : Int) % 2 == 1) = false := by simp; omega
        have HA2 : Hid (∀ j : Nat, j < k + 1 → m / 2 ^ j % 2 = 1 → 0 ≤ at_ + j ∧ at_ + j < 8 * n) := fun j hj hbj => by
          by_cases e : j = k
          · subst e; rw [← HQ.out] at hbj; omega
          · exact HA.out j (by omega) hbj
        go_wp2
        go_round
        case rel => exact ⟨k + 1, by omega, by go_num, HA2⟩
        case measure => simp [intOf]; omega
    · obtain rfl : k = 32 := by omega
      have HF : Hid (okB n at_ m = true) := HI.out.2 HA.out
      go_wp2
      go_ret
      rw [HF.out]
      exact ⟨rfl, rfl⟩
end
end Go.Proofs.YtnpcgegcoakbmaaDoor
