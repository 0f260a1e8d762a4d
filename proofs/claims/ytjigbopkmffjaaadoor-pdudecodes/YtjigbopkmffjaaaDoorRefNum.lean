import Derived.Test.YtjigbopkmffjaaaDoorNumb
namespace Go.Proofs.YtjigbopkmffjaaaDoor
set_option linter.unusedVariables false
set_option linter.unusedSimpArgs false
open Go.RowKit
set_option maxRecDepth 20000 in
set_option maxHeartbeats 3200000 in
theorem refNumber_n (ao : Option Addr) (l cap : Nat) (xs : List UInt8) (hl0 : l = xs.length) (w : World) (hx : Rd w ao xs) (hl : l ≤ 140737488355328) :
    Calls Tryd.prog 74 #[.slice ao l cap] w fun e w' => e = .returned (numV xs) ∧ w' = w := by
  subst hl0
  go_enter Tryd.func74, Tryd.ntmps74
  go_wp2
  go_loop [5] (fun i => ∃ k : Nat, k ≤ min xs.length 10 ∧ i = .int .i64 k ∧ ∀ j (hj : j < xs.length), j < k → 128 ≤ xs[j].toNat) (fun i => 10 - (intOf i).toNat)
  case atStart => exact ⟨0, Nat.zero_le _, rfl, fun j _ h => absurd h (Nat.not_lt_zero j)⟩
  case round =>
    obtain ⟨k, hk, rfl, hall⟩ := hrel
    have HA : Hid (∀ j (hj : j < xs.length), j < k → 128 ≤ xs[j].toNat) := hall
    clear hall
    by_cases hA : k < xs.length
    · by_cases hB : k < 10
      · obtain ⟨b, o, rfl, hc⟩ := hx (by omega)
        have hc1 := hc k hA
        have hlen0 : 0 < xs.length := by omega
        by_cases hC : 128 ≤ xs[k].toNat
        · clear hc
          go_wp2
          go_round
          case rel =>
            refine ⟨k + 1, by omega, by go_num, fun j hj hjk => ?_⟩
            by_cases e : j = k
            · subst e; exact hC
            · exact HA.out j hj (by omega)
          case measure => simp [intOf]; omega
        · have hns : nsz xs = k + 1 := nsz_hit xs k hA hB HA.out (by omega)
          have hc0 := hc 0 hlen0
          simp only [Nat.add_zero] at hc0
          have hhd : xs.head? = some xs[0] := List.head?_eq_getElem? ▸ List.getElem?_eq_getElem hlen0
          have HNS : Hid (numS xs = if xs[0] = 128 then (0, 0, 12) else match vl 0 (xs.take (k + 1)) with | none => (0, 0, 12) | some n => (n, k + 1, 0)) := by
            unfold Hid numS
            rw [hns, if_neg (by omega), hhd]
            simp only [Option.some.injEq]
            rfl
          have hne1 : ((k : Int) == (xs.length : Int)) = false := by simp; omega
          have hne1' : (k == xs.length) = false := by simp; omega
          have hne2 : ((k : Int) == 10) = false := by simp; omega
          clear hhd hns HA
          by_cases h128 : xs[0] = 128
          · have HV : Hid (numV xs = .tuple #[.int .u64 0, .int .i64 0, .int .i64 12]) := by unfold Hid numV; rw [HNS.out, if_pos h128]; rfl
            have h128b : ((xs[0].toNat : Int) == 128) = true := by rw [h128]; rfl
            clear h128 hc
            go_wp2
            go_ret3
            exact ⟨by rw [HV.out]; rfl, rfl⟩
          · have HV : Hid (numS xs = match vl 0 (xs.take (k + 1)) with | none => (0, 0, 12) | some n => (n, k + 1, 0)) := by unfold Hid; rw [HNS.out, if_neg h128]
            have h128b : ((xs[0].toNat : Int) == 128) = false := by
              rw [beq_eq_false_iff_ne]; intro e; apply h128; apply UInt8.toNat_inj.1; simp; omega
            clear h128 HNS
            go_wp2
            go_loop [6, 7] (fun v i => ∃ j n : Nat, j ≤ k + 1 ∧ i = .int .i64 j ∧ v = .int .u64 n ∧ n < 18446744073709551616 ∧ Hid (vl 0 (xs.take (k + 1)) = vl n ((xs.take (k + 1)).drop j))) (fun _ i => k + 1 - (intOf i).toNat)
            case atStart => exact ⟨0, 0, Nat.zero_le _, rfl, rfl, by omega, rfl⟩
            case round =>
              obtain ⟨j, n, hj, rfl, rfl, hn, HK⟩ := hrel
              by_cases hlt : j < k + 1
              · have hjx : j < xs.length := by omega
                have hcj := hc j hjx
                have hle : (j : Int) ≤ (k : Int) := by omega
                have HK1 : Hid (vl 0 (xs.take (k + 1)) = vl n (xs[j] :: (xs.take (k + 1)).drop (j + 1))) := by
                  unfold Hid; rw [HK.out, List.drop_eq_getElem_cons (i := j) (by simp; omega)]; simp
                clear HK hc
                by_cases hbig : 144115188075855872 ≤ n
                · have HV2 : Hid (numV xs = .tuple #[.int .u64 0, .int .i64 0, .int .i64 12]) := by
                    have e1 := HK1.out
                    simp only [vl, if_pos hbig] at e1
                    unfold Hid numV; rw [HV.out, e1]; rfl
                  have hbI : (144115188075855871 : Int) < (n : Int) := by omega
                  clear HV HK1 hbig hn
                  go_wp2
                  go_ret3
                  exact ⟨by rw [HV2.out]; rfl, rfl⟩
                · have HK2 : Hid (vl 0 (xs.take (k + 1)) = vl (n * 128 + xs[j].toNat % 128) ((xs.take (k + 1)).drop (j + 1))) := by
                    have e1 := HK1.out
                    rw [vl, if_neg hbig] at e1
                    exact e1
                  have hxk : (xs[j].toNat : Int) < 256 := by have := xs[j].toNat_lt; omega
                  have hbI : decide ((144115188075855871 : Int) < (n : Int)) = false := by simp; omega
                  have HB : Hid (¬ 144115188075855872 ≤ n) := hbig
                  obtain ⟨q, hq⟩ : ∃ q : Nat, q = n * 128 := ⟨_, rfl⟩
                  obtain ⟨r, hr⟩ : ∃ r : Nat, r = q + xs[j].toNat % 128 := ⟨_, rfl⟩
                  have hw1 : IntKind.u64.wrap ((n : Int) * 128) = (q : Int) := by rw [IntKind.wrap_u64]; omega
                  have hw2 : IntKind.u64.wrap ((q : Int) + (xs[j].toNat : Int) % 128) = (r : Int) := by rw [IntKind.wrap_u64]; omega
                  have HR : Hid (r = n * 128 + xs[j].toNat % 128) := by unfold Hid; omega
                  clear HK1 hbig hn hq hr
                  go_wp2
                  go_round
                  case rel => exact ⟨j + 1, n * 128 + xs[j].toNat % 128, by omega, by go_num, by rw [← HR.out], by have := HB.out; omega, HK2⟩
                  case measure => simp [intOf]; omega
              · obtain rfl : j = k + 1 := by omega
                have e1 := HK.out
                rw [List.drop_of_length_le (by simp; omega), vl] at e1
                have HV2 : Hid (numV xs = .tuple #[.int .u64 n, .int .i64 ((k + 1 : Nat) : Int), .int .i64 0]) := by
                  unfold Hid numV; rw [HV.out, e1]; rfl
                have hgt : ¬ ((k + 1 : Nat) : Int) ≤ (k : Int) := by omega
                clear HV HK e1 hc hlt
                go_wp2
                go_ret3
                exact ⟨by rw [HV2.out]; rfl, rfl⟩
      · obtain rfl : k = 10 := by omega
        have hns : nsz xs = 0 := nsz_miss xs 10 (by omega) HA.out
        have HV : Hid (numV xs = .tuple #[.int .u64 0, .int .i64 0, .int .i64 12]) := by unfold Hid numV numS; rw [if_pos hns, if_neg (by omega)]; rfl
        have hne1 : ((10 : Int) == (xs.length : Int)) = false := by simp; omega
        clear hns HA
        go_wp2
        go_ret3
        exact ⟨by rw [HV.out]; rfl, rfl⟩
    · have hkl : k = xs.length := by omega
      have hns : nsz xs = 0 := nsz_miss xs k (by omega) HA.out
      by_cases h10 : xs.length < 10
      · have HV : Hid (numV xs = .tuple #[.int .u64 0, .int .i64 0, .int .i64 10]) := by unfold Hid numV numS; rw [if_pos hns, if_pos h10]; rfl
        subst hkl
        clear hns HA
        go_wp2
        go_ret3
        exact ⟨by rw [HV.out]; rfl, rfl⟩
      · have HV : Hid (numV xs = .tuple #[.int .u64 0, .int .i64 0, .int .i64 12]) := by unfold Hid numV numS; rw [if_pos hns, if_neg h10]; rfl
        subst hkl
        have he : xs.length = 10 := by omega
        have heb : ((xs.length : Int) == 10) = true := by simp; omega
        clear hns HA
        go_wp2
        go_ret3
        exact ⟨by rw [HV.out]; rfl, rfl⟩
theorem number_n (ao : Option Addr) (l cap : Nat) (xs : List UInt8) (hl0 : l = xs.length) (w : World) (hx : Rd w ao xs) (hlc : l ≤ cap) (hl : l ≤ 140737488355328) :
    Calls Tryd.prog 113 #[.slice ao l cap] w fun e w' => e = .returned (numV xs) ∧ w' = w := by subst hl0; exact number_any ao cap xs w hx hlc hl
end Go.Proofs.YtjigbopkmffjaaaDoor
