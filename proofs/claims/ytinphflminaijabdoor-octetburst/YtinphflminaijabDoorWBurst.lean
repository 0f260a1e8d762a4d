import Derived.Test.YtinphflminaijabDoorUnseal
import Derived.Test.YtinphflminaijabDoorTch
import Derived.Test.YtinphflminaijabDoorConv
import Derived.Test.YtinphflminaijabDoorOpen
namespace Go.Proofs.YtinphflminaijabDoor
set_option linter.unusedVariables false
set_option linter.unusedSimpArgs false
open Go.RowKit
set_option maxRecDepth 20000 in
set_option maxHeartbeats 1600000 in
theorem octetBurst_walk (a0 : Option Addr) (cap0 : Nat) (xs0 : List UInt8) (n1 n2 : Int) (w : World) (hr0 : Rd w a0 xs0) (hl0 : xs0.length ≤ cap0) (hc0 : cap0 ≤ 140737488351232) (hn0 : a0 = none → cap0 = 0)
    (w1 : (Lit.int .i64 n1).wf = true) (w2 : (Lit.int .u32 n2).wf = true) (ht : TabOk w) :
    Calls Tryd.prog 5 #[.slice a0 xs0.length cap0, .int .i64 n1, .int .u32 n2] w fun e w' => e = .returned (.bool true) ∧ Below w.heap.size w w' := by
  obtain ⟨m2, rfl, hm2⟩ := u32_of w2
  obtain ⟨ha0, ha1⟩ := i64_of w1
  have hl1 : xs0.length ≤ 140737488351232 := by omega
  clear w1 w2 hc0
  have HN : Hid (a0 = none → cap0 = 0) := hn0
  clear hn0
  go_enter Tryd.func5, Tryd.ntmps5
  go_wp2_with fail
  refine (knows_any _ ht).mono ?_
  rintro e wk ⟨rfl, hbk⟩
  have hrk := hr0.below hbk
  have htk := ht.below hbk
  go_wp2_with fail
  refine (seal_any a0 cap0 xs0 wk hrk HN.out (by omega) htk).mono ?_
  rintro e w3 ⟨v3, rfl, hown3, hb3⟩
  have hb03 := below_next hbk hb3
  obtain ⟨a3, c3, hv3, hlc3, hcm3, hn3, hr3, hblk3⟩ := hown3.val
  rw [len_seal] at hv3 hlc3
  subst hv3
  have HN3 : Hid (a3 = none → c3 = 0) := hn3
  simp only [maxLen] at hcm3
  clear hn3
  go_wp2_with fail
  refine (burst_n a3 _ c3 (xs0 ++ sealL xs0) (len_seal _ _).symm n1 m2 w3 hr3 HN3.out (by omega) ha0 ha1 hm2).mono ?_
  rintro e w4 ⟨v4, rfl, hown4, hb4⟩
  have hb04 := below_next hb03 hb4
  have hr34 := hr3.below hb4
  obtain ⟨a4, c4, hv4, hlc4, hcm4, hn4, hr4, hblk4⟩ := hown4.val
  rw [bst_len, len_seal] at hv4 hlc4
  subst hv4
  have HN4 : Hid (a4 = none → c4 = 0) := hn4
  simp only [maxLen] at hcm4
  clear hn4 hown3 hown4
  have ht4 := ht.below hb04
  have hlb : xs0.length + 4 = (bst n1 m2 (xs0 ++ sealL xs0) 32).length := by rw [bst_len, len_seal]
  have HLB : Hid (xs0.length + 4 = (bst n1 m2 (xs0 ++ sealL xs0) 32).length) := hlb
  have HTW : Hid (bst n1 m2 (bst n1 m2 (xs0 ++ sealL xs0) 32) 32 = xs0 ++ sealL xs0) := bst_twice _ _ _ _
  have HUS : Hid (unS (xs0 ++ sealL xs0) = (xs0, 0)) := unS_seal xs0
  have HTI := tchB_iff n1 m2 (xs0.length + 4)
  have HSAME := bst_same n1 m2 (xs0 ++ sealL xs0)
  have HTOLD := burst_told xs0 n1 m2
  rw [len_seal] at HSAME HTOLD
  clear hlb
  go_wp2_with fail
  by_cases htc : tchB n1 m2 (xs0.length + 4) = true
  · have hne : bst n1 m2 (xs0 ++ sealL xs0) 32 ≠ xs0 ++ sealL xs0 := fun h => HSAME.1 h (HTI.1 htc)
    have HU4 : Hid (unS (bst n1 m2 (xs0 ++ sealL xs0) 32) = ([], 13)) := HTOLD (HTI.1 htc)
    have HTC : Hid (tchB n1 m2 (xs0.length + 4) = true) := htc
    clear HSAME HTI HTOLD htc
    generalize bst n1 m2 (xs0 ++ sealL xs0) 32 = ts at *
    refine (unseal_n a4 _ c4 ts HLB.out [] 13 HU4.out w4 hr4 hlc4 hcm4 (by omega) ht4).mono ?_
    rintro e w5 ⟨v5, rfl, hown5, hb5⟩
    have hb05 := below_next hb04 hb5
    obtain ⟨a5, c5, hv5, -, -, -, -, -⟩ := hown5.val
    rw [List.length_nil] at hv5
    subst hv5
    have hcv1 := conv_rd (hr4.below hb5) (xs0.length + 4) c4 HLB.out
    have hcv2 := conv_rd (hr34.below hb5) (xs0.length + 4) c3 (len_seal _ _).symm
    have hneb : (ts == xs0 ++ sealL xs0) = false := by rw [beq_eq_false_iff_ne]; exact hne
    clear hne hown5
    go_wp2_with fail
    refine (touches_any (xs0.length + 4) _ n1 m2 _ (by omega) (by omega) ha0 ha1 hm2).mono ?_
    rintro e w6 ⟨rfl, rfl⟩
    rw [HTC.out]
    go_wp2_with fail
    refine (burst_n a4 _ c4 ts HLB.out n1 m2 _ (hr4.below hb5) HN4.out (by omega) ha0 ha1 hm2).mono ?_
    rintro e w7 ⟨v7, rfl, hown7, hb7⟩
    rw [HTW.out] at hown7
    have hb07 := below_next hb05 hb7
    obtain ⟨a7, c7, hv7, hlc7, hcm7, -, hr7, -⟩ := hown7.val
    rw [len_seal] at hv7 hlc7
    subst hv7
    simp only [maxLen] at hcm7
    clear hown7
    have ht7 := ht.below hb07
    go_wp2_with fail
    refine (unseal_n a7 _ c7 (xs0 ++ sealL xs0) (len_seal _ _).symm xs0 0 HUS.out w7 hr7 hlc7 hcm7 (by omega) ht7).mono ?_
    rintro e w8 ⟨v8, rfl, hown8, hb8⟩
    have hb08 := below_next hb07 hb8
    obtain ⟨a8, c8, rfl, -, -, -, hr8, -⟩ := hown8.val
    have hcv8 := conv_rd hr8 _ c8 rfl
    have hcv9 := conv_rd (hr0.below hb08) _ cap0 rfl
    clear hown8
    go_wp2
    go_ret
    exact ⟨rfl, hb08⟩
  · have hsm : bst n1 m2 (xs0 ++ sealL xs0) 32 = xs0 ++ sealL xs0 := HSAME.2 (fun h => htc (HTI.2 h))
    have htf : tchB n1 m2 (xs0.length + 4) = false := by simpa using htc
    have HTC : Hid (tchB n1 m2 (xs0.length + 4) = false) := htf
    have HU4 : Hid (unS (bst n1 m2 (xs0 ++ sealL xs0) 32) = (xs0, 0)) := by unfold Hid; rw [hsm]; exact HUS.out
    have HSM : Hid (bst n1 m2 (xs0 ++ sealL xs0) 32 = xs0 ++ sealL xs0) := hsm
    clear HSAME HTI HTOLD htc htf hsm
    generalize bst n1 m2 (xs0 ++ sealL xs0) 32 = ts at *
    refine (unseal_n a4 _ c4 ts HLB.out xs0 0 HU4.out w4 hr4 hlc4 hcm4 (by omega) ht4).mono ?_
    rintro e w5 ⟨v5, rfl, hown5, hb5⟩
    have hb05 := below_next hb04 hb5
    obtain ⟨a5, c5, rfl, -, -, -, hr5, -⟩ := hown5.val
    have hcv1 := conv_rd (hr4.below hb5) (xs0.length + 4) c4 HLB.out
    rw [HSM.out] at hcv1
    have hcv2 := conv_rd (hr34.below hb5) (xs0.length + 4) c3 (len_seal _ _).symm
    have hcv3 := conv_rd hr5 _ c5 rfl
    have hcv4 := conv_rd (hr0.below hb05) _ cap0 rfl
    clear hown5
    go_wp2_with fail
    refine (touches_any (xs0.length + 4) _ n1 m2 _ (by omega) (by omega) ha0 ha1 hm2).mono ?_
    rintro e w6 ⟨rfl, rfl⟩
    rw [HTC.out]
    go_wp2_with fail
    refine (burst_n a4 _ c4 ts HLB.out n1 m2 _ (hr4.below hb5) HN4.out (by omega) ha0 ha1 hm2).mono ?_
    rintro e w7 ⟨v7, rfl, hown7, hb7⟩
    rw [HTW.out] at hown7
    have hb07 := below_next hb05 hb7
    obtain ⟨a7, c7, hv7, hlc7, hcm7, -, hr7, -⟩ := hown7.val
    rw [len_seal] at hv7 hlc7
    subst hv7
    simp only [maxLen] at hcm7
    clear hown7
    have ht7 := ht.below hb07
    go_wp2_with fail
    refine (unseal_n a7 _ c7 (xs0 ++ sealL xs0) (len_seal _ _).symm xs0 0 HUS.out w7 hr7 hlc7 hcm7 (by omega) ht7).mono ?_
    rintro e w8 ⟨v8, rfl, hown8, hb8⟩
    have hb08 := below_next hb07 hb8
    obtain ⟨a8, c8, rfl, -, -, -, hr8, -⟩ := hown8.val
    have hcv8 := conv_rd hr8 _ c8 rfl
    have hcv9 := conv_rd (hr0.below hb08) _ cap0 rfl
    clear hown8
    go_wp2
    go_ret
    exact ⟨rfl, hb08⟩
end Go.Proofs.YtinphflminaijabDoor
