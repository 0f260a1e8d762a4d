import Derived.Test.YtinphflminaijabDoorUnseal
import Derived.Test.YtinphflminaijabDoorTold
import Derived.Test.YtinphflminaijabDoorConv
import Derived.Test.YtinphflminaijabDoorOpen
namespace Go.Proofs.YtinphflminaijabDoor
set_option linter.unusedVariables false
set_option linter.unusedSimpArgs false
open Go.RowKit
theorem unS_cases (xs : List UInt8) : (∃ ys, xs = ys ++ sealL ys ∧ unS xs = (ys, 0)) ∨ unS xs = ([], 13) ∨ (unS xs = ([], 10) ∧ xs.length < 4) := by
  unfold unS
  by_cases h4 : xs.length < 4
  · right; right; rw [if_pos h4]; exact ⟨rfl, h4⟩
  · rw [if_neg h4]
    by_cases he : xs.drop (xs.length - 4) = sealL (xs.take (xs.length - 4))
    · left
      refine ⟨xs.take (xs.length - 4), ?_, by rw [if_pos he]⟩
      rw [← he, List.take_append_drop]
    · right; left; rw [if_neg he]
set_option maxRecDepth 20000 in
set_option maxHeartbeats 1600000 in
theorem octetSeal_walk (a0 : Option Addr) (cap0 : Nat) (xs0 : List UInt8) (w : World) (hr0 : Rd w a0 xs0) (hl0 : xs0.length ≤ cap0) (hc0 : cap0 ≤ 140737488351232) (hn0 : a0 = none → cap0 = 0) (ht : TabOk w) :
    Calls Tryd.prog 3 #[.slice a0 xs0.length cap0] w fun e w' => e = .returned (.bool true) ∧ Below w.heap.size w w' := by
  have hl1 : xs0.length ≤ 140737488351232 := by omega
  have hcx : cap0 ≤ 9223372036854775807 := by omega
  clear hc0
  have HN : Hid (a0 = none → cap0 = 0) := hn0
  clear hn0
  go_enter Tryd.func3, Tryd.ntmps3
  go_wp2_with fail
  refine (seal_any a0 cap0 xs0 w hr0 HN.out (by omega) ht).mono ?_
  rintro e w3 ⟨v3, rfl, hown3, hb3⟩
  obtain ⟨a3, c3, hv3, hlc3, hcm3, -, hr3, -⟩ := hown3.val
  rw [len_seal] at hv3 hlc3
  subst hv3
  simp only [maxLen] at hcm3
  clear hown3
  have ht3 := ht.below hb3
  go_wp2_with fail
  refine (unseal_n a3 _ c3 (xs0 ++ sealL xs0) (len_seal _ _).symm xs0 0 (unS_seal xs0) w3 hr3 hlc3 hcm3 (by omega) ht3).mono ?_
  rintro e w5 ⟨v5, rfl, hown5, hb5⟩
  have hb05 := below_next hb3 hb5
  obtain ⟨a5, c5, rfl, -, -, -, hr5, -⟩ := hown5.val
  have hcv3 := conv_rd hr5 _ c5 rfl
  have hcv4 := conv_rd (hr0.below hb05) _ cap0 rfl
  clear hown5
  have ht5 := ht.below hb05
  go_wp2_with fail
  refine (knows_any _ ht5).mono ?_
  rintro e w6 ⟨rfl, hb6⟩
  have hb06 := below_next hb05 hb6
  have hr06 := hr0.below hb06
  have ht6 := ht.below hb06
  clear hcv3 hcv4
  go_wp2_with fail
  rcases unS_cases xs0 with ⟨ys, hys, hu⟩ | hu | ⟨hu, h4⟩
  · refine (unseal_n a0 _ cap0 xs0 rfl ys 0 hu w6 hr06 hl0 hcx (by omega) ht6).mono ?_
    rintro e w7 ⟨v7, rfl, hown7, hb7⟩
    have hb07 := below_next hb06 hb7
    have hyl : ys.length + 4 = xs0.length := by rw [hys, len_seal]
    obtain ⟨a7, c7, rfl, -, -, hn7, hr7, -⟩ := hown7.val
    have HN7 : Hid (a7 = none → c7 = 0) := hn7
    have HYS : Hid (ys ++ sealL ys = xs0) := hys.symm
    have hyb : ys.length + 4 ≤ 140737488351232 := by omega
    have hcv : ∀ u, Below w7.heap.size w7 u → (convert 22 9 (.slice a0 xs0.length cap0)).run Tryd.prog u = .ok (.string ⟨xs0.toArray⟩) u := fun u hu => conv_rd ((hr0.below hb07).below hu) _ cap0 rfl
    have ht7 := ht.below hb07
    clear hyl hys hn7 hown7 hu
    go_wp2_with fail
    refine wp_region_noPanic ?_
    refine wp_region_held_drew (S := (fun u => Below w7.heap.size w7 u)) (by kernel_rfl) (by first | exact (Below.refl _ _).drew | assumption) (fun hHeld => ?_)
    refine take_at (i := 0) 33 (v := ?_) rfl rfl (by kernel_rfl) (by kernel_rfl) (by kernel_rfl) (fun _ _ _ h => h) (by rfl) ?_ hHeld ?_
    rotate_left
    · (intro w hSw; (try dsimp only at hSw); go_simp; try with_reducible rfl)
    simp only [Act.put, List.setIfInBounds_toArray, List.set_cons_zero, List.set_cons_succ]
    refine take_at (i := 3) 36 (v := ?_) rfl rfl (by kernel_rfl) (by kernel_rfl) (by kernel_rfl) (fun _ _ _ h => h) (by rfl) ?_ hHeld ?_
    rotate_left
    · (intro w hSw; (try dsimp only at hSw); go_simp; try with_reducible rfl)
    simp only [Act.put, List.setIfInBounds_toArray, List.set_cons_zero, List.set_cons_succ]
    refine take_at (i := 4) 37 (v := ?_) rfl rfl (by kernel_rfl) (by kernel_rfl) (by kernel_rfl) (fun _ _ _ h => h) (by rfl) ?_ hHeld ?_
    rotate_left
    · (intro w hSw; (try dsimp only at hSw); go_simp; try with_reducible rfl)
    simp only [Act.put, List.setIfInBounds_toArray, List.set_cons_zero, List.set_cons_succ]
    refine run_at (i := 1) rfl (by kernel_rfl) (by rfl) (fun K hK => ?_)
    simp only [List.getElem_toArray, List.getElem_cons_zero, List.getElem_cons_succ]
    go_simp
    first | (go_at_call 10; refine (seal_any a7 c7 ys _ (hr7.below (by first | exact (Below.refl _ _).drew | assumption)) HN7.out (by omega) (ht7.below (by first | exact (Below.refl _ _).drew | assumption))).mono ?_; rintro e w8 ⟨v8, rfl, hown8, hb8⟩; have hS8 := below_next (B := w7) (by first | exact (Below.refl _ _).drew | assumption) hb8; rw [HYS.out] at hown8; obtain ⟨a8, c8, rfl, -, -, -, hr8, -⟩ := hown8.val; have hcv8 := conv_rd hr8 _ c8 rfl)
    go_wp2_with fail
    refine hK.out _ _ (by first | exact (Below.refl _ _).drew | assumption) ?_
    clear hK K
    intro hHeld2
    clear hHeld
    have hHeld := hHeld2
    clear hHeld2
    try simp only [Act.put, List.setIfInBounds_toArray, List.set_cons_zero, List.set_cons_succ]
    refine val_at (i := 2) 35 (v := ?_) rfl rfl (by kernel_rfl) (by rfl) ?_ ?_ ?_
    rotate_left
    · (go_simp; try with_reducible rfl)
    · (first | exact (Below.refl _ _).drew | assumption)
    intro hHeld2
    clear hHeld
    have hHeld := hHeld2
    clear hHeld2
    simp only [Act.put, List.setIfInBounds_toArray, List.set_cons_zero, List.set_cons_succ]
    refine take_at (i := 5) 38 (v := ?_) rfl rfl (by kernel_rfl) (by kernel_rfl) (by kernel_rfl) (fun _ _ _ h => h) (by rfl) ?_ hHeld ?_
    rotate_left
    · (intro w hSw; (try dsimp only at hSw); go_simp; try with_reducible rfl)
    simp only [Act.put, List.setIfInBounds_toArray, List.set_cons_zero, List.set_cons_succ]
    refine take_at (i := 6) 2 (v := ?_) rfl rfl (by kernel_rfl) (by kernel_rfl) (by kernel_rfl) (fun _ _ _ h => h) (by rfl) ?_ hHeld ?_
    rotate_left
    · (intro w hSw; (try dsimp only at hSw); go_simp; try with_reducible rfl)
    simp only [Act.put, List.setIfInBounds_toArray, List.set_cons_zero, List.set_cons_succ]
    refine wpAnyH_done (by kernel_rfl) ?_ _
    refine NoPanic.normal ?_
    go_wp2
    go_ret
    exact ⟨rfl, below_next hb07 hS8⟩
  · refine (unseal_n a0 _ cap0 xs0 rfl [] 13 hu w6 hr06 hl0 hcx (by omega) ht6).mono ?_
    rintro e w7 ⟨v7, rfl, hown7, hb7⟩
    have hb07 := below_next hb06 hb7
    obtain ⟨a7, c7, hv7, -, -, -, -, -⟩ := hown7.val
    rw [List.length_nil] at hv7
    subst hv7
    clear hown7 hu
    go_wp2
    go_ret
    refine ⟨?_, hb07⟩
    first | rfl | (simp; done) | (simp; omega)
  · refine (unseal_n a0 _ cap0 xs0 rfl [] 10 hu w6 hr06 hl0 hcx (by omega) ht6).mono ?_
    rintro e w7 ⟨v7, rfl, hown7, hb7⟩
    have hb07 := below_next hb06 hb7
    obtain ⟨a7, c7, hv7, -, -, -, -, -⟩ := hown7.val
    rw [List.length_nil] at hv7
    subst hv7
    clear hown7 hu
    go_wp2
    go_ret
    refine ⟨?_, hb07⟩
    first | rfl | (simp; done) | (simp; omega)
end Go.Proofs.YtinphflminaijabDoor
