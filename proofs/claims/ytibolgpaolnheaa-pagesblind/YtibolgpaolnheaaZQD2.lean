import Derived.Test.YtibolgpaolnheaaQD3
import Derived.Test.YtibolgpaolnheaaZQD
namespace Go.Proofs.Ytibolgpaolnheaa.Str
set_option linter.unusedVariables false
set_option linter.unusedSimpArgs false
open Go.RowKit
section
set_option maxRecDepth 20000
set_option maxHeartbeats 3200000
/-- slices.Delete of one page -/
theorem delete_t {w : World} {g n cap : Nat} {vs : List Value} (h : w.ownsRow 0 tPg 1 (.slice (some ⟨g, 0, none⟩) n cap) n vs) (hu : ∀ u ∈ vs, u.oneCell' = true) (i j k : Nat) (hj : j = i + 1) (hi : i < n) (hk : k + 1 = n) (hl : n ≤ 4398046511104) :
    Calls Try.prog 42 #[.slice (some ⟨g, 0, none⟩) n cap, .int .i64 (i : Int), .int .i64 (j : Int)] w fun e w' => e = .returned (.slice (some ⟨g, 0, none⟩) k cap) ∧ w'.ownsRow 0 tPg 1 (.slice (some ⟨g, 0, none⟩) k cap) k (repL vs i j []) ∧ w.grownBy w' (some g) := by
  obtain ⟨cur, hrow, hcl, htk, hnc, hcm, hvl, -⟩ := row_open h
  have HROW : Hid _ := hrow
  have HCL : Hid _ := hcl
  have HTK : Hid _ := htk
  have HCM : Hid _ := hcm
  have HVL : Hid _ := hvl
  have HU : Hid _ := hu
  have hi0 : (0 : Int) ≤ (i : Int) := by omega
  have hj0 : (0 : Int) ≤ (j : Int) := by omega
  have hij : (i : Int) ≤ (j : Int) := by omega
  have hjn : (j : Int) ≤ (n : Int) := by omega
  have hin : (i : Int) ≤ (n : Int) := by omega
  have hncI : (n : Int) ≤ (cap : Int) := by omega
  have hjc : (j : Int) ≤ (cap : Int) := by omega
  have hic : (i : Int) ≤ (cap : Int) := by omega
  have hijn : i ≤ j := by omega
  have hjnn : j ≤ n := by omega
  have hicn : i ≤ cap := by omega
  have hjcn : j ≤ cap := by omega
  have hci : ¬ cap = i := by omega
  have hni : ¬ n = i := by omega
  have hne : ¬ (i : Int) = (j : Int) := by omega
  have hneb : ((i : Int) == (j : Int)) = false := by simpa using hne
  have hkn : (k : Int) ≤ (n : Int) := by omega
  have hk0 : (0 : Int) ≤ (k : Int) := by omega
  have hkc : ¬ cap = k := by omega
  have hkcI : (k : Int) ≤ (cap : Int) := by omega
  have hknn : k ≤ n := by omega
  have HJ : Hid (j = i + 1) := hj
  have HK : Hid (k + 1 = n) := hk
  clear h hrow hcl htk hcm hvl hu hj hk
  by_cases hcj : cap = j
  · obtain rfl : n = j := by omega
    subst hcj
    go_enter Try.func42, Try.ntmps42
    go_wp2_with fail
    refine wp_region_noPanic ?_
    refine wp_region_held_drew (S := (fun _ => True)) (by kernel_rfl) (by exact trivial) (fun hHeld => ?_)
    refine take_at (i := 0) 20 (v := ?_) rfl rfl (by kernel_rfl) (by kernel_rfl) (by kernel_rfl) (fun _ _ _ h => h) (by rfl) ?_ hHeld ?_
    rotate_left
    · (intro w hSw; (try dsimp only at hSw); go_simp; try with_reducible rfl)
    simp only [Act.put, List.setIfInBounds_toArray, List.set_cons_zero, List.set_cons_succ]
    refine take_at (i := 1) 21 (v := ?_) rfl rfl (by kernel_rfl) (by kernel_rfl) (by kernel_rfl) (fun _ _ _ h => h) (by rfl) ?_ hHeld ?_
    rotate_left
    · (intro w hSw; (try dsimp only at hSw); go_simp; try with_reducible rfl)
    simp only [Act.put, List.setIfInBounds_toArray, List.set_cons_zero, List.set_cons_succ]
    refine take_at (i := 2) 22 (v := ?_) rfl rfl (by kernel_rfl) (by kernel_rfl) (by kernel_rfl) (fun _ _ _ h => h) (by rfl) ?_ hHeld ?_
    rotate_left
    · (intro w hSw; (try dsimp only at hSw); go_simp; try with_reducible rfl)
    simp only [Act.put, List.setIfInBounds_toArray, List.set_cons_zero, List.set_cons_succ]
    refine take_at (i := 3) 23 (v := ?_) rfl rfl (by kernel_rfl) (by kernel_rfl) (by kernel_rfl) (fun _ _ _ h => h) (by rfl) ?_ hHeld ?_
    rotate_left
    · (intro w hSw; (try dsimp only at hSw); go_simp; try with_reducible rfl)
    simp only [Act.put, List.setIfInBounds_toArray, List.set_cons_zero, List.set_cons_succ]
    refine take_at (i := 4) 24 (v := ?_) rfl rfl (by kernel_rfl) (by kernel_rfl) (by kernel_rfl) (fun _ _ _ h => h) (by rfl) ?_ hHeld ?_
    rotate_left
    · (intro w hSw; (try dsimp only at hSw); go_simp; try with_reducible rfl)
    simp only [Act.put, List.setIfInBounds_toArray, List.set_cons_zero, List.set_cons_succ]
    refine take_at (i := 5) 25 (v := ?_) rfl rfl (by kernel_rfl) (by kernel_rfl) (by kernel_rfl) (fun _ _ _ h => h) (by rfl) ?_ hHeld ?_
    rotate_left
    · (intro w hSw; (try dsimp only at hSw); go_simp; try with_reducible rfl)
    simp only [Act.put, List.setIfInBounds_toArray, List.set_cons_zero, List.set_cons_succ]
    refine run_at (i := 6) rfl (by kernel_rfl) (by rfl) (fun K hK => ?_)
    simp only [List.getElem_toArray, List.getElem_cons_zero, List.getElem_cons_succ]
    (refine wpo_room _ _ rfl g i cap cur (RowL.drew HROW.out) rfl _ _ _ rfl (vs.drop cap) (by rw [List.length_drop, HVL.out]; omega) (fun t u ht => by rw [List.drop_eq_nil_of_le (by have := HVL.out; omega)] at ht; simp at ht) (fun u hx => HU.out u (List.mem_of_mem_drop hx)) (by omega) HCL.out k (by have := HJ.out; have := HK.out; omega) ?_; intro w2 hr2 hg2; have HR2 : Hid _ := hr2; have HG2 : Hid _ := hg2; clear hr2 hg2)
    refine hK.out _ _ (by exact trivial) ?_
    clear hK K
    intro hHeld2
    clear hHeld
    have hHeld := hHeld2
    clear hHeld2
    try simp only [Act.put, List.setIfInBounds_toArray, List.set_cons_zero, List.set_cons_succ]
    refine take_at (i := 7) 0 (v := ?_) rfl rfl (by kernel_rfl) (by kernel_rfl) (by kernel_rfl) (fun _ _ _ h => h) (by rfl) ?_ hHeld ?_
    rotate_left
    · (intro w hSw; (try dsimp only at hSw); go_simp; try with_reducible rfl)
    simp only [Act.put, List.setIfInBounds_toArray, List.set_cons_zero, List.set_cons_succ]
    refine wpAnyH_done (by kernel_rfl) ?_ _
    refine NoPanic.normal ?_
    obtain ⟨w3, hcl, hr3, hg3⟩ := clear_run (k := k) (m := cap - k) HR2.out (by have := HK.out; omega) (by rw [splice_len (by rw [List.length_drop, HVL.out, HCL.out]; have := HJ.out; omega), HCL.out]; omega)
    have HR3 : Hid _ := hr3
    have HG3 : Hid _ := hg3
    clear hr3 hg3
    go_wp2
    go_ret
    have hlen : (splice cur i (vs.drop cap)).length = cap := by rw [splice_len (by rw [List.length_drop, HVL.out, HCL.out]; omega), HCL.out]
    refine ⟨rfl, row_shut HR3.out ?_ ?_ (by omega) HCM.out (Nat.zero_le _), grow_trans grow_drew (grow_trans HG2.out HG3.out)⟩
    · rw [splice_len (by rw [List.length_replicate, hlen]; have := HK.out; omega), hlen]
    · rw [splice_take (by rw [hlen]; omega), splice_take2 (by rw [HCL.out]; omega) (by rw [List.length_drop, HVL.out]; have := HJ.out; have := HK.out; omega), take_of_take HTK.out (by omega)]
      unfold repL
      simp
  · have hcj2 : ¬ n = j ∨ n = j := by omega
    go_enter Try.func42, Try.ntmps42
    go_wp2_with fail
    refine wp_region_noPanic ?_
    refine wp_region_held_drew (S := (fun _ => True)) (by kernel_rfl) (by exact trivial) (fun hHeld => ?_)
    refine take_at (i := 0) 20 (v := ?_) rfl rfl (by kernel_rfl) (by kernel_rfl) (by kernel_rfl) (fun _ _ _ h => h) (by rfl) ?_ hHeld ?_
    rotate_left
    · (intro w hSw; (try dsimp only at hSw); go_simp; try with_reducible rfl)
    simp only [Act.put, List.setIfInBounds_toArray, List.set_cons_zero, List.set_cons_succ]
    refine take_at (i := 1) 21 (v := ?_) rfl rfl (by kernel_rfl) (by kernel_rfl) (by kernel_rfl) (fun _ _ _ h => h) (by rfl) ?_ hHeld ?_
    rotate_left
    · (intro w hSw; (try dsimp only at hSw); go_simp; try with_reducible rfl)
    simp only [Act.put, List.setIfInBounds_toArray, List.set_cons_zero, List.set_cons_succ]
    refine take_at (i := 2) 22 (v := ?_) rfl rfl (by kernel_rfl) (by kernel_rfl) (by kernel_rfl) (fun _ _ _ h => h) (by rfl) ?_ hHeld ?_
    rotate_left
    · (intro w hSw; (try dsimp only at hSw); go_simp; try with_reducible rfl)
    simp only [Act.put, List.setIfInBounds_toArray, List.set_cons_zero, List.set_cons_succ]
    refine take_at (i := 3) 23 (v := ?_) rfl rfl (by kernel_rfl) (by kernel_rfl) (by kernel_rfl) (fun _ _ _ h => h) (by rfl) ?_ hHeld ?_
    rotate_left
    · (intro w hSw; (try dsimp only at hSw); go_simp; try with_reducible rfl)
    simp only [Act.put, List.setIfInBounds_toArray, List.set_cons_zero, List.set_cons_succ]
    refine take_at (i := 4) 24 (v := ?_) rfl rfl (by kernel_rfl) (by kernel_rfl) (by kernel_rfl) (fun _ _ _ h => h) (by rfl) ?_ hHeld ?_
    rotate_left
    · (intro w hSw; (try dsimp only at hSw); go_simp; try with_reducible rfl)
    simp only [Act.put, List.setIfInBounds_toArray, List.set_cons_zero, List.set_cons_succ]
    refine take_at (i := 5) 25 (v := ?_) rfl rfl (by kernel_rfl) (by kernel_rfl) (by kernel_rfl) (fun _ _ _ h => h) (by rfl) ?_ hHeld ?_
    rotate_left
    · (intro w hSw; (try dsimp only at hSw); go_simp; try with_reducible rfl)
    simp only [Act.put, List.setIfInBounds_toArray, List.set_cons_zero, List.set_cons_succ]
    refine run_at (i := 6) rfl (by kernel_rfl) (by rfl) (fun K hK => ?_)
    simp only [List.getElem_toArray, List.getElem_cons_zero, List.getElem_cons_succ]
    (refine wpo_room _ _ rfl g i cap cur (RowL.drew HROW.out) rfl _ _ _ rfl (vs.drop j) (by rw [List.length_drop, HVL.out]) (fun t u ht => RowL.src (RowL.drew HROW.out) j (n - j) t u (by rw [← HTK.out, List.drop_take] at ht; exact ht)) (fun u hx => HU.out u (List.mem_of_mem_drop hx)) (by omega) HCL.out k (by have := HJ.out; have := HK.out; omega) ?_; intro w2 hr2 hg2; have HR2 : Hid _ := hr2; have HG2 : Hid _ := hg2; clear hr2 hg2)
    refine hK.out _ _ (by exact trivial) ?_
    clear hK K
    intro hHeld2
    clear hHeld
    have hHeld := hHeld2
    clear hHeld2
    try simp only [Act.put, List.setIfInBounds_toArray, List.set_cons_zero, List.set_cons_succ]
    refine take_at (i := 7) 0 (v := ?_) rfl rfl (by kernel_rfl) (by kernel_rfl) (by kernel_rfl) (fun _ _ _ h => h) (by rfl) ?_ hHeld ?_
    rotate_left
    · (intro w hSw; (try dsimp only at hSw); go_simp; try with_reducible rfl)
    simp only [Act.put, List.setIfInBounds_toArray, List.set_cons_zero, List.set_cons_succ]
    refine wpAnyH_done (by kernel_rfl) ?_ _
    refine NoPanic.normal ?_
    obtain ⟨w3, hcl, hr3, hg3⟩ := clear_run (k := k) (m := n - k) HR2.out (by have := HK.out; omega) (by rw [splice_len (by rw [List.length_drop, HVL.out, HCL.out]; have := HJ.out; omega), HCL.out]; omega)
    have HR3 : Hid _ := hr3
    have HG3 : Hid _ := hg3
    clear hr3 hg3
    go_wp2
    go_ret
    have hlen : (splice cur i (vs.drop j)).length = cap := by rw [splice_len (by rw [List.length_drop, HVL.out, HCL.out]; omega), HCL.out]
    refine ⟨rfl, row_shut HR3.out ?_ ?_ (by omega) HCM.out (Nat.zero_le _), grow_trans grow_drew (grow_trans HG2.out HG3.out)⟩
    · rw [splice_len (by rw [List.length_replicate, hlen]; have := HK.out; omega), hlen]
    · rw [splice_take (by rw [hlen]; omega), splice_take2 (by rw [HCL.out]; omega) (by rw [List.length_drop, HVL.out]; have := HJ.out; have := HK.out; omega), take_of_take HTK.out (by omega)]
      unfold repL
      simp
end
end Go.Proofs.Ytibolgpaolnheaa.Str
