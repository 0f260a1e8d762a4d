import Derived.Test.YtinphflminaijaaAppB
import Derived.Test.YtinphflminaijaaRegn
import Derived.Test.YtinphflminaijaaOpen
namespace Go.Proofs.Ytinphflminaijaa
set_option linter.unusedVariables false
set_option linter.unusedSimpArgs false
open Go.RowKit
theorem len_marksL (xs : List UInt8) : (xs ++ marksL).length = xs.length + 8 := by simp [marksL]
theorem Rd.of_ownL {w : World} {B : Nat} {ao : Option Addr} {n cap : Nat} {xs : List UInt8} (h : Own w B (.slice ao n cap) xs) : Rd w ao xs := by
  obtain ⟨a, c, hv, -, -, -, hr, -⟩ := h.val
  simp only [Value.slice.injEq] at hv
  rw [hv.1]
  exact hr
theorem ne_L (g g' n c : Nat) (h : g ≠ g') : Value.ownBlock (.slice (some ⟨g, 0, none⟩) n c) = none ∨ Value.ownBlock (.slice (some ⟨g, 0, none⟩) n c) ≠ some g' := by
  right; simp [Value.ownBlock]; exact h
theorem ap_L {a : Option Addr} {n c g z : Nat} (h : ∀ q, a = some q → z ≤ q.block) (hg : g < z) : Value.ownBlock (.slice a n c) = none ∨ Value.ownBlock (.slice a n c) ≠ some g := by
  rcases a with _ | q
  · exact .inl rfl
  · right
    have := h q rfl
    simp [Value.ownBlock]
    omega
set_option maxRecDepth 20000 in
set_option maxHeartbeats 3200000 in
theorem octetLists_walk (a0 : Option Addr) (cap0 : Nat) (xs0 : List UInt8) (a1 : Option Addr) (cap1 : Nat) (ys0 : List UInt8) (w : World)
    (hr0 : Rd w a0 xs0) (hl0 : xs0.length ≤ cap0) (hc0 : cap0 ≤ 1048576) (hn0 : a0 = none → cap0 = 0) (hr1 : Rd w a1 ys0) (hl1 : ys0.length ≤ cap1) (hc1 : cap1 ≤ 1048576) (hn1 : a1 = none → cap1 = 0) :
    Calls Try.prog 4 #[.slice a0 xs0.length cap0, .slice a1 ys0.length cap1] w fun e w' => e = .returned (.bool true) ∧ Below w.heap.size w w' := by
  have hx1 : xs0.length ≤ 1048576 := by omega
  have hy1 : ys0.length ≤ 1048576 := by omega
  have hdl := dg_len ys0.length (by omega)
  obtain ⟨T, hT⟩ : ∃ T : Nat, T = (xs0 ++ (dg ys0.length ++ ys0)).length := ⟨_, rfl⟩
  have hT1 : 1 ≤ T ∧ T ≤ 2097200 := by rw [hT]; simp only [List.length_append]; omega
  have HT : Hid ((xs0 ++ (dg ys0.length ++ ys0)).length = T) := hT.symm
  have HT2 : Hid ((xorL 21 xs0 ++ (dg (xorL 21 ys0).length ++ xorL 21 ys0)).length = T) := by unfold Hid; rw [hT]; simp only [List.length_append, xorL_len]
  have HN0 : Hid (a0 = none → cap0 = 0) := hn0
  have HN1 : Hid (a1 = none → cap1 = 0) := hn1
  clear hn0 hn1 hc0 hc1 hdl hT
  go_enter Try.func4, Try.ntmps4
  go_wp2_with fail
  refine (lent_any a0 cap0 xs0 w hr0 HN0.out (by omega)).mono ?_
  rintro e w1 ⟨v1, rfl, hown1, hb1⟩
  obtain ⟨g, c1, rfl, hlc1, -, hgB, hgl⟩ := own_head hown1 (by rw [len_marksL]; omega)
  rw [len_marksL] at hlc1 hown1 ⊢
  go_wp2_with fail
  refine (lent_any a1 cap1 ys0 w1 (hr1.below hb1) HN1.out (by omega)).mono ?_
  rintro e w2 ⟨v2, rfl, hown2, hb2⟩
  obtain ⟨g2, c2, rfl, hlc2, -, hg2B, hg2l⟩ := own_head hown2 (by rw [len_marksL]; omega)
  rw [len_marksL] at hlc2 hown2 ⊢
  have hb12 : Below w.heap.size w w2 := below_next hb1 hb2
  have hoa2 := hown1.below hb2
  have hra : Rd w2 (some ⟨g, 0, none⟩) xs0 := by
    have h := (Rd.of_ownL hoa2).take xs0.length
    rwa [List.take_left' rfl] at h
  have hrm : Rd w2 (some ⟨g2, 0, none⟩) ys0 := by
    have h := (Rd.of_ownL hown2).take ys0.length
    rwa [List.take_left' rfl] at h
  have q1 : (xs0.length : Int) ≤ (c1 : Int) := by omega
  have q2 : ¬ c1 = xs0.length := by omega
  have q3 : xs0.length ≤ c1 := by omega
  have q4 : (ys0.length : Int) ≤ (c2 : Int) := by omega
  have q5 : ¬ c2 = ys0.length := by omega
  have q6 : ys0.length ≤ c2 := by omega
  clear hown1
  go_wp2_with fail
  refine wp_region_noPanic ?_
  refine wp_region_held_drew (S := (fun u => Below w2.heap.size w2 u)) (by kernel_rfl) (by first | exact (Below.refl _ _).drew | assumption) (fun hHeld => ?_)
  refine take_at (i := 0) 14 (v := ?_) rfl rfl (by kernel_rfl) (by kernel_rfl) (by kernel_rfl) (fun _ _ _ h => h) (by rfl) ?_ hHeld ?_
  rotate_left
  · (intro w hSw; (try dsimp only at hSw); go_simp; try with_reducible rfl)
  simp only [Act.put, List.setIfInBounds_toArray, List.set_cons_zero, List.set_cons_succ]
  refine take_at (i := 1) 15 (v := ?_) rfl rfl (by kernel_rfl) (by kernel_rfl) (by kernel_rfl) (fun _ _ _ h => h) (by rfl) ?_ hHeld ?_
  rotate_left
  · (intro w hSw; (try dsimp only at hSw); go_simp; try with_reducible rfl)
  simp only [Act.put, List.setIfInBounds_toArray, List.set_cons_zero, List.set_cons_succ]
  refine take_at (i := 2) 16 (v := ?_) rfl rfl (by kernel_rfl) (by kernel_rfl) (by kernel_rfl) (fun _ _ _ h => h) (by rfl) ?_ hHeld ?_
  rotate_left
  · (intro w hSw; (try dsimp only at hSw); go_simp; try with_reducible rfl)
  simp only [Act.put, List.setIfInBounds_toArray, List.set_cons_zero, List.set_cons_succ]
  refine take_at (i := 3) 17 (v := ?_) rfl rfl (by kernel_rfl) (by kernel_rfl) (by kernel_rfl) (fun _ _ _ h => h) (by rfl) ?_ hHeld ?_
  rotate_left
  · (intro w hSw; (try dsimp only at hSw); go_simp; try with_reducible rfl)
  simp only [Act.put, List.setIfInBounds_toArray, List.set_cons_zero, List.set_cons_succ]
  refine take_at (i := 4) 18 (v := ?_) rfl rfl (by kernel_rfl) (by kernel_rfl) (by kernel_rfl) (fun _ _ _ h => h) (by rfl) ?_ hHeld ?_
  rotate_left
  · (intro w hSw; (try dsimp only at hSw); go_simp; try with_reducible rfl)
  simp only [Act.put, List.setIfInBounds_toArray, List.set_cons_zero, List.set_cons_succ]
  refine take_at (i := 5) 19 (v := ?_) rfl rfl (by kernel_rfl) (by kernel_rfl) (by kernel_rfl) (fun _ _ _ h => h) (by rfl) ?_ hHeld ?_
  rotate_left
  · (intro w hSw; (try dsimp only at hSw); go_simp; try with_reducible rfl)
  simp only [Act.put, List.setIfInBounds_toArray, List.set_cons_zero, List.set_cons_succ]
  refine take_at (i := 6) 20 (v := ?_) rfl rfl (by kernel_rfl) (by kernel_rfl) (by kernel_rfl) (fun _ _ _ h => h) (by rfl) ?_ hHeld ?_
  rotate_left
  · (intro w hSw; (try dsimp only at hSw); go_simp; try with_reducible rfl)
  simp only [Act.put, List.setIfInBounds_toArray, List.set_cons_zero, List.set_cons_succ]
  refine take_at (i := 7) 21 (v := ?_) rfl rfl (by kernel_rfl) (by kernel_rfl) (by kernel_rfl) (fun _ _ _ h => h) (by rfl) ?_ hHeld ?_
  rotate_left
  · (intro w hSw; (try dsimp only at hSw); go_simp; try with_reducible rfl)
  simp only [Act.put, List.setIfInBounds_toArray, List.set_cons_zero, List.set_cons_succ]
  refine run_at (i := 8) rfl (by kernel_rfl) (by rfl) (fun K hK => ?_)
  simp only [List.getElem_toArray, List.getElem_cons_zero, List.getElem_cons_succ]
  go_simp
  first | (go_at_call 11; refine (appendBytes_n _ _ c1 xs0 rfl _ _ c2 ys0 rfl _ (hra.below (by first | exact (Below.refl _ _).drew | assumption)) (hrm.below (by first | exact (Below.refl _ _).drew | assumption)) (fun h => by cases h) (fun h => by cases h) (by omega)).mono ?_; rintro e w3 ⟨v3, rfl, hown3, hb3⟩; have hS3 := below_next (B := w2) (by first | exact (Below.refl _ _).drew | assumption) hb3; obtain ⟨g3, c3, hv3, hlc3, -, hg3B, hg3l⟩ := own_head hown3 (by rw [HT.out]; omega); rw [HT.out] at hv3 hlc3; subst hv3)
  go_wp2_with fail
  refine hK.out _ _ (by first | exact (Below.refl _ _).drew | assumption) ?_
  clear hK K
  intro hHeld2
  clear hHeld
  have hHeld := hHeld2
  clear hHeld2
  try simp only [Act.put, List.setIfInBounds_toArray, List.set_cons_zero, List.set_cons_succ]
  refine take_at (i := 9) 7 (v := ?_) rfl rfl (by kernel_rfl) (by kernel_rfl) (by kernel_rfl) (fun _ _ _ h => h) (by rfl) ?_ hHeld ?_
  rotate_left
  · (intro w hSw; (try dsimp only at hSw); go_simp; try with_reducible rfl)
  simp only [Act.put, List.setIfInBounds_toArray, List.set_cons_zero, List.set_cons_succ]
  refine wpAnyH_done (by kernel_rfl) ?_ _
  refine NoPanic.normal ?_
  have hb13 : Below w.heap.size w w3 := below_next hb12 hS3
  have hg3B' : w2.heap.size ≤ g3 := hg3B
  have hcs : ∀ u, Below w3.heap.size w3 u → (convert 22 9 (.slice (some ⟨g3, 0, none⟩) T c3)).run Try.prog u = .ok (.string ⟨(xs0 ++ (dg ys0.length ++ ys0)).toArray⟩) u := fun u hu => conv_rd' ((Rd.of_ownL hown3).below hu) T c3 HT.out.symm
  have hoa3 := hoa2.below hS3
  have hom3 := hown2.below hS3
  have hr03 := hr0.below hb13
  have hr13 := hr1.below hb13
  clear hg3B hra hrm hoa2 hown2
  go_wp2_with fail
  refine wp_region_noPanic ?_
  refine wp_region_held_drew (S := (fun u => Below w3.heap.size w3 u)) (by kernel_rfl) (by first | exact (Below.refl _ _).drew | assumption) (fun hHeld => ?_)
  refine take_at (i := 0) 23 (v := ?_) rfl rfl (by kernel_rfl) (by kernel_rfl) (by kernel_rfl) (fun _ _ _ h => h) (by rfl) ?_ hHeld ?_
  rotate_left
  · (intro w hSw; (try dsimp only at hSw); go_simp; try with_reducible rfl)
  simp only [Act.put, List.setIfInBounds_toArray, List.set_cons_zero, List.set_cons_succ]
  refine take_at (i := 1) 24 (v := ?_) rfl rfl (by kernel_rfl) (by kernel_rfl) (by kernel_rfl) (fun _ _ _ h => h) (by rfl) ?_ hHeld ?_
  rotate_left
  · (intro w hSw; (try dsimp only at hSw); go_simp; try with_reducible rfl)
  simp only [Act.put, List.setIfInBounds_toArray, List.set_cons_zero, List.set_cons_succ]
  refine take_at (i := 2) 25 (v := ?_) rfl rfl (by kernel_rfl) (by kernel_rfl) (by kernel_rfl) (fun _ _ _ h => h) (by rfl) ?_ hHeld ?_
  rotate_left
  · (intro w hSw; (try dsimp only at hSw); go_simp; try with_reducible rfl)
  simp only [Act.put, List.setIfInBounds_toArray, List.set_cons_zero, List.set_cons_succ]
  refine take_at (i := 3) 26 (v := ?_) rfl rfl (by kernel_rfl) (by kernel_rfl) (by kernel_rfl) (fun _ _ _ h => h) (by rfl) ?_ hHeld ?_
  rotate_left
  · (intro w hSw; (try dsimp only at hSw); go_simp; try with_reducible rfl)
  simp only [Act.put, List.setIfInBounds_toArray, List.set_cons_zero, List.set_cons_succ]
  refine run_at (i := 4) rfl (by kernel_rfl) (by rfl) (fun K hK => ?_)
  simp only [List.getElem_toArray, List.getElem_cons_zero, List.getElem_cons_succ]
  go_simp
  first | (go_at_call 12; refine (refAppendBytes_n a0 _ cap0 xs0 rfl a1 _ cap1 ys0 rfl _ (hr03.below (by first | exact (Below.refl _ _).drew | assumption)) (hr13.below (by first | exact (Below.refl _ _).drew | assumption)) HN0.out HN1.out (by omega)).mono ?_; rintro e w5 ⟨v5, rfl, hown5, hb5⟩; have hS5 := below_next (B := w3) (by first | exact (Below.refl _ _).drew | assumption) hb5; obtain ⟨a5, c5, hv5, -, -, -, hr5, -⟩ := hown5.val; have hcv5 := conv_rd' hr5 T c5 HT.out.symm; rw [HT.out] at hv5; clear hb5 hown5; subst hv5) | (go_at_call_of 8 (Value.slice a0 xs0.length cap0); refine (stays_n _ _ c1 (xs0 ++ marksL) (len_marksL _).symm a0 _ cap0 xs0 rfl w5 ((Rd.of_ownL hoa3).below hS5) (hr03.below hS5) (by omega) rfl).mono ?_; rintro e wq ⟨rfl, hwq⟩; have hwq' := hwq.symm; subst hwq') | (go_at_call 8; refine (stays_n _ _ c2 (ys0 ++ marksL) (len_marksL _).symm a1 _ cap1 ys0 rfl w5 ((Rd.of_ownL hom3).below hS5) (hr13.below hS5) (by omega) rfl).mono ?_; rintro e wr ⟨rfl, hwr⟩; have hwr' := hwr.symm; subst hwr')
  go_wp2_with fail
  refine hK.out _ _ (by first | exact (Below.refl _ _).drew | assumption) ?_
  clear hK K
  intro hHeld2
  clear hHeld
  have hHeld := hHeld2
  clear hHeld2
  try simp only [Act.put, List.setIfInBounds_toArray, List.set_cons_zero, List.set_cons_succ]
  refine val_at (i := 5) 28 (v := ?_) rfl rfl (by kernel_rfl) (by rfl) ?_ ?_ ?_
  rotate_left
  · (go_simp; try with_reducible rfl)
  · (first | exact (Below.refl _ _).drew | assumption)
  intro hHeld2
  clear hHeld
  have hHeld := hHeld2
  clear hHeld2
  simp only [Act.put, List.setIfInBounds_toArray, List.set_cons_zero, List.set_cons_succ]
  refine take_at (i := 6) 29 (v := ?_) rfl rfl (by kernel_rfl) (by kernel_rfl) (by kernel_rfl) (fun _ _ _ h => h) (by rfl) ?_ hHeld ?_
  rotate_left
  · (intro w hSw; (try dsimp only at hSw); go_simp; try with_reducible rfl)
  simp only [Act.put, List.setIfInBounds_toArray, List.set_cons_zero, List.set_cons_succ]
  refine take_at (i := 7) 30 (v := ?_) rfl rfl (by kernel_rfl) (by kernel_rfl) (by kernel_rfl) (fun _ _ _ h => h) (by rfl) ?_ hHeld ?_
  rotate_left
  · (intro w hSw; (try dsimp only at hSw); go_simp; try with_reducible rfl)
  simp only [Act.put, List.setIfInBounds_toArray, List.set_cons_zero, List.set_cons_succ]
  refine take_at (i := 8) 31 (v := ?_) rfl rfl (by kernel_rfl) (by kernel_rfl) (by kernel_rfl) (fun _ _ _ h => h) (by rfl) ?_ hHeld ?_
  rotate_left
  · (intro w hSw; (try dsimp only at hSw); go_simp; try with_reducible rfl)
  simp only [Act.put, List.setIfInBounds_toArray, List.set_cons_zero, List.set_cons_succ]
  refine take_at (i := 9) 32 (v := ?_) rfl rfl (by kernel_rfl) (by kernel_rfl) (by kernel_rfl) (fun _ _ _ h => h) (by rfl) ?_ hHeld ?_
  rotate_left
  · (intro w hSw; (try dsimp only at hSw); go_simp; try with_reducible rfl)
  simp only [Act.put, List.setIfInBounds_toArray, List.set_cons_zero, List.set_cons_succ]
  refine run_at (i := 10) rfl (by kernel_rfl) (by rfl) (fun K hK => ?_)
  simp only [List.getElem_toArray, List.getElem_cons_zero, List.getElem_cons_succ]
  go_simp
  first | (go_at_call 12; refine (refAppendBytes_n a0 _ cap0 xs0 rfl a1 _ cap1 ys0 rfl _ (hr03.below (by first | exact (Below.refl _ _).drew | assumption)) (hr13.below (by first | exact (Below.refl _ _).drew | assumption)) HN0.out HN1.out (by omega)).mono ?_; rintro e w5 ⟨v5, rfl, hown5, hb5⟩; have hS5 := below_next (B := w3) (by first | exact (Below.refl _ _).drew | assumption) hb5; obtain ⟨a5, c5, hv5, -, -, -, hr5, -⟩ := hown5.val; have hcv5 := conv_rd' hr5 T c5 HT.out.symm; rw [HT.out] at hv5; clear hb5 hown5; subst hv5) | (go_at_call_of 8 (Value.slice a0 xs0.length cap0); refine (stays_n _ _ c1 (xs0 ++ marksL) (len_marksL _).symm a0 _ cap0 xs0 rfl w5 ((Rd.of_ownL hoa3).below hS5) (hr03.below hS5) (by omega) rfl).mono ?_; rintro e wq ⟨rfl, hwq⟩; have hwq' := hwq.symm; subst hwq') | (go_at_call 8; refine (stays_n _ _ c2 (ys0 ++ marksL) (len_marksL _).symm a1 _ cap1 ys0 rfl w5 ((Rd.of_ownL hom3).below hS5) (hr13.below hS5) (by omega) rfl).mono ?_; rintro e wr ⟨rfl, hwr⟩; have hwr' := hwr.symm; subst hwr')
  go_wp2_with fail
  refine hK.out _ _ (by first | exact (Below.refl _ _).drew | assumption) ?_
  clear hK K
  intro hHeld2
  clear hHeld
  have hHeld := hHeld2
  clear hHeld2
  try simp only [Act.put, List.setIfInBounds_toArray, List.set_cons_zero, List.set_cons_succ]
  refine take_at (i := 11) 34 (v := ?_) rfl rfl (by kernel_rfl) (by kernel_rfl) (by kernel_rfl) (fun _ _ _ h => h) (by rfl) ?_ hHeld ?_
  rotate_left
  · (intro w hSw; (try dsimp only at hSw); go_simp; try with_reducible rfl)
  simp only [Act.put, List.setIfInBounds_toArray, List.set_cons_zero, List.set_cons_succ]
  refine take_at (i := 12) 35 (v := ?_) rfl rfl (by kernel_rfl) (by kernel_rfl) (by kernel_rfl) (fun _ _ _ h => h) (by rfl) ?_ hHeld ?_
  rotate_left
  · (intro w hSw; (try dsimp only at hSw); go_simp; try with_reducible rfl)
  simp only [Act.put, List.setIfInBounds_toArray, List.set_cons_zero, List.set_cons_succ]
  refine take_at (i := 13) 36 (v := ?_) rfl rfl (by kernel_rfl) (by kernel_rfl) (by kernel_rfl) (fun _ _ _ h => h) (by rfl) ?_ hHeld ?_
  rotate_left
  · (intro w hSw; (try dsimp only at hSw); go_simp; try with_reducible rfl)
  simp only [Act.put, List.setIfInBounds_toArray, List.set_cons_zero, List.set_cons_succ]
  refine take_at (i := 14) 37 (v := ?_) rfl rfl (by kernel_rfl) (by kernel_rfl) (by kernel_rfl) (fun _ _ _ h => h) (by rfl) ?_ hHeld ?_
  rotate_left
  · (intro w hSw; (try dsimp only at hSw); go_simp; try with_reducible rfl)
  simp only [Act.put, List.setIfInBounds_toArray, List.set_cons_zero, List.set_cons_succ]
  refine take_at (i := 15) 38 (v := ?_) rfl rfl (by kernel_rfl) (by kernel_rfl) (by kernel_rfl) (fun _ _ _ h => h) (by rfl) ?_ hHeld ?_
  rotate_left
  · (intro w hSw; (try dsimp only at hSw); go_simp; try with_reducible rfl)
  simp only [Act.put, List.setIfInBounds_toArray, List.set_cons_zero, List.set_cons_succ]
  refine run_at (i := 16) rfl (by kernel_rfl) (by rfl) (fun K hK => ?_)
  simp only [List.getElem_toArray, List.getElem_cons_zero, List.getElem_cons_succ]
  go_simp
  first | (go_at_call 12; refine (refAppendBytes_n a0 _ cap0 xs0 rfl a1 _ cap1 ys0 rfl _ (hr03.below (by first | exact (Below.refl _ _).drew | assumption)) (hr13.below (by first | exact (Below.refl _ _).drew | assumption)) HN0.out HN1.out (by omega)).mono ?_; rintro e w5 ⟨v5, rfl, hown5, hb5⟩; have hS5 := below_next (B := w3) (by first | exact (Below.refl _ _).drew | assumption) hb5; obtain ⟨a5, c5, hv5, -, -, -, hr5, -⟩ := hown5.val; have hcv5 := conv_rd' hr5 T c5 HT.out.symm; rw [HT.out] at hv5; clear hb5 hown5; subst hv5) | (go_at_call_of 8 (Value.slice a0 xs0.length cap0); refine (stays_n _ _ c1 (xs0 ++ marksL) (len_marksL _).symm a0 _ cap0 xs0 rfl w5 ((Rd.of_ownL hoa3).below hS5) (hr03.below hS5) (by omega) rfl).mono ?_; rintro e wq ⟨rfl, hwq⟩; have hwq' := hwq.symm; subst hwq') | (go_at_call 8; refine (stays_n _ _ c2 (ys0 ++ marksL) (len_marksL _).symm a1 _ cap1 ys0 rfl w5 ((Rd.of_ownL hom3).below hS5) (hr13.below hS5) (by omega) rfl).mono ?_; rintro e wr ⟨rfl, hwr⟩; have hwr' := hwr.symm; subst hwr')
  go_wp2_with fail
  refine hK.out _ _ (by first | exact (Below.refl _ _).drew | assumption) ?_
  clear hK K
  intro hHeld2
  clear hHeld
  have hHeld := hHeld2
  clear hHeld2
  try simp only [Act.put, List.setIfInBounds_toArray, List.set_cons_zero, List.set_cons_succ]
  refine take_at (i := 17) 40 (v := ?_) rfl rfl (by kernel_rfl) (by kernel_rfl) (by kernel_rfl) (fun _ _ _ h => h) (by rfl) ?_ hHeld ?_
  rotate_left
  · (intro w hSw; (try dsimp only at hSw); go_simp; try with_reducible rfl)
  simp only [Act.put, List.setIfInBounds_toArray, List.set_cons_zero, List.set_cons_succ]
  refine take_at (i := 18) 41 (v := ?_) rfl rfl (by kernel_rfl) (by kernel_rfl) (by kernel_rfl) (fun _ _ _ h => h) (by rfl) ?_ hHeld ?_
  rotate_left
  · (intro w hSw; (try dsimp only at hSw); go_simp; try with_reducible rfl)
  simp only [Act.put, List.setIfInBounds_toArray, List.set_cons_zero, List.set_cons_succ]
  refine wpAnyH_done (by kernel_rfl) ?_ _
  refine NoPanic.normal ?_
  have hbw5 : Below w.heap.size w w5 := below_next hb13 hS5
  have hoa5 := hoa3.below hS5
  have hom5 := hom3.below hS5
  have hos5 := hown3.below hS5
  have hz35 := hS5.size
  have hz23 := hS3.size
  have hz12 := hb2.size
  have hz01 := hb1.size
  clear hcs hoa3 hom3 hown3 hcv5 hr5 hr03 hr13
  go_wp2_with fail
  refine (turned_any _ g c1 xs0 w5 hoa5 (by omega) hlc1).mono ?_
  rintro e w7 ⟨v7, rfl, hown7, hoa7, hg7⟩
  have hbw7 : Below w.heap.size w w7 := hbw5.grown hg7 hbw5.size (fun k hk => by cases hk; exact hgB)
  have hom7 := hom5.grown hg7 (ne_L g2 g _ _ (by omega))
  have hos7 := hos5.grown hg7 (ne_L g3 g _ _ (by omega))
  obtain ⟨a7, c7, hv7, hlc7, -, hn7, -, hblk7⟩ := hown7.val
  rw [xorL_len] at hv7 hlc7
  subst hv7
  have HN7 : Hid (a7 = none → c7 = 0) := hn7
  have hz57 := hg7.size
  clear hn7 hg7 hoa5 hom5 hos5
  go_wp2_with fail
  refine (turned_any _ g2 c2 ys0 w7 hom7 (by omega) hlc2).mono ?_
  rintro e w8 ⟨v8, rfl, hown8, hom8, hg8⟩
  have hbw8 : Below w.heap.size w w8 := hbw7.grown hg8 hbw7.size (fun k hk => by cases hk; omega)
  have hoa8 := hoa7.grown hg8 (ne_L g g2 _ _ (by omega))
  have hos8 := hos7.grown hg8 (ne_L g3 g2 _ _ (by omega))
  have hon8 := hown7.grown hg8 (ap_L (fun q hq => (hblk7 q hq).1) (by omega))
  obtain ⟨a8, c8, hv8, hlc8, -, hn8, -, hblk8⟩ := hown8.val
  rw [xorL_len] at hv8 hlc8
  subst hv8
  have HN8 : Hid (a8 = none → c8 = 0) := hn8
  have hz78 := hg8.size
  have hcs : ∀ u, Below w8.heap.size w8 u → (convert 22 9 (.slice (some ⟨g3, 0, none⟩) T c3)).run Try.prog u = .ok (.string ⟨(xs0 ++ (dg ys0.length ++ ys0)).toArray⟩) u := fun u hu => conv_rd' ((Rd.of_ownL hos8).below hu) T c3 HT.out.symm
  have hb8d : Below w8.heap.size w8 w8.drew := (Below.refl _ _).drew
  have hr08 := hr0.below hbw8
  have hr18 := hr1.below hbw8
  have hwg3 : w.heap.size ≤ g3 := by omega
  clear hn8 hg8 hoa7 hom7 hos7 hown7
  go_wp2_with fail
  refine wp_region_noPanic ?_
  refine wp_region_held_drew (S := (fun u => Below w.heap.size w u)) (by kernel_rfl) (by first | exact hbw8.drew | assumption) (fun hHeld => ?_)
  refine take_at (i := 0) 46 (v := ?_) rfl rfl (by kernel_rfl) (by kernel_rfl) (by kernel_rfl) (fun _ _ _ h => h) (by rfl) ?_ hHeld ?_
  rotate_left
  · (intro w hSw; (try dsimp only at hSw); go_simp; try with_reducible rfl)
  simp only [Act.put, List.setIfInBounds_toArray, List.set_cons_zero, List.set_cons_succ]
  refine take_at (i := 2) 48 (v := ?_) rfl rfl (by kernel_rfl) (by kernel_rfl) (by kernel_rfl) (fun _ _ _ h => h) (by rfl) ?_ hHeld ?_
  rotate_left
  · (intro w hSw; (try dsimp only at hSw); go_simp; try with_reducible rfl)
  simp only [Act.put, List.setIfInBounds_toArray, List.set_cons_zero, List.set_cons_succ]
  refine take_at (i := 3) 49 (v := ?_) rfl rfl (by kernel_rfl) (by kernel_rfl) (by kernel_rfl) (fun _ _ _ h => h) (by rfl) ?_ hHeld ?_
  rotate_left
  · (intro w hSw; (try dsimp only at hSw); go_simp; try with_reducible rfl)
  simp only [Act.put, List.setIfInBounds_toArray, List.set_cons_zero, List.set_cons_succ]
  refine wpAnyH_ready (rs := [1, 4]) (by kernel_rfl) (by simp) ?_
  refine AllReadyH.cons (o := _) rfl (fun K hK => ?_) ?_
  focus
    rw [if_pos (by rfl)]
    refine val_wp 47 (v := ?_) rfl ?_ ?_
    rotate_left
    · (go_simp; try with_reducible rfl)
    refine hK.out _ _ (by first | exact hbw8.drew | assumption) ?_
    clear hK K
    intro hHeld2
    clear hHeld
    have hHeld := hHeld2
    clear hHeld2
    simp only [Act.put, List.setIfInBounds_toArray, List.set_cons_zero, List.set_cons_succ]
    refine run_at (i := 4) rfl (by kernel_rfl) (by rfl) (fun K hK => ?_)
    simp only [List.getElem_toArray, List.getElem_cons_zero, List.getElem_cons_succ]
    go_simp
    first | (go_at_call 12; refine (refAppendBytes_n a0 _ cap0 xs0 rfl a1 _ cap1 ys0 rfl w8.drew (hr08.below hb8d) (hr18.below hb8d) HN0.out HN1.out (by omega)).mono ?_; rintro e w9 ⟨v9, rfl, hown9, hb9⟩; have hS9 := below_next hb8d hb9; have hW9 := below_next hbw8 hS9; obtain ⟨a9, c9, hv9, -, -, -, hr9, -⟩ := hown9.val; have hcv9 := conv_rd' hr9 T c9 HT.out.symm; rw [HT.out] at hv9; clear hb9 hown9; subst hv9) | (go_at_call 10; refine (spoils_n _ _ _ c3 (xs0 ++ (dg ys0.length ++ ys0)) HT.out.symm w9 ((hos8.below hS9).base (Nat.zero_le _)) (by omega) (Nat.zero_le _)).mono ?_; rintro e w10 ⟨rfl, hg10⟩; have hW10 : Below w.heap.size w w10 := hW9.grown hg10 hW9.size (fun k hk => by cases hk; exact hwg3); have hra10 := (hoa8.below hS9).grown hg10 (ne_L g g3 _ _ (by omega)); have hrm10 := (hom8.below hS9).grown hg10 (ne_L g2 g3 _ _ (by omega)); have hrn10 := (hon8.below hS9).grown hg10 (ap_L (g := g3) (fun q hq => (hblk7 q hq).1) (by omega)); have hrt10 := (hown8.below hS9).grown hg10 (ap_L (g := g3) (fun q hq => (hblk8 q hq).1) (by omega))) | (go_at_call_of 8 (Value.slice a7 xs0.length c7); refine (stays_n _ _ c1 (xorL 21 xs0 ++ marksL) (by rw [len_marksL, xorL_len]) a7 _ c7 (xorL 21 xs0) (xorL_len _ _).symm w10 (Rd.of_ownL hra10) (Rd.of_ownL hrn10) (by omega) rfl).mono ?_; rintro e wq ⟨rfl, hwq⟩; have hwq' := hwq.symm; subst hwq') | (go_at_call 8; refine (stays_n _ _ c2 (xorL 21 ys0 ++ marksL) (by rw [len_marksL, xorL_len]) a8 _ c8 (xorL 21 ys0) (xorL_len _ _).symm w10 (Rd.of_ownL hrm10) (Rd.of_ownL hrt10) (by omega) rfl).mono ?_; rintro e wr ⟨rfl, hwr⟩; have hwr' := hwr.symm; subst hwr')
    go_wp2_with fail
    refine hK.out _ _ (by first | exact hbw8.drew | assumption) ?_
    clear hK K
    intro hHeld2
    clear hHeld
    have hHeld := hHeld2
    clear hHeld2
    try simp only [Act.put, List.setIfInBounds_toArray, List.set_cons_zero, List.set_cons_succ]
    refine val_at (i := 5) 51 (v := ?_) rfl rfl (by kernel_rfl) (by rfl) ?_ ?_ ?_
    rotate_left
    · (go_simp; try with_reducible rfl)
    · (first | exact hbw8.drew | assumption)
    intro hHeld2
    clear hHeld
    have hHeld := hHeld2
    clear hHeld2
    simp only [Act.put, List.setIfInBounds_toArray, List.set_cons_zero, List.set_cons_succ]
    refine take_at (i := 6) 52 (v := ?_) rfl rfl (by kernel_rfl) (by kernel_rfl) (by kernel_rfl) (fun _ _ _ h => h) (by rfl) ?_ hHeld ?_
    rotate_left
    · (intro w hSw; (try dsimp only at hSw); go_simp; try with_reducible rfl)
    simp only [Act.put, List.setIfInBounds_toArray, List.set_cons_zero, List.set_cons_succ]
    refine take_at (i := 7) 53 (v := ?_) rfl rfl (by kernel_rfl) (by kernel_rfl) (by kernel_rfl) (fun _ _ _ h => h) (by rfl) ?_ hHeld ?_
    rotate_left
    · (intro w hSw; (try dsimp only at hSw); go_simp; try with_reducible rfl)
    simp only [Act.put, List.setIfInBounds_toArray, List.set_cons_zero, List.set_cons_succ]
    refine take_at (i := 8) 54 (v := ?_) rfl rfl (by kernel_rfl) (by kernel_rfl) (by kernel_rfl) (fun _ _ _ h => h) (by rfl) ?_ hHeld ?_
    rotate_left
    · (intro w hSw; (try dsimp only at hSw); go_simp; try with_reducible rfl)
    simp only [Act.put, List.setIfInBounds_toArray, List.set_cons_zero, List.set_cons_succ]
    refine run_at (i := 9) rfl (by kernel_rfl) (by rfl) (fun K hK => ?_)
    simp only [List.getElem_toArray, List.getElem_cons_zero, List.getElem_cons_succ]
    go_simp
    first | (go_at_call 12; refine (refAppendBytes_n a0 _ cap0 xs0 rfl a1 _ cap1 ys0 rfl w8.drew (hr08.below hb8d) (hr18.below hb8d) HN0.out HN1.out (by omega)).mono ?_; rintro e w9 ⟨v9, rfl, hown9, hb9⟩; have hS9 := below_next hb8d hb9; have hW9 := below_next hbw8 hS9; obtain ⟨a9, c9, hv9, -, -, -, hr9, -⟩ := hown9.val; have hcv9 := conv_rd' hr9 T c9 HT.out.symm; rw [HT.out] at hv9; clear hb9 hown9; subst hv9) | (go_at_call 10; refine (spoils_n _ _ _ c3 (xs0 ++ (dg ys0.length ++ ys0)) HT.out.symm w9 ((hos8.below hS9).base (Nat.zero_le _)) (by omega) (Nat.zero_le _)).mono ?_; rintro e w10 ⟨rfl, hg10⟩; have hW10 : Below w.heap.size w w10 := hW9.grown hg10 hW9.size (fun k hk => by cases hk; exact hwg3); have hra10 := (hoa8.below hS9).grown hg10 (ne_L g g3 _ _ (by omega)); have hrm10 := (hom8.below hS9).grown hg10 (ne_L g2 g3 _ _ (by omega)); have hrn10 := (hon8.below hS9).grown hg10 (ap_L (g := g3) (fun q hq => (hblk7 q hq).1) (by omega)); have hrt10 := (hown8.below hS9).grown hg10 (ap_L (g := g3) (fun q hq => (hblk8 q hq).1) (by omega))) | (go_at_call_of 8 (Value.slice a7 xs0.length c7); refine (stays_n _ _ c1 (xorL 21 xs0 ++ marksL) (by rw [len_marksL, xorL_len]) a7 _ c7 (xorL 21 xs0) (xorL_len _ _).symm w10 (Rd.of_ownL hra10) (Rd.of_ownL hrn10) (by omega) rfl).mono ?_; rintro e wq ⟨rfl, hwq⟩; have hwq' := hwq.symm; subst hwq') | (go_at_call 8; refine (stays_n _ _ c2 (xorL 21 ys0 ++ marksL) (by rw [len_marksL, xorL_len]) a8 _ c8 (xorL 21 ys0) (xorL_len _ _).symm w10 (Rd.of_ownL hrm10) (Rd.of_ownL hrt10) (by omega) rfl).mono ?_; rintro e wr ⟨rfl, hwr⟩; have hwr' := hwr.symm; subst hwr')
    go_wp2_with fail
    refine hK.out _ _ (by first | exact hbw8.drew | assumption) ?_
    clear hK K
    intro hHeld2
    clear hHeld
    have hHeld := hHeld2
    clear hHeld2
    try simp only [Act.put, List.setIfInBounds_toArray, List.set_cons_zero, List.set_cons_succ]
    refine take_at (i := 10) 56 (v := ?_) rfl rfl (by kernel_rfl) (by kernel_rfl) (by kernel_rfl) (fun _ _ _ h => h) (by rfl) ?_ hHeld ?_
    rotate_left
    · (intro w hSw; (try dsimp only at hSw); go_simp; try with_reducible rfl)
    simp only [Act.put, List.setIfInBounds_toArray, List.set_cons_zero, List.set_cons_succ]
    refine take_at (i := 11) 57 (v := ?_) rfl rfl (by kernel_rfl) (by kernel_rfl) (by kernel_rfl) (fun _ _ _ h => h) (by rfl) ?_ hHeld ?_
    rotate_left
    · (intro w hSw; (try dsimp only at hSw); go_simp; try with_reducible rfl)
    simp only [Act.put, List.setIfInBounds_toArray, List.set_cons_zero, List.set_cons_succ]
    refine take_at (i := 12) 58 (v := ?_) rfl rfl (by kernel_rfl) (by kernel_rfl) (by kernel_rfl) (fun _ _ _ h => h) (by rfl) ?_ hHeld ?_
    rotate_left
    · (intro w hSw; (try dsimp only at hSw); go_simp; try with_reducible rfl)
    simp only [Act.put, List.setIfInBounds_toArray, List.set_cons_zero, List.set_cons_succ]
    refine take_at (i := 13) 59 (v := ?_) rfl rfl (by kernel_rfl) (by kernel_rfl) (by kernel_rfl) (fun _ _ _ h => h) (by rfl) ?_ hHeld ?_
    rotate_left
    · (intro w hSw; (try dsimp only at hSw); go_simp; try with_reducible rfl)
    simp only [Act.put, List.setIfInBounds_toArray, List.set_cons_zero, List.set_cons_succ]
    refine take_at (i := 14) 60 (v := ?_) rfl rfl (by kernel_rfl) (by kernel_rfl) (by kernel_rfl) (fun _ _ _ h => h) (by rfl) ?_ hHeld ?_
    rotate_left
    · (intro w hSw; (try dsimp only at hSw); go_simp; try with_reducible rfl)
    simp only [Act.put, List.setIfInBounds_toArray, List.set_cons_zero, List.set_cons_succ]
    refine run_at (i := 15) rfl (by kernel_rfl) (by rfl) (fun K hK => ?_)
    simp only [List.getElem_toArray, List.getElem_cons_zero, List.getElem_cons_succ]
    go_simp
    first | (go_at_call 12; refine (refAppendBytes_n a0 _ cap0 xs0 rfl a1 _ cap1 ys0 rfl w8.drew (hr08.below hb8d) (hr18.below hb8d) HN0.out HN1.out (by omega)).mono ?_; rintro e w9 ⟨v9, rfl, hown9, hb9⟩; have hS9 := below_next hb8d hb9; have hW9 := below_next hbw8 hS9; obtain ⟨a9, c9, hv9, -, -, -, hr9, -⟩ := hown9.val; have hcv9 := conv_rd' hr9 T c9 HT.out.symm; rw [HT.out] at hv9; clear hb9 hown9; subst hv9) | (go_at_call 10; refine (spoils_n _ _ _ c3 (xs0 ++ (dg ys0.length ++ ys0)) HT.out.symm w9 ((hos8.below hS9).base (Nat.zero_le _)) (by omega) (Nat.zero_le _)).mono ?_; rintro e w10 ⟨rfl, hg10⟩; have hW10 : Below w.heap.size w w10 := hW9.grown hg10 hW9.size (fun k hk => by cases hk; exact hwg3); have hra10 := (hoa8.below hS9).grown hg10 (ne_L g g3 _ _ (by omega)); have hrm10 := (hom8.below hS9).grown hg10 (ne_L g2 g3 _ _ (by omega)); have hrn10 := (hon8.below hS9).grown hg10 (ap_L (g := g3) (fun q hq => (hblk7 q hq).1) (by omega)); have hrt10 := (hown8.below hS9).grown hg10 (ap_L (g := g3) (fun q hq => (hblk8 q hq).1) (by omega))) | (go_at_call_of 8 (Value.slice a7 xs0.length c7); refine (stays_n _ _ c1 (xorL 21 xs0 ++ marksL) (by rw [len_marksL, xorL_len]) a7 _ c7 (xorL 21 xs0) (xorL_len _ _).symm w10 (Rd.of_ownL hra10) (Rd.of_ownL hrn10) (by omega) rfl).mono ?_; rintro e wq ⟨rfl, hwq⟩; have hwq' := hwq.symm; subst hwq') | (go_at_call 8; refine (stays_n _ _ c2 (xorL 21 ys0 ++ marksL) (by rw [len_marksL, xorL_len]) a8 _ c8 (xorL 21 ys0) (xorL_len _ _).symm w10 (Rd.of_ownL hrm10) (Rd.of_ownL hrt10) (by omega) rfl).mono ?_; rintro e wr ⟨rfl, hwr⟩; have hwr' := hwr.symm; subst hwr')
    go_wp2_with fail
    refine hK.out _ _ (by first | exact hbw8.drew | assumption) ?_
    clear hK K
    intro hHeld2
    clear hHeld
    have hHeld := hHeld2
    clear hHeld2
    try simp only [Act.put, List.setIfInBounds_toArray, List.set_cons_zero, List.set_cons_succ]
    refine take_at (i := 16) 62 (v := ?_) rfl rfl (by kernel_rfl) (by kernel_rfl) (by kernel_rfl) (fun _ _ _ h => h) (by rfl) ?_ hHeld ?_
    rotate_left
    · (intro w hSw; (try dsimp only at hSw); go_simp; try with_reducible rfl)
    simp only [Act.put, List.setIfInBounds_toArray, List.set_cons_zero, List.set_cons_succ]
    refine take_at (i := 17) 63 (v := ?_) rfl rfl (by kernel_rfl) (by kernel_rfl) (by kernel_rfl) (fun _ _ _ h => h) (by rfl) ?_ hHeld ?_
    rotate_left
    · (intro w hSw; (try dsimp only at hSw); go_simp; try with_reducible rfl)
    simp only [Act.put, List.setIfInBounds_toArray, List.set_cons_zero, List.set_cons_succ]
    refine take_at (i := 18) 64 (v := ?_) rfl rfl (by kernel_rfl) (by kernel_rfl) (by kernel_rfl) (fun _ _ _ h => h) (by rfl) ?_ hHeld ?_
    rotate_left
    · (intro w hSw; (try dsimp only at hSw); go_simp; try with_reducible rfl)
    simp only [Act.put, List.setIfInBounds_toArray, List.set_cons_zero, List.set_cons_succ]
    refine take_at (i := 19) 65 (v := ?_) rfl rfl (by kernel_rfl) (by kernel_rfl) (by kernel_rfl) (fun _ _ _ h => h) (by rfl) ?_ hHeld ?_
    rotate_left
    · (intro w hSw; (try dsimp only at hSw); go_simp; try with_reducible rfl)
    simp only [Act.put, List.setIfInBounds_toArray, List.set_cons_zero, List.set_cons_succ]
    refine take_at (i := 20) 66 (v := ?_) rfl rfl (by kernel_rfl) (by kernel_rfl) (by kernel_rfl) (fun _ _ _ h => h) (by rfl) ?_ hHeld ?_
    rotate_left
    · (intro w hSw; (try dsimp only at hSw); go_simp; try with_reducible rfl)
    simp only [Act.put, List.setIfInBounds_toArray, List.set_cons_zero, List.set_cons_succ]
    refine run_at (i := 21) rfl (by kernel_rfl) (by rfl) (fun K hK => ?_)
    simp only [List.getElem_toArray, List.getElem_cons_zero, List.getElem_cons_succ]
    go_simp
    first | (go_at_call 12; refine (refAppendBytes_n a0 _ cap0 xs0 rfl a1 _ cap1 ys0 rfl w8.drew (hr08.below hb8d) (hr18.below hb8d) HN0.out HN1.out (by omega)).mono ?_; rintro e w9 ⟨v9, rfl, hown9, hb9⟩; have hS9 := below_next hb8d hb9; have hW9 := below_next hbw8 hS9; obtain ⟨a9, c9, hv9, -, -, -, hr9, -⟩ := hown9.val; have hcv9 := conv_rd' hr9 T c9 HT.out.symm; rw [HT.out] at hv9; clear hb9 hown9; subst hv9) | (go_at_call 10; refine (spoils_n _ _ _ c3 (xs0 ++ (dg ys0.length ++ ys0)) HT.out.symm w9 ((hos8.below hS9).base (Nat.zero_le _)) (by omega) (Nat.zero_le _)).mono ?_; rintro e w10 ⟨rfl, hg10⟩; have hW10 : Below w.heap.size w w10 := hW9.grown hg10 hW9.size (fun k hk => by cases hk; exact hwg3); have hra10 := (hoa8.below hS9).grown hg10 (ne_L g g3 _ _ (by omega)); have hrm10 := (hom8.below hS9).grown hg10 (ne_L g2 g3 _ _ (by omega)); have hrn10 := (hon8.below hS9).grown hg10 (ap_L (g := g3) (fun q hq => (hblk7 q hq).1) (by omega)); have hrt10 := (hown8.below hS9).grown hg10 (ap_L (g := g3) (fun q hq => (hblk8 q hq).1) (by omega))) | (go_at_call_of 8 (Value.slice a7 xs0.length c7); refine (stays_n _ _ c1 (xorL 21 xs0 ++ marksL) (by rw [len_marksL, xorL_len]) a7 _ c7 (xorL 21 xs0) (xorL_len _ _).symm w10 (Rd.of_ownL hra10) (Rd.of_ownL hrn10) (by omega) rfl).mono ?_; rintro e wq ⟨rfl, hwq⟩; have hwq' := hwq.symm; subst hwq') | (go_at_call 8; refine (stays_n _ _ c2 (xorL 21 ys0 ++ marksL) (by rw [len_marksL, xorL_len]) a8 _ c8 (xorL 21 ys0) (xorL_len _ _).symm w10 (Rd.of_ownL hrm10) (Rd.of_ownL hrt10) (by omega) rfl).mono ?_; rintro e wr ⟨rfl, hwr⟩; have hwr' := hwr.symm; subst hwr')
    go_wp2_with fail
    refine hK.out _ _ (by first | exact hbw8.drew | assumption) ?_
    clear hK K
    intro hHeld2
    clear hHeld
    have hHeld := hHeld2
    clear hHeld2
    try simp only [Act.put, List.setIfInBounds_toArray, List.set_cons_zero, List.set_cons_succ]
    refine take_at (i := 22) 68 (v := ?_) rfl rfl (by kernel_rfl) (by kernel_rfl) (by kernel_rfl) (fun _ _ _ h => h) (by rfl) ?_ hHeld ?_
    rotate_left
    · (intro w hSw; (try dsimp only at hSw); go_simp; try with_reducible rfl)
    simp only [Act.put, List.setIfInBounds_toArray, List.set_cons_zero, List.set_cons_succ]
    refine take_at (i := 23) 69 (v := ?_) rfl rfl (by kernel_rfl) (by kernel_rfl) (by kernel_rfl) (fun _ _ _ h => h) (by rfl) ?_ hHeld ?_
    rotate_left
    · (intro w hSw; (try dsimp only at hSw); go_simp; try with_reducible rfl)
    simp only [Act.put, List.setIfInBounds_toArray, List.set_cons_zero, List.set_cons_succ]
    refine wpAnyH_done (by kernel_rfl) ?_ _
    refine NoPanic.normal ?_
  rotate_left 1
  refine AllReadyH.cons (o := _) rfl (fun K hK => ?_) AllReadyH.nil
  focus
    rw [if_pos (by rfl)]
    simp only [List.getElem_toArray, List.getElem_cons_zero, List.getElem_cons_succ]
    go_simp
    first | (go_at_call 12; refine (refAppendBytes_n a0 _ cap0 xs0 rfl a1 _ cap1 ys0 rfl w8.drew (hr08.below hb8d) (hr18.below hb8d) HN0.out HN1.out (by omega)).mono ?_; rintro e w9 ⟨v9, rfl, hown9, hb9⟩; have hS9 := below_next hb8d hb9; have hW9 := below_next hbw8 hS9; obtain ⟨a9, c9, hv9, -, -, -, hr9, -⟩ := hown9.val; have hcv9 := conv_rd' hr9 T c9 HT.out.symm; rw [HT.out] at hv9; clear hb9 hown9; subst hv9) | (go_at_call 10; refine (spoils_n _ _ _ c3 (xs0 ++ (dg ys0.length ++ ys0)) HT.out.symm w9 ((hos8.below hS9).base (Nat.zero_le _)) (by omega) (Nat.zero_le _)).mono ?_; rintro e w10 ⟨rfl, hg10⟩; have hW10 : Below w.heap.size w w10 := hW9.grown hg10 hW9.size (fun k hk => by cases hk; exact hwg3); have hra10 := (hoa8.below hS9).grown hg10 (ne_L g g3 _ _ (by omega)); have hrm10 := (hom8.below hS9).grown hg10 (ne_L g2 g3 _ _ (by omega)); have hrn10 := (hon8.below hS9).grown hg10 (ap_L (g := g3) (fun q hq => (hblk7 q hq).1) (by omega)); have hrt10 := (hown8.below hS9).grown hg10 (ap_L (g := g3) (fun q hq => (hblk8 q hq).1) (by omega))) | (go_at_call_of 8 (Value.slice a7 xs0.length c7); refine (stays_n _ _ c1 (xorL 21 xs0 ++ marksL) (by rw [len_marksL, xorL_len]) a7 _ c7 (xorL 21 xs0) (xorL_len _ _).symm w10 (Rd.of_ownL hra10) (Rd.of_ownL hrn10) (by omega) rfl).mono ?_; rintro e wq ⟨rfl, hwq⟩; have hwq' := hwq.symm; subst hwq') | (go_at_call 8; refine (stays_n _ _ c2 (xorL 21 ys0 ++ marksL) (by rw [len_marksL, xorL_len]) a8 _ c8 (xorL 21 ys0) (xorL_len _ _).symm w10 (Rd.of_ownL hrm10) (Rd.of_ownL hrt10) (by omega) rfl).mono ?_; rintro e wr ⟨rfl, hwr⟩; have hwr' := hwr.symm; subst hwr')
    go_wp2_with fail
    refine hK.out _ _ (by first | exact hbw8.drew | assumption) ?_
    clear hK K
    intro hHeld2
    clear hHeld
    have hHeld := hHeld2
    clear hHeld2
    try simp only [Act.put, List.setIfInBounds_toArray, List.set_cons_zero, List.set_cons_succ]
    refine wpAnyH_ready (rs := [1, 5]) (by kernel_rfl) (by simp) ?_
    refine AllReadyH.cons (o := _) rfl (fun K hK => ?_) ?_
    focus
      rw [if_pos (by rfl)]
      refine val_wp 47 (v := ?_) rfl ?_ ?_
      rotate_left
      · (go_simp; try with_reducible rfl)
      refine hK.out _ _ (by first | exact hbw8.drew | assumption) ?_
      clear hK K
      intro hHeld2
      clear hHeld
      have hHeld := hHeld2
      clear hHeld2
      simp only [Act.put, List.setIfInBounds_toArray, List.set_cons_zero, List.set_cons_succ]
      refine val_at (i := 5) 51 (v := ?_) rfl rfl (by kernel_rfl) (by rfl) ?_ ?_ ?_
      rotate_left
      · (go_simp; try with_reducible rfl)
      · (first | exact hbw8.drew | assumption)
      intro hHeld2
      clear hHeld
      have hHeld := hHeld2
      clear hHeld2
      simp only [Act.put, List.setIfInBounds_toArray, List.set_cons_zero, List.set_cons_succ]
      refine take_at (i := 6) 52 (v := ?_) rfl rfl (by kernel_rfl) (by kernel_rfl) (by kernel_rfl) (fun _ _ _ h => h) (by rfl) ?_ hHeld ?_
      rotate_left
      · (intro w hSw; (try dsimp only at hSw); go_simp; try with_reducible rfl)
      simp only [Act.put, List.setIfInBounds_toArray, List.set_cons_zero, List.set_cons_succ]
      refine take_at (i := 7) 53 (v := ?_) rfl rfl (by kernel_rfl) (by kernel_rfl) (by kernel_rfl) (fun _ _ _ h => h) (by rfl) ?_ hHeld ?_
      rotate_left
      · (intro w hSw; (try dsimp only at hSw); go_simp; try with_reducible rfl)
      simp only [Act.put, List.setIfInBounds_toArray, List.set_cons_zero, List.set_cons_succ]
      refine take_at (i := 8) 54 (v := ?_) rfl rfl (by kernel_rfl) (by kernel_rfl) (by kernel_rfl) (fun _ _ _ h => h) (by rfl) ?_ hHeld ?_
      rotate_left
      · (intro w hSw; (try dsimp only at hSw); go_simp; try with_reducible rfl)
      simp only [Act.put, List.setIfInBounds_toArray, List.set_cons_zero, List.set_cons_succ]
      refine run_at (i := 9) rfl (by kernel_rfl) (by rfl) (fun K hK => ?_)
      simp only [List.getElem_toArray, List.getElem_cons_zero, List.getElem_cons_succ]
      go_simp
      first | (go_at_call 12; refine (refAppendBytes_n a0 _ cap0 xs0 rfl a1 _ cap1 ys0 rfl w8.drew (hr08.below hb8d) (hr18.below hb8d) HN0.out HN1.out (by omega)).mono ?_; rintro e w9 ⟨v9, rfl, hown9, hb9⟩; have hS9 := below_next hb8d hb9; have hW9 := below_next hbw8 hS9; obtain ⟨a9, c9, hv9, -, -, -, hr9, -⟩ := hown9.val; have hcv9 := conv_rd' hr9 T c9 HT.out.symm; rw [HT.out] at hv9; clear hb9 hown9; subst hv9) | (go_at_call 10; refine (spoils_n _ _ _ c3 (xs0 ++ (dg ys0.length ++ ys0)) HT.out.symm w9 ((hos8.below hS9).base (Nat.zero_le _)) (by omega) (Nat.zero_le _)).mono ?_; rintro e w10 ⟨rfl, hg10⟩; have hW10 : Below w.heap.size w w10 := hW9.grown hg10 hW9.size (fun k hk => by cases hk; exact hwg3); have hra10 := (hoa8.below hS9).grown hg10 (ne_L g g3 _ _ (by omega)); have hrm10 := (hom8.below hS9).grown hg10 (ne_L g2 g3 _ _ (by omega)); have hrn10 := (hon8.below hS9).grown hg10 (ap_L (g := g3) (fun q hq => (hblk7 q hq).1) (by omega)); have hrt10 := (hown8.below hS9).grown hg10 (ap_L (g := g3) (fun q hq => (hblk8 q hq).1) (by omega))) | (go_at_call_of 8 (Value.slice a7 xs0.length c7); refine (stays_n _ _ c1 (xorL 21 xs0 ++ marksL) (by rw [len_marksL, xorL_len]) a7 _ c7 (xorL 21 xs0) (xorL_len _ _).symm w10 (Rd.of_ownL hra10) (Rd.of_ownL hrn10) (by omega) rfl).mono ?_; rintro e wq ⟨rfl, hwq⟩; have hwq' := hwq.symm; subst hwq') | (go_at_call 8; refine (stays_n _ _ c2 (xorL 21 ys0 ++ marksL) (by rw [len_marksL, xorL_len]) a8 _ c8 (xorL 21 ys0) (xorL_len _ _).symm w10 (Rd.of_ownL hrm10) (Rd.of_ownL hrt10) (by omega) rfl).mono ?_; rintro e wr ⟨rfl, hwr⟩; have hwr' := hwr.symm; subst hwr')
      go_wp2_with fail
      refine hK.out _ _ (by first | exact hbw8.drew | assumption) ?_
      clear hK K
      intro hHeld2
      clear hHeld
      have hHeld := hHeld2
      clear hHeld2
      try simp only [Act.put, List.setIfInBounds_toArray, List.set_cons_zero, List.set_cons_succ]
      refine take_at (i := 10) 56 (v := ?_) rfl rfl (by kernel_rfl) (by kernel_rfl) (by kernel_rfl) (fun _ _ _ h => h) (by rfl) ?_ hHeld ?_
      rotate_left
      · (intro w hSw; (try dsimp only at hSw); go_simp; try with_reducible rfl)
      simp only [Act.put, List.setIfInBounds_toArray, List.set_cons_zero, List.set_cons_succ]
      refine take_at (i := 11) 57 (v := ?_) rfl rfl (by kernel_rfl) (by kernel_rfl) (by kernel_rfl) (fun _ _ _ h => h) (by rfl) ?_ hHeld ?_
      rotate_left
      · (intro w hSw; (try dsimp only at hSw); go_simp; try with_reducible rfl)
      simp only [Act.put, List.setIfInBounds_toArray, List.set_cons_zero, List.set_cons_succ]
      refine take_at (i := 12) 58 (v := ?_) rfl rfl (by kernel_rfl) (by kernel_rfl) (by kernel_rfl) (fun _ _ _ h => h) (by rfl) ?_ hHeld ?_
      rotate_left
      · (intro w hSw; (try dsimp only at hSw); go_simp; try with_reducible rfl)
      simp only [Act.put, List.setIfInBounds_toArray, List.set_cons_zero, List.set_cons_succ]
      refine take_at (i := 13) 59 (v := ?_) rfl rfl (by kernel_rfl) (by kernel_rfl) (by kernel_rfl) (fun _ _ _ h => h) (by rfl) ?_ hHeld ?_
      rotate_left
      · (intro w hSw; (try dsimp only at hSw); go_simp; try with_reducible rfl)
      simp only [Act.put, List.setIfInBounds_toArray, List.set_cons_zero, List.set_cons_succ]
      refine take_at (i := 14) 60 (v := ?_) rfl rfl (by kernel_rfl) (by kernel_rfl) (by kernel_rfl) (fun _ _ _ h => h) (by rfl) ?_ hHeld ?_
      rotate_left
      · (intro w hSw; (try dsimp only at hSw); go_simp; try with_reducible rfl)
      simp only [Act.put, List.setIfInBounds_toArray, List.set_cons_zero, List.set_cons_succ]
      refine run_at (i := 15) rfl (by kernel_rfl) (by rfl) (fun K hK => ?_)
      simp only [List.getElem_toArray, List.getElem_cons_zero, List.getElem_cons_succ]
      go_simp
      first | (go_at_call 12; refine (refAppendBytes_n a0 _ cap0 xs0 rfl a1 _ cap1 ys0 rfl w8.drew (hr08.below hb8d) (hr18.below hb8d) HN0.out HN1.out (by omega)).mono ?_; rintro e w9 ⟨v9, rfl, hown9, hb9⟩; have hS9 := below_next hb8d hb9; have hW9 := below_next hbw8 hS9; obtain ⟨a9, c9, hv9, -, -, -, hr9, -⟩ := hown9.val; have hcv9 := conv_rd' hr9 T c9 HT.out.symm; rw [HT.out] at hv9; clear hb9 hown9; subst hv9) | (go_at_call 10; refine (spoils_n _ _ _ c3 (xs0 ++ (dg ys0.length ++ ys0)) HT.out.symm w9 ((hos8.below hS9).base (Nat.zero_le _)) (by omega) (Nat.zero_le _)).mono ?_; rintro e w10 ⟨rfl, hg10⟩; have hW10 : Below w.heap.size w w10 := hW9.grown hg10 hW9.size (fun k hk => by cases hk; exact hwg3); have hra10 := (hoa8.below hS9).grown hg10 (ne_L g g3 _ _ (by omega)); have hrm10 := (hom8.below hS9).grown hg10 (ne_L g2 g3 _ _ (by omega)); have hrn10 := (hon8.below hS9).grown hg10 (ap_L (g := g3) (fun q hq => (hblk7 q hq).1) (by omega)); have hrt10 := (hown8.below hS9).grown hg10 (ap_L (g := g3) (fun q hq => (hblk8 q hq).1) (by omega))) | (go_at_call_of 8 (Value.slice a7 xs0.length c7); refine (stays_n _ _ c1 (xorL 21 xs0 ++ marksL) (by rw [len_marksL, xorL_len]) a7 _ c7 (xorL 21 xs0) (xorL_len _ _).symm w10 (Rd.of_ownL hra10) (Rd.of_ownL hrn10) (by omega) rfl).mono ?_; rintro e wq ⟨rfl, hwq⟩; have hwq' := hwq.symm; subst hwq') | (go_at_call 8; refine (stays_n _ _ c2 (xorL 21 ys0 ++ marksL) (by rw [len_marksL, xorL_len]) a8 _ c8 (xorL 21 ys0) (xorL_len _ _).symm w10 (Rd.of_ownL hrm10) (Rd.of_ownL hrt10) (by omega) rfl).mono ?_; rintro e wr ⟨rfl, hwr⟩; have hwr' := hwr.symm; subst hwr')
      go_wp2_with fail
      refine hK.out _ _ (by first | exact hbw8.drew | assumption) ?_
      clear hK K
      intro hHeld2
      clear hHeld
      have hHeld := hHeld2
      clear hHeld2
      try simp only [Act.put, List.setIfInBounds_toArray, List.set_cons_zero, List.set_cons_succ]
      refine take_at (i := 16) 62 (v := ?_) rfl rfl (by kernel_rfl) (by kernel_rfl) (by kernel_rfl) (fun _ _ _ h => h) (by rfl) ?_ hHeld ?_
      rotate_left
      · (intro w hSw; (try dsimp only at hSw); go_simp; try with_reducible rfl)
      simp only [Act.put, List.setIfInBounds_toArray, List.set_cons_zero, List.set_cons_succ]
      refine take_at (i := 17) 63 (v := ?_) rfl rfl (by kernel_rfl) (by kernel_rfl) (by kernel_rfl) (fun _ _ _ h => h) (by rfl) ?_ hHeld ?_
      rotate_left
      · (intro w hSw; (try dsimp only at hSw); go_simp; try with_reducible rfl)
      simp only [Act.put, List.setIfInBounds_toArray, List.set_cons_zero, List.set_cons_succ]
      refine take_at (i := 18) 64 (v := ?_) rfl rfl (by kernel_rfl) (by kernel_rfl) (by kernel_rfl) (fun _ _ _ h => h) (by rfl) ?_ hHeld ?_
      rotate_left
      · (intro w hSw; (try dsimp only at hSw); go_simp; try with_reducible rfl)
      simp only [Act.put, List.setIfInBounds_toArray, List.set_cons_zero, List.set_cons_succ]
      refine take_at (i := 19) 65 (v := ?_) rfl rfl (by kernel_rfl) (by kernel_rfl) (by kernel_rfl) (fun _ _ _ h => h) (by rfl) ?_ hHeld ?_
      rotate_left
      · (intro w hSw; (try dsimp only at hSw); go_simp; try with_reducible rfl)
      simp only [Act.put, List.setIfInBounds_toArray, List.set_cons_zero, List.set_cons_succ]
      refine take_at (i := 20) 66 (v := ?_) rfl rfl (by kernel_rfl) (by kernel_rfl) (by kernel_rfl) (fun _ _ _ h => h) (by rfl) ?_ hHeld ?_
      rotate_left
      · (intro w hSw; (try dsimp only at hSw); go_simp; try with_reducible rfl)
      simp only [Act.put, List.setIfInBounds_toArray, List.set_cons_zero, List.set_cons_succ]
      refine run_at (i := 21) rfl (by kernel_rfl) (by rfl) (fun K hK => ?_)
      simp only [List.getElem_toArray, List.getElem_cons_zero, List.getElem_cons_succ]
      go_simp
      first | (go_at_call 12; refine (refAppendBytes_n a0 _ cap0 xs0 rfl a1 _ cap1 ys0 rfl w8.drew (hr08.below hb8d) (hr18.below hb8d) HN0.out HN1.out (by omega)).mono ?_; rintro e w9 ⟨v9, rfl, hown9, hb9⟩; have hS9 := below_next hb8d hb9; have hW9 := below_next hbw8 hS9; obtain ⟨a9, c9, hv9, -, -, -, hr9, -⟩ := hown9.val; have hcv9 := conv_rd' hr9 T c9 HT.out.symm; rw [HT.out] at hv9; clear hb9 hown9; subst hv9) | (go_at_call 10; refine (spoils_n _ _ _ c3 (xs0 ++ (dg ys0.length ++ ys0)) HT.out.symm w9 ((hos8.below hS9).base (Nat.zero_le _)) (by omega) (Nat.zero_le _)).mono ?_; rintro e w10 ⟨rfl, hg10⟩; have hW10 : Below w.heap.size w w10 := hW9.grown hg10 hW9.size (fun k hk => by cases hk; exact hwg3); have hra10 := (hoa8.below hS9).grown hg10 (ne_L g g3 _ _ (by omega)); have hrm10 := (hom8.below hS9).grown hg10 (ne_L g2 g3 _ _ (by omega)); have hrn10 := (hon8.below hS9).grown hg10 (ap_L (g := g3) (fun q hq => (hblk7 q hq).1) (by omega)); have hrt10 := (hown8.below hS9).grown hg10 (ap_L (g := g3) (fun q hq => (hblk8 q hq).1) (by omega))) | (go_at_call_of 8 (Value.slice a7 xs0.length c7); refine (stays_n _ _ c1 (xorL 21 xs0 ++ marksL) (by rw [len_marksL, xorL_len]) a7 _ c7 (xorL 21 xs0) (xorL_len _ _).symm w10 (Rd.of_ownL hra10) (Rd.of_ownL hrn10) (by omega) rfl).mono ?_; rintro e wq ⟨rfl, hwq⟩; have hwq' := hwq.symm; subst hwq') | (go_at_call 8; refine (stays_n _ _ c2 (xorL 21 ys0 ++ marksL) (by rw [len_marksL, xorL_len]) a8 _ c8 (xorL 21 ys0) (xorL_len _ _).symm w10 (Rd.of_ownL hrm10) (Rd.of_ownL hrt10) (by omega) rfl).mono ?_; rintro e wr ⟨rfl, hwr⟩; have hwr' := hwr.symm; subst hwr')
      go_wp2_with fail
      refine hK.out _ _ (by first | exact hbw8.drew | assumption) ?_
      clear hK K
      intro hHeld2
      clear hHeld
      have hHeld := hHeld2
      clear hHeld2
      try simp only [Act.put, List.setIfInBounds_toArray, List.set_cons_zero, List.set_cons_succ]
      refine take_at (i := 22) 68 (v := ?_) rfl rfl (by kernel_rfl) (by kernel_rfl) (by kernel_rfl) (fun _ _ _ h => h) (by rfl) ?_ hHeld ?_
      rotate_left
      · (intro w hSw; (try dsimp only at hSw); go_simp; try with_reducible rfl)
      simp only [Act.put, List.setIfInBounds_toArray, List.set_cons_zero, List.set_cons_succ]
      refine take_at (i := 23) 69 (v := ?_) rfl rfl (by kernel_rfl) (by kernel_rfl) (by kernel_rfl) (fun _ _ _ h => h) (by rfl) ?_ hHeld ?_
      rotate_left
      · (intro w hSw; (try dsimp only at hSw); go_simp; try with_reducible rfl)
      simp only [Act.put, List.setIfInBounds_toArray, List.set_cons_zero, List.set_cons_succ]
      refine wpAnyH_done (by kernel_rfl) ?_ _
      refine NoPanic.normal ?_
    rotate_left 1
    refine AllReadyH.cons (o := _) rfl (fun K hK => ?_) AllReadyH.nil
    focus
      rw [if_pos (by rfl)]
      refine val_wp 51 (v := ?_) rfl ?_ ?_
      rotate_left
      · (go_simp; try with_reducible rfl)
      refine hK.out _ _ (by first | exact hbw8.drew | assumption) ?_
      clear hK K
      intro hHeld2
      clear hHeld
      have hHeld := hHeld2
      clear hHeld2
      simp only [Act.put, List.setIfInBounds_toArray, List.set_cons_zero, List.set_cons_succ]
      refine val_at (i := 1) 47 (v := ?_) rfl rfl (by kernel_rfl) (by rfl) ?_ ?_ ?_
      rotate_left
      · (go_simp; try with_reducible rfl)
      · (first | exact hbw8.drew | assumption)
      intro hHeld2
      clear hHeld
      have hHeld := hHeld2
      clear hHeld2
      simp only [Act.put, List.setIfInBounds_toArray, List.set_cons_zero, List.set_cons_succ]
      refine take_at (i := 6) 52 (v := ?_) rfl rfl (by kernel_rfl) (by kernel_rfl) (by kernel_rfl) (fun _ _ _ h => h) (by rfl) ?_ hHeld ?_
      rotate_left
      · (intro w hSw; (try dsimp only at hSw); go_simp; try with_reducible rfl)
      simp only [Act.put, List.setIfInBounds_toArray, List.set_cons_zero, List.set_cons_succ]
      refine take_at (i := 7) 53 (v := ?_) rfl rfl (by kernel_rfl) (by kernel_rfl) (by kernel_rfl) (fun _ _ _ h => h) (by rfl) ?_ hHeld ?_
      rotate_left
      · (intro w hSw; (try dsimp only at hSw); go_simp; try with_reducible rfl)
      simp only [Act.put, List.setIfInBounds_toArray, List.set_cons_zero, List.set_cons_succ]
      refine take_at (i := 8) 54 (v := ?_) rfl rfl (by kernel_rfl) (by kernel_rfl) (by kernel_rfl) (fun _ _ _ h => h) (by rfl) ?_ hHeld ?_
      rotate_left
      · (intro w hSw; (try dsimp only at hSw); go_simp; try with_reducible rfl)
      simp only [Act.put, List.setIfInBounds_toArray, List.set_cons_zero, List.set_cons_succ]
      refine run_at (i := 9) rfl (by kernel_rfl) (by rfl) (fun K hK => ?_)
      simp only [List.getElem_toArray, List.getElem_cons_zero, List.getElem_cons_succ]
      go_simp
      first | (go_at_call 12; refine (refAppendBytes_n a0 _ cap0 xs0 rfl a1 _ cap1 ys0 rfl w8.drew (hr08.below hb8d) (hr18.below hb8d) HN0.out HN1.out (by omega)).mono ?_; rintro e w9 ⟨v9, rfl, hown9, hb9⟩; have hS9 := below_next hb8d hb9; have hW9 := below_next hbw8 hS9; obtain ⟨a9, c9, hv9, -, -, -, hr9, -⟩ := hown9.val; have hcv9 := conv_rd' hr9 T c9 HT.out.symm; rw [HT.out] at hv9; clear hb9 hown9; subst hv9) | (go_at_call 10; refine (spoils_n _ _ _ c3 (xs0 ++ (dg ys0.length ++ ys0)) HT.out.symm w9 ((hos8.below hS9).base (Nat.zero_le _)) (by omega) (Nat.zero_le _)).mono ?_; rintro e w10 ⟨rfl, hg10⟩; have hW10 : Below w.heap.size w w10 := hW9.grown hg10 hW9.size (fun k hk => by cases hk; exact hwg3); have hra10 := (hoa8.below hS9).grown hg10 (ne_L g g3 _ _ (by omega)); have hrm10 := (hom8.below hS9).grown hg10 (ne_L g2 g3 _ _ (by omega)); have hrn10 := (hon8.below hS9).grown hg10 (ap_L (g := g3) (fun q hq => (hblk7 q hq).1) (by omega)); have hrt10 := (hown8.below hS9).grown hg10 (ap_L (g := g3) (fun q hq => (hblk8 q hq).1) (by omega))) | (go_at_call_of 8 (Value.slice a7 xs0.length c7); refine (stays_n _ _ c1 (xorL 21 xs0 ++ marksL) (by rw [len_marksL, xorL_len]) a7 _ c7 (xorL 21 xs0) (xorL_len _ _).symm w10 (Rd.of_ownL hra10) (Rd.of_ownL hrn10) (by omega) rfl).mono ?_; rintro e wq ⟨rfl, hwq⟩; have hwq' := hwq.symm; subst hwq') | (go_at_call 8; refine (stays_n _ _ c2 (xorL 21 ys0 ++ marksL) (by rw [len_marksL, xorL_len]) a8 _ c8 (xorL 21 ys0) (xorL_len _ _).symm w10 (Rd.of_ownL hrm10) (Rd.of_ownL hrt10) (by omega) rfl).mono ?_; rintro e wr ⟨rfl, hwr⟩; have hwr' := hwr.symm; subst hwr')
      go_wp2_with fail
      refine hK.out _ _ (by first | exact hbw8.drew | assumption) ?_
      clear hK K
      intro hHeld2
      clear hHeld
      have hHeld := hHeld2
      clear hHeld2
      try simp only [Act.put, List.setIfInBounds_toArray, List.set_cons_zero, List.set_cons_succ]
      refine take_at (i := 10) 56 (v := ?_) rfl rfl (by kernel_rfl) (by kernel_rfl) (by kernel_rfl) (fun _ _ _ h => h) (by rfl) ?_ hHeld ?_
      rotate_left
      · (intro w hSw; (try dsimp only at hSw); go_simp; try with_reducible rfl)
      simp only [Act.put, List.setIfInBounds_toArray, List.set_cons_zero, List.set_cons_succ]
      refine take_at (i := 11) 57 (v := ?_) rfl rfl (by kernel_rfl) (by kernel_rfl) (by kernel_rfl) (fun _ _ _ h => h) (by rfl) ?_ hHeld ?_
      rotate_left
      · (intro w hSw; (try dsimp only at hSw); go_simp; try with_reducible rfl)
      simp only [Act.put, List.setIfInBounds_toArray, List.set_cons_zero, List.set_cons_succ]
      refine take_at (i := 12) 58 (v := ?_) rfl rfl (by kernel_rfl) (by kernel_rfl) (by kernel_rfl) (fun _ _ _ h => h) (by rfl) ?_ hHeld ?_
      rotate_left
      · (intro w hSw; (try dsimp only at hSw); go_simp; try with_reducible rfl)
      simp only [Act.put, List.setIfInBounds_toArray, List.set_cons_zero, List.set_cons_succ]
      refine take_at (i := 13) 59 (v := ?_) rfl rfl (by kernel_rfl) (by kernel_rfl) (by kernel_rfl) (fun _ _ _ h => h) (by rfl) ?_ hHeld ?_
      rotate_left
      · (intro w hSw; (try dsimp only at hSw); go_simp; try with_reducible rfl)
      simp only [Act.put, List.setIfInBounds_toArray, List.set_cons_zero, List.set_cons_succ]
      refine take_at (i := 14) 60 (v := ?_) rfl rfl (by kernel_rfl) (by kernel_rfl) (by kernel_rfl) (fun _ _ _ h => h) (by rfl) ?_ hHeld ?_
      rotate_left
      · (intro w hSw; (try dsimp only at hSw); go_simp; try with_reducible rfl)
      simp only [Act.put, List.setIfInBounds_toArray, List.set_cons_zero, List.set_cons_succ]
      refine run_at (i := 15) rfl (by kernel_rfl) (by rfl) (fun K hK => ?_)
      simp only [List.getElem_toArray, List.getElem_cons_zero, List.getElem_cons_succ]
      go_simp
      first | (go_at_call 12; refine (refAppendBytes_n a0 _ cap0 xs0 rfl a1 _ cap1 ys0 rfl w8.drew (hr08.below hb8d) (hr18.below hb8d) HN0.out HN1.out (by omega)).mono ?_; rintro e w9 ⟨v9, rfl, hown9, hb9⟩; have hS9 := below_next hb8d hb9; have hW9 := below_next hbw8 hS9; obtain ⟨a9, c9, hv9, -, -, -, hr9, -⟩ := hown9.val; have hcv9 := conv_rd' hr9 T c9 HT.out.symm; rw [HT.out] at hv9; clear hb9 hown9; subst hv9) | (go_at_call 10; refine (spoils_n _ _ _ c3 (xs0 ++ (dg ys0.length ++ ys0)) HT.out.symm w9 ((hos8.below hS9).base (Nat.zero_le _)) (by omega) (Nat.zero_le _)).mono ?_; rintro e w10 ⟨rfl, hg10⟩; have hW10 : Below w.heap.size w w10 := hW9.grown hg10 hW9.size (fun k hk => by cases hk; exact hwg3); have hra10 := (hoa8.below hS9).grown hg10 (ne_L g g3 _ _ (by omega)); have hrm10 := (hom8.below hS9).grown hg10 (ne_L g2 g3 _ _ (by omega)); have hrn10 := (hon8.below hS9).grown hg10 (ap_L (g := g3) (fun q hq => (hblk7 q hq).1) (by omega)); have hrt10 := (hown8.below hS9).grown hg10 (ap_L (g := g3) (fun q hq => (hblk8 q hq).1) (by omega))) | (go_at_call_of 8 (Value.slice a7 xs0.length c7); refine (stays_n _ _ c1 (xorL 21 xs0 ++ marksL) (by rw [len_marksL, xorL_len]) a7 _ c7 (xorL 21 xs0) (xorL_len _ _).symm w10 (Rd.of_ownL hra10) (Rd.of_ownL hrn10) (by omega) rfl).mono ?_; rintro e wq ⟨rfl, hwq⟩; have hwq' := hwq.symm; subst hwq') | (go_at_call 8; refine (stays_n _ _ c2 (xorL 21 ys0 ++ marksL) (by rw [len_marksL, xorL_len]) a8 _ c8 (xorL 21 ys0) (xorL_len _ _).symm w10 (Rd.of_ownL hrm10) (Rd.of_ownL hrt10) (by omega) rfl).mono ?_; rintro e wr ⟨rfl, hwr⟩; have hwr' := hwr.symm; subst hwr')
      go_wp2_with fail
      refine hK.out _ _ (by first | exact hbw8.drew | assumption) ?_
      clear hK K
      intro hHeld2
      clear hHeld
      have hHeld := hHeld2
      clear hHeld2
      try simp only [Act.put, List.setIfInBounds_toArray, List.set_cons_zero, List.set_cons_succ]
      refine take_at (i := 16) 62 (v := ?_) rfl rfl (by kernel_rfl) (by kernel_rfl) (by kernel_rfl) (fun _ _ _ h => h) (by rfl) ?_ hHeld ?_
      rotate_left
      · (intro w hSw; (try dsimp only at hSw); go_simp; try with_reducible rfl)
      simp only [Act.put, List.setIfInBounds_toArray, List.set_cons_zero, List.set_cons_succ]
      refine take_at (i := 17) 63 (v := ?_) rfl rfl (by kernel_rfl) (by kernel_rfl) (by kernel_rfl) (fun _ _ _ h => h) (by rfl) ?_ hHeld ?_
      rotate_left
      · (intro w hSw; (try dsimp only at hSw); go_simp; try with_reducible rfl)
      simp only [Act.put, List.setIfInBounds_toArray, List.set_cons_zero, List.set_cons_succ]
      refine take_at (i := 18) 64 (v := ?_) rfl rfl (by kernel_rfl) (by kernel_rfl) (by kernel_rfl) (fun _ _ _ h => h) (by rfl) ?_ hHeld ?_
      rotate_left
      · (intro w hSw; (try dsimp only at hSw); go_simp; try with_reducible rfl)
      simp only [Act.put, List.setIfInBounds_toArray, List.set_cons_zero, List.set_cons_succ]
      refine take_at (i := 19) 65 (v := ?_) rfl rfl (by kernel_rfl) (by kernel_rfl) (by kernel_rfl) (fun _ _ _ h => h) (by rfl) ?_ hHeld ?_
      rotate_left
      · (intro w hSw; (try dsimp only at hSw); go_simp; try with_reducible rfl)
      simp only [Act.put, List.setIfInBounds_toArray, List.set_cons_zero, List.set_cons_succ]
      refine take_at (i := 20) 66 (v := ?_) rfl rfl (by kernel_rfl) (by kernel_rfl) (by kernel_rfl) (fun _ _ _ h => h) (by rfl) ?_ hHeld ?_
      rotate_left
      · (intro w hSw; (try dsimp only at hSw); go_simp; try with_reducible rfl)
      simp only [Act.put, List.setIfInBounds_toArray, List.set_cons_zero, List.set_cons_succ]
      refine run_at (i := 21) rfl (by kernel_rfl) (by rfl) (fun K hK => ?_)
      simp only [List.getElem_toArray, List.getElem_cons_zero, List.getElem_cons_succ]
      go_simp
      first | (go_at_call 12; refine (refAppendBytes_n a0 _ cap0 xs0 rfl a1 _ cap1 ys0 rfl w8.drew (hr08.below hb8d) (hr18.below hb8d) HN0.out HN1.out (by omega)).mono ?_; rintro e w9 ⟨v9, rfl, hown9, hb9⟩; have hS9 := below_next hb8d hb9; have hW9 := below_next hbw8 hS9; obtain ⟨a9, c9, hv9, -, -, -, hr9, -⟩ := hown9.val; have hcv9 := conv_rd' hr9 T c9 HT.out.symm; rw [HT.out] at hv9; clear hb9 hown9; subst hv9) | (go_at_call 10; refine (spoils_n _ _ _ c3 (xs0 ++ (dg ys0.length ++ ys0)) HT.out.symm w9 ((hos8.below hS9).base (Nat.zero_le _)) (by omega) (Nat.zero_le _)).mono ?_; rintro e w10 ⟨rfl, hg10⟩; have hW10 : Below w.heap.size w w10 := hW9.grown hg10 hW9.size (fun k hk => by cases hk; exact hwg3); have hra10 := (hoa8.below hS9).grown hg10 (ne_L g g3 _ _ (by omega)); have hrm10 := (hom8.below hS9).grown hg10 (ne_L g2 g3 _ _ (by omega)); have hrn10 := (hon8.below hS9).grown hg10 (ap_L (g := g3) (fun q hq => (hblk7 q hq).1) (by omega)); have hrt10 := (hown8.below hS9).grown hg10 (ap_L (g := g3) (fun q hq => (hblk8 q hq).1) (by omega))) | (go_at_call_of 8 (Value.slice a7 xs0.length c7); refine (stays_n _ _ c1 (xorL 21 xs0 ++ marksL) (by rw [len_marksL, xorL_len]) a7 _ c7 (xorL 21 xs0) (xorL_len _ _).symm w10 (Rd.of_ownL hra10) (Rd.of_ownL hrn10) (by omega) rfl).mono ?_; rintro e wq ⟨rfl, hwq⟩; have hwq' := hwq.symm; subst hwq') | (go_at_call 8; refine (stays_n _ _ c2 (xorL 21 ys0 ++ marksL) (by rw [len_marksL, xorL_len]) a8 _ c8 (xorL 21 ys0) (xorL_len _ _).symm w10 (Rd.of_ownL hrm10) (Rd.of_ownL hrt10) (by omega) rfl).mono ?_; rintro e wr ⟨rfl, hwr⟩; have hwr' := hwr.symm; subst hwr')
      go_wp2_with fail
      refine hK.out _ _ (by first | exact hbw8.drew | assumption) ?_
      clear hK K
      intro hHeld2
      clear hHeld
      have hHeld := hHeld2
      clear hHeld2
      try simp only [Act.put, List.setIfInBounds_toArray, List.set_cons_zero, List.set_cons_succ]
      refine take_at (i := 22) 68 (v := ?_) rfl rfl (by kernel_rfl) (by kernel_rfl) (by kernel_rfl) (fun _ _ _ h => h) (by rfl) ?_ hHeld ?_
      rotate_left
      · (intro w hSw; (try dsimp only at hSw); go_simp; try with_reducible rfl)
      simp only [Act.put, List.setIfInBounds_toArray, List.set_cons_zero, List.set_cons_succ]
      refine take_at (i := 23) 69 (v := ?_) rfl rfl (by kernel_rfl) (by kernel_rfl) (by kernel_rfl) (fun _ _ _ h => h) (by rfl) ?_ hHeld ?_
      rotate_left
      · (intro w hSw; (try dsimp only at hSw); go_simp; try with_reducible rfl)
      simp only [Act.put, List.setIfInBounds_toArray, List.set_cons_zero, List.set_cons_succ]
      refine wpAnyH_done (by kernel_rfl) ?_ _
      refine NoPanic.normal ?_
  all_goals
    have hrax : Rd w10 (some ⟨g, 0, none⟩) (xorL 21 xs0) := by
      have h := (Rd.of_ownL hra10).take (xorL 21 xs0).length
      rwa [List.take_left' rfl] at h
    have hrmx : Rd w10 (some ⟨g2, 0, none⟩) (xorL 21 ys0) := by
      have h := (Rd.of_ownL hrm10).take (xorL 21 ys0).length
      rwa [List.take_left' rfl] at h
    have hrnx : Rd w10 a7 (xorL 21 xs0) := Rd.of_ownL hrn10
    have hrtx : Rd w10 a8 (xorL 21 ys0) := Rd.of_ownL hrt10
    have HX : Hid (xs0.length = (xorL 21 xs0).length) := (xorL_len 21 xs0).symm
    have HYL : Hid (ys0.length = (xorL 21 ys0).length) := (xorL_len 21 ys0).symm
    clear hra10 hrm10 hrn10 hrt10 hoa8 hom8 hos8 hon8 hown8 hcs hcv9 hr9 hg10
    go_wp2_with fail
    refine wp_region_noPanic ?_
    refine wp_region_held_drew (S := (fun u => Below w10.heap.size w10 u)) (by kernel_rfl) (by first | exact (Below.refl _ _).drew | assumption) (fun hHeld => ?_)
    refine take_at (i := 0) 70 (v := ?_) rfl rfl (by kernel_rfl) (by kernel_rfl) (by kernel_rfl) (fun _ _ _ h => h) (by rfl) ?_ hHeld ?_
    rotate_left
    · (intro w hSw; (try dsimp only at hSw); go_simp; try with_reducible rfl)
    simp only [Act.put, List.setIfInBounds_toArray, List.set_cons_zero, List.set_cons_succ]
    refine take_at (i := 1) 71 (v := ?_) rfl rfl (by kernel_rfl) (by kernel_rfl) (by kernel_rfl) (fun _ _ _ h => h) (by rfl) ?_ hHeld ?_
    rotate_left
    · (intro w hSw; (try dsimp only at hSw); go_simp; try with_reducible rfl)
    simp only [Act.put, List.setIfInBounds_toArray, List.set_cons_zero, List.set_cons_succ]
    refine take_at (i := 2) 72 (v := ?_) rfl rfl (by kernel_rfl) (by kernel_rfl) (by kernel_rfl) (fun _ _ _ h => h) (by rfl) ?_ hHeld ?_
    rotate_left
    · (intro w hSw; (try dsimp only at hSw); go_simp; try with_reducible rfl)
    simp only [Act.put, List.setIfInBounds_toArray, List.set_cons_zero, List.set_cons_succ]
    refine take_at (i := 3) 73 (v := ?_) rfl rfl (by kernel_rfl) (by kernel_rfl) (by kernel_rfl) (fun _ _ _ h => h) (by rfl) ?_ hHeld ?_
    rotate_left
    · (intro w hSw; (try dsimp only at hSw); go_simp; try with_reducible rfl)
    simp only [Act.put, List.setIfInBounds_toArray, List.set_cons_zero, List.set_cons_succ]
    refine take_at (i := 4) 74 (v := ?_) rfl rfl (by kernel_rfl) (by kernel_rfl) (by kernel_rfl) (fun _ _ _ h => h) (by rfl) ?_ hHeld ?_
    rotate_left
    · (intro w hSw; (try dsimp only at hSw); go_simp; try with_reducible rfl)
    simp only [Act.put, List.setIfInBounds_toArray, List.set_cons_zero, List.set_cons_succ]
    refine take_at (i := 5) 75 (v := ?_) rfl rfl (by kernel_rfl) (by kernel_rfl) (by kernel_rfl) (fun _ _ _ h => h) (by rfl) ?_ hHeld ?_
    rotate_left
    · (intro w hSw; (try dsimp only at hSw); go_simp; try with_reducible rfl)
    simp only [Act.put, List.setIfInBounds_toArray, List.set_cons_zero, List.set_cons_succ]
    refine take_at (i := 6) 76 (v := ?_) rfl rfl (by kernel_rfl) (by kernel_rfl) (by kernel_rfl) (fun _ _ _ h => h) (by rfl) ?_ hHeld ?_
    rotate_left
    · (intro w hSw; (try dsimp only at hSw); go_simp; try with_reducible rfl)
    simp only [Act.put, List.setIfInBounds_toArray, List.set_cons_zero, List.set_cons_succ]
    refine take_at (i := 7) 77 (v := ?_) rfl rfl (by kernel_rfl) (by kernel_rfl) (by kernel_rfl) (fun _ _ _ h => h) (by rfl) ?_ hHeld ?_
    rotate_left
    · (intro w hSw; (try dsimp only at hSw); go_simp; try with_reducible rfl)
    simp only [Act.put, List.setIfInBounds_toArray, List.set_cons_zero, List.set_cons_succ]
    refine take_at (i := 10) 80 (v := ?_) rfl rfl (by kernel_rfl) (by kernel_rfl) (by kernel_rfl) (fun _ _ _ h => h) (by rfl) ?_ hHeld ?_
    rotate_left
    · (intro w hSw; (try dsimp only at hSw); go_simp; try with_reducible rfl)
    simp only [Act.put, List.setIfInBounds_toArray, List.set_cons_zero, List.set_cons_succ]
    refine take_at (i := 11) 81 (v := ?_) rfl rfl (by kernel_rfl) (by kernel_rfl) (by kernel_rfl) (fun _ _ _ h => h) (by rfl) ?_ hHeld ?_
    rotate_left
    · (intro w hSw; (try dsimp only at hSw); go_simp; try with_reducible rfl)
    simp only [Act.put, List.setIfInBounds_toArray, List.set_cons_zero, List.set_cons_succ]
    refine run_at (i := 8) rfl (by kernel_rfl) (by rfl) (fun K hK => ?_)
    simp only [List.getElem_toArray, List.getElem_cons_zero, List.getElem_cons_succ]
    go_simp
    first | (go_at_call 11; refine (appendBytes_n _ _ c1 (xorL 21 xs0) HX.out _ _ c2 (xorL 21 ys0) HYL.out _ (hrax.below (by first | exact (Below.refl _ _).drew | assumption)) (hrmx.below (by first | exact (Below.refl _ _).drew | assumption)) (fun h => by cases h) (fun h => by cases h) (by omega)).mono ?_; rintro e wc ⟨vc, rfl, hownc, hbc⟩; have hSc := below_next (B := w10) (by first | exact (Below.refl _ _).drew | assumption) hbc; obtain ⟨ac, cc, hvc, -, -, -, hrc, -⟩ := hownc.val; rw [HT2.out] at hvc; subst hvc; have hcvc := fun (u : World) (hu : Below wc.heap.size wc u) => conv_rd' (hrc.below hu) T cc HT2.out.symm; have hcvc0 := conv_rd' hrc T cc HT2.out.symm) | (go_at_call 12; refine (refAppendBytes_n _ _ c7 (xorL 21 xs0) HX.out _ _ c8 (xorL 21 ys0) HYL.out _ (hrnx.below (by first | exact (Below.refl _ _).drew | assumption)) (hrtx.below (by first | exact (Below.refl _ _).drew | assumption)) HN7.out HN8.out (by omega)).mono ?_; rintro e wd ⟨vd, rfl, hownd, hbd⟩; have hSd := below_next (B := w10) (by first | exact (Below.refl _ _).drew | assumption) hbd; obtain ⟨ad, cd, hvd, -, -, -, hrd, -⟩ := hownd.val; rw [HT2.out] at hvd; subst hvd; have hcvd0 := conv_rd' hrd T cd HT2.out.symm)
    go_wp2_with fail
    refine hK.out _ _ (by first | exact (Below.refl _ _).drew | assumption) ?_
    clear hK K
    intro hHeld2
    clear hHeld
    have hHeld := hHeld2
    clear hHeld2
    try simp only [Act.put, List.setIfInBounds_toArray, List.set_cons_zero, List.set_cons_succ]
    refine wpAnyH_ready (rs := [9, 12]) (by kernel_rfl) (by simp) ?_
    refine AllReadyH.cons (o := _) rfl (fun K hK => ?_) ?_
    focus
      rw [if_pos (by rfl)]
      refine val_wp 79 (v := ?_) rfl ?_ ?_
      rotate_left
      · (go_simp; try with_reducible rfl)
      refine hK.out _ _ (by first | exact (Below.refl _ _).drew | assumption) ?_
      clear hK K
      intro hHeld2
      clear hHeld
      have hHeld := hHeld2
      clear hHeld2
      simp only [Act.put, List.setIfInBounds_toArray, List.set_cons_zero, List.set_cons_succ]
      refine run_at (i := 12) rfl (by kernel_rfl) (by rfl) (fun K hK => ?_)
      simp only [List.getElem_toArray, List.getElem_cons_zero, List.getElem_cons_succ]
      go_simp
      first | (go_at_call 11; refine (appendBytes_n _ _ c1 (xorL 21 xs0) HX.out _ _ c2 (xorL 21 ys0) HYL.out _ (hrax.below (by first | exact (Below.refl _ _).drew | assumption)) (hrmx.below (by first | exact (Below.refl _ _).drew | assumption)) (fun h => by cases h) (fun h => by cases h) (by omega)).mono ?_; rintro e wc ⟨vc, rfl, hownc, hbc⟩; have hSc := below_next (B := w10) (by first | exact (Below.refl _ _).drew | assumption) hbc; obtain ⟨ac, cc, hvc, -, -, -, hrc, -⟩ := hownc.val; rw [HT2.out] at hvc; subst hvc; have hcvc := fun (u : World) (hu : Below wc.heap.size wc u) => conv_rd' (hrc.below hu) T cc HT2.out.symm; have hcvc0 := conv_rd' hrc T cc HT2.out.symm) | (go_at_call 12; refine (refAppendBytes_n _ _ c7 (xorL 21 xs0) HX.out _ _ c8 (xorL 21 ys0) HYL.out _ (hrnx.below (by first | exact (Below.refl _ _).drew | assumption)) (hrtx.below (by first | exact (Below.refl _ _).drew | assumption)) HN7.out HN8.out (by omega)).mono ?_; rintro e wd ⟨vd, rfl, hownd, hbd⟩; have hSd := below_next (B := w10) (by first | exact (Below.refl _ _).drew | assumption) hbd; obtain ⟨ad, cd, hvd, -, -, -, hrd, -⟩ := hownd.val; rw [HT2.out] at hvd; subst hvd; have hcvd0 := conv_rd' hrd T cd HT2.out.symm)
      go_wp2_with fail
      refine hK.out _ _ (by first | exact (Below.refl _ _).drew | assumption) ?_
      clear hK K
      intro hHeld2
      clear hHeld
      have hHeld := hHeld2
      clear hHeld2
      try simp only [Act.put, List.setIfInBounds_toArray, List.set_cons_zero, List.set_cons_succ]
      refine val_at (i := 13) 83 (v := ?_) rfl rfl (by kernel_rfl) (by rfl) ?_ ?_ ?_
      rotate_left
      · (go_simp; try with_reducible rfl)
      · (first | exact (Below.refl _ _).drew | assumption)
      intro hHeld2
      clear hHeld
      have hHeld := hHeld2
      clear hHeld2
      simp only [Act.put, List.setIfInBounds_toArray, List.set_cons_zero, List.set_cons_succ]
      refine take_at (i := 14) 84 (v := ?_) rfl rfl (by kernel_rfl) (by kernel_rfl) (by kernel_rfl) (fun _ _ _ h => h) (by rfl) ?_ hHeld ?_
      rotate_left
      · (intro w hSw; (try dsimp only at hSw); go_simp; try with_reducible rfl)
      simp only [Act.put, List.setIfInBounds_toArray, List.set_cons_zero, List.set_cons_succ]
      refine take_at (i := 15) 4 (v := ?_) rfl rfl (by kernel_rfl) (by kernel_rfl) (by kernel_rfl) (fun _ _ _ h => h) (by rfl) ?_ hHeld ?_
      rotate_left
      · (intro w hSw; (try dsimp only at hSw); go_simp; try with_reducible rfl)
      simp only [Act.put, List.setIfInBounds_toArray, List.set_cons_zero, List.set_cons_succ]
      refine wpAnyH_done (by kernel_rfl) ?_ _
      refine NoPanic.normal ?_
    rotate_left 1
    refine AllReadyH.cons (o := _) rfl (fun K hK => ?_) AllReadyH.nil
    focus
      rw [if_pos (by rfl)]
      simp only [List.getElem_toArray, List.getElem_cons_zero, List.getElem_cons_succ]
      go_simp
      first | (go_at_call 11; refine (appendBytes_n _ _ c1 (xorL 21 xs0) HX.out _ _ c2 (xorL 21 ys0) HYL.out _ (hrax.below (by first | exact (Below.refl _ _).drew | assumption)) (hrmx.below (by first | exact (Below.refl _ _).drew | assumption)) (fun h => by cases h) (fun h => by cases h) (by omega)).mono ?_; rintro e wc ⟨vc, rfl, hownc, hbc⟩; have hSc := below_next (B := w10) (by first | exact (Below.refl _ _).drew | assumption) hbc; obtain ⟨ac, cc, hvc, -, -, -, hrc, -⟩ := hownc.val; rw [HT2.out] at hvc; subst hvc; have hcvc := fun (u : World) (hu : Below wc.heap.size wc u) => conv_rd' (hrc.below hu) T cc HT2.out.symm; have hcvc0 := conv_rd' hrc T cc HT2.out.symm) | (go_at_call 12; refine (refAppendBytes_n _ _ c7 (xorL 21 xs0) HX.out _ _ c8 (xorL 21 ys0) HYL.out _ (hrnx.below (by first | exact (Below.refl _ _).drew | assumption)) (hrtx.below (by first | exact (Below.refl _ _).drew | assumption)) HN7.out HN8.out (by omega)).mono ?_; rintro e wd ⟨vd, rfl, hownd, hbd⟩; have hSd := below_next (B := w10) (by first | exact (Below.refl _ _).drew | assumption) hbd; obtain ⟨ad, cd, hvd, -, -, -, hrd, -⟩ := hownd.val; rw [HT2.out] at hvd; subst hvd; have hcvd0 := conv_rd' hrd T cd HT2.out.symm)
      go_wp2_with fail
      refine hK.out _ _ (by first | exact (Below.refl _ _).drew | assumption) ?_
      clear hK K
      intro hHeld2
      clear hHeld
      have hHeld := hHeld2
      clear hHeld2
      try simp only [Act.put, List.setIfInBounds_toArray, List.set_cons_zero, List.set_cons_succ]
      refine wpAnyH_ready (rs := [9, 13]) (by kernel_rfl) (by simp) ?_
      refine AllReadyH.cons (o := _) rfl (fun K hK => ?_) ?_
      focus
        rw [if_pos (by rfl)]
        refine val_wp 79 (v := ?_) rfl ?_ ?_
        rotate_left
        · (go_simp; try with_reducible rfl)
        refine hK.out _ _ (by first | exact (Below.refl _ _).drew | assumption) ?_
        clear hK K
        intro hHeld2
        clear hHeld
        have hHeld := hHeld2
        clear hHeld2
        simp only [Act.put, List.setIfInBounds_toArray, List.set_cons_zero, List.set_cons_succ]
        refine val_at (i := 13) 83 (v := ?_) rfl rfl (by kernel_rfl) (by rfl) ?_ ?_ ?_
        rotate_left
        · (go_simp; try with_reducible rfl)
        · (first | exact (Below.refl _ _).drew | assumption)
        intro hHeld2
        clear hHeld
        have hHeld := hHeld2
        clear hHeld2
        simp only [Act.put, List.setIfInBounds_toArray, List.set_cons_zero, List.set_cons_succ]
        refine take_at (i := 14) 84 (v := ?_) rfl rfl (by kernel_rfl) (by kernel_rfl) (by kernel_rfl) (fun _ _ _ h => h) (by rfl) ?_ hHeld ?_
        rotate_left
        · (intro w hSw; (try dsimp only at hSw); go_simp; try with_reducible rfl)
        simp only [Act.put, List.setIfInBounds_toArray, List.set_cons_zero, List.set_cons_succ]
        refine take_at (i := 15) 4 (v := ?_) rfl rfl (by kernel_rfl) (by kernel_rfl) (by kernel_rfl) (fun _ _ _ h => h) (by rfl) ?_ hHeld ?_
        rotate_left
        · (intro w hSw; (try dsimp only at hSw); go_simp; try with_reducible rfl)
        simp only [Act.put, List.setIfInBounds_toArray, List.set_cons_zero, List.set_cons_succ]
        refine wpAnyH_done (by kernel_rfl) ?_ _
        refine NoPanic.normal ?_
      rotate_left 1
      refine AllReadyH.cons (o := _) rfl (fun K hK => ?_) AllReadyH.nil
      focus
        rw [if_pos (by rfl)]
        refine val_wp 83 (v := ?_) rfl ?_ ?_
        rotate_left
        · (go_simp; try with_reducible rfl)
        refine hK.out _ _ (by first | exact (Below.refl _ _).drew | assumption) ?_
        clear hK K
        intro hHeld2
        clear hHeld
        have hHeld := hHeld2
        clear hHeld2
        simp only [Act.put, List.setIfInBounds_toArray, List.set_cons_zero, List.set_cons_succ]
        refine val_at (i := 9) 79 (v := ?_) rfl rfl (by kernel_rfl) (by rfl) ?_ ?_ ?_
        rotate_left
        · (go_simp; try with_reducible rfl)
        · (first | exact (Below.refl _ _).drew | assumption)
        intro hHeld2
        clear hHeld
        have hHeld := hHeld2
        clear hHeld2
        simp only [Act.put, List.setIfInBounds_toArray, List.set_cons_zero, List.set_cons_succ]
        refine take_at (i := 14) 84 (v := ?_) rfl rfl (by kernel_rfl) (by kernel_rfl) (by kernel_rfl) (fun _ _ _ h => h) (by rfl) ?_ hHeld ?_
        rotate_left
        · (intro w hSw; (try dsimp only at hSw); go_simp; try with_reducible rfl)
        simp only [Act.put, List.setIfInBounds_toArray, List.set_cons_zero, List.set_cons_succ]
        refine take_at (i := 15) 4 (v := ?_) rfl rfl (by kernel_rfl) (by kernel_rfl) (by kernel_rfl) (fun _ _ _ h => h) (by rfl) ?_ hHeld ?_
        rotate_left
        · (intro w hSw; (try dsimp only at hSw); go_simp; try with_reducible rfl)
        simp only [Act.put, List.setIfInBounds_toArray, List.set_cons_zero, List.set_cons_succ]
        refine wpAnyH_done (by kernel_rfl) ?_ _
        refine NoPanic.normal ?_
    all_goals
      go_wp2
      go_ret
      exact ⟨rfl, below_next hW10 hSd⟩
end Go.Proofs.Ytinphflminaijaa
