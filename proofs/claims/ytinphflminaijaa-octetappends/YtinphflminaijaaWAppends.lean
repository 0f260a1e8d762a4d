import Derived.Test.YtinphflminaijaaRefApp
import Derived.Test.YtinphflminaijaaRegn
import Derived.Test.YtinphflminaijaaOpen
namespace Go.Proofs.Ytinphflminaijaa
set_option linter.unusedVariables false
set_option linter.unusedSimpArgs false
open Go.RowKit
theorem u64_of {n : Int} (h : (Lit.int .u64 n).wf = true) : ∃ m : Nat, n = m ∧ m < 18446744073709551616 := by
  have h2 : 0 ≤ n ∧ n ≤ 18446744073709551615 := by simpa [Lit.wf, IntKind.min, IntKind.max, IntKind.signed, IntKind.bits] using h
  exact ⟨n.toNat, by omega, by omega⟩
theorem Rd.of_own {w : World} {B : Nat} {ao : Option Addr} {n cap : Nat} {xs : List UInt8} (h : Own w B (.slice ao n cap) xs) : Rd w ao xs := by
  obtain ⟨a, c, hv, -, -, -, hr, -⟩ := h.val
  simp only [Value.slice.injEq] at hv
  rw [hv.1]
  exact hr
theorem ne_blk (g g' n c n' c' : Nat) (h : g ≠ g') : Value.ownBlock (.slice (some ⟨g, 0, none⟩) n c) ≠ Value.ownBlock (.slice (some ⟨g', 0, none⟩) n' c') := by
  simp [Value.ownBlock]; exact h
theorem apart_blk {a : Option Addr} {n c g n' c' B z : Nat} (h : ∀ q, a = some q → B ≤ q.block ∧ q.block < z) (hg : g < B) : Value.ownBlock (.slice a n c) = none ∨ Value.ownBlock (.slice a n c) ≠ Value.ownBlock (.slice (some ⟨g, 0, none⟩) n' c') := by
  rcases a with _ | q
  · exact .inl rfl
  · right
    have := h q rfl
    simp [Value.ownBlock]
    omega
theorem len_marks (xs : List UInt8) : (xs ++ marksL).length = xs.length + 8 := by simp [marksL]
set_option maxRecDepth 20000 in
set_option maxHeartbeats 3200000 in
theorem octetAppends_walk (a0 : Option Addr) (cap0 : Nat) (xs0 : List UInt8) (n1 : Int) (w : World) (hr0 : Rd w a0 xs0) (hl0 : xs0.length ≤ cap0) (hc0 : cap0 ≤ 140737488351232) (hn0 : a0 = none → cap0 = 0) (w1 : (Lit.int .u64 n1).wf = true) :
    Calls Try.prog 3 #[.slice a0 xs0.length cap0, .int .u64 n1] w fun e w' => e = .returned (.bool true) ∧ Below w.heap.size w w' := by
  obtain ⟨m1, rfl, hm1⟩ := u64_of w1
  have HM : Hid (m1 < 18446744073709551616) := hm1
  have hl1 : xs0.length ≤ 140737488351232 := by omega
  have hdl := dg_len m1 hm1
  obtain ⟨D, hD⟩ : ∃ D : Nat, D = (dg m1).length := ⟨_, rfl⟩
  have hD1 : 1 ≤ D := by omega
  have hD2 : D ≤ 10 := by omega
  have HL : Hid ((xs0 ++ dg m1).length = xs0.length + D) := by unfold Hid; rw [List.length_append, hD]
  have HL2 : Hid ((xorL 21 xs0 ++ dg m1).length = xs0.length + D) := by unfold Hid; rw [List.length_append, hD, xorL_len]
  have HN : Hid (a0 = none → cap0 = 0) := hn0
  clear hn0 w1 hc0 hm1 hdl hD
  go_enter Try.func3, Try.ntmps3
  go_wp2_with fail
  refine (lent_any a0 cap0 xs0 w hr0 HN.out (by omega)).mono ?_
  rintro e w1 ⟨v1, rfl, hown1, hb1⟩
  obtain ⟨g, c1, rfl, hlc1, -, hgB, hgl⟩ := own_head hown1 (by rw [len_marks]; omega)
  rw [len_marks] at hlc1 hown1 ⊢
  have hra : Rd w1 (some ⟨g, 0, none⟩) xs0 := by
    have h := (Rd.of_own hown1).take xs0.length
    rwa [List.take_left' rfl] at h
  have hc1 : (xs0.length : Int) ≤ (c1 : Int) := by omega
  have hc1a : ¬ c1 = xs0.length := by omega
  have hc1b : xs0.length ≤ c1 := by omega
  go_wp2_with fail
  refine (appendNumber_n _ _ c1 xs0 rfl m1 w1 hra (fun h => by cases h) (by omega) HM.out).mono ?_
  rintro e w3 ⟨v3, rfl, hown3, hb3⟩
  obtain ⟨g3, c3, rfl, hlc3, -, hg3B, hg3l⟩ := own_head hown3 (by rw [HL.out]; omega)
  rw [HL.out] at hlc3 hown3 ⊢
  have hb13 : Below w.heap.size w w3 := hb1.trans (hb3.mono hb1.size)
  have hcs := fun (u : World) (hu : Below w3.heap.size w3 u) => conv_rd' ((Rd.of_own hown3).below hu) (xs0.length + D) c3 HL.out.symm
  have hoa3 := hown1.below hb3
  have hra3 : Rd w3 a0 xs0 := hr0.below hb13
  go_wp2_with fail
  refine wp_region_noPanic ?_
  refine wp_region_held_drew (S := (fun u => Below w3.heap.size w3 u)) (by kernel_rfl) (by first | exact (Below.refl _ _).drew | assumption) (fun hHeld => ?_)
  refine take_at (i := 0) 16 (v := ?_) rfl rfl (by kernel_rfl) (by kernel_rfl) (by kernel_rfl) (fun _ _ _ h => h) (by rfl) ?_ hHeld ?_
  rotate_left
  · (intro w hSw; (try dsimp only at hSw); go_simp; try with_reducible rfl)
  simp only [Act.put, List.setIfInBounds_toArray, List.set_cons_zero, List.set_cons_succ]
  refine take_at (i := 1) 17 (v := ?_) rfl rfl (by kernel_rfl) (by kernel_rfl) (by kernel_rfl) (fun _ _ _ h => h) (by rfl) ?_ hHeld ?_
  rotate_left
  · (intro w hSw; (try dsimp only at hSw); go_simp; try with_reducible rfl)
  simp only [Act.put, List.setIfInBounds_toArray, List.set_cons_zero, List.set_cons_succ]
  refine take_at (i := 2) 18 (v := ?_) rfl rfl (by kernel_rfl) (by kernel_rfl) (by kernel_rfl) (fun _ _ _ h => h) (by rfl) ?_ hHeld ?_
  rotate_left
  · (intro w hSw; (try dsimp only at hSw); go_simp; try with_reducible rfl)
  simp only [Act.put, List.setIfInBounds_toArray, List.set_cons_zero, List.set_cons_succ]
  refine take_at (i := 3) 19 (v := ?_) rfl rfl (by kernel_rfl) (by kernel_rfl) (by kernel_rfl) (fun _ _ _ h => h) (by rfl) ?_ hHeld ?_
  rotate_left
  · (intro w hSw; (try dsimp only at hSw); go_simp; try with_reducible rfl)
  simp only [Act.put, List.setIfInBounds_toArray, List.set_cons_zero, List.set_cons_succ]
  refine run_at (i := 4) rfl (by kernel_rfl) (by rfl) (fun K hK => ?_)
  simp only [List.getElem_toArray, List.getElem_cons_zero, List.getElem_cons_succ]
  go_simp
  first | (go_at_call 7; refine (refAppendNumber_n a0 _ cap0 xs0 rfl m1 _ (hra3.below (by first | exact (Below.refl _ _).drew | assumption)) HN.out (by omega) HM.out).mono ?_; rintro e w5 ⟨v5, rfl, hown5, hb5⟩; have hS5 := below_next (B := w3) (by first | exact (Below.refl _ _).drew | assumption) hb5; obtain ⟨a5, c5, hv5, -, -, -, hr5, -⟩ := hown5.val; have hcv5 := conv_rd' hr5 (xs0.length + D) c5 HL.out.symm; rw [HL.out] at hv5; clear hb5 hown5; subst hv5) | (go_at_call 8; refine (stays_n _ _ c1 (xs0 ++ marksL) (len_marks _).symm a0 _ cap0 xs0 rfl w5 ((Rd.of_own hoa3).below hS5) (hra3.below hS5) (by omega) rfl).mono ?_; rintro e w6 ⟨rfl, rfl⟩)
  go_wp2_with fail
  refine hK.out _ _ (by first | exact (Below.refl _ _).drew | assumption) ?_
  clear hK K
  intro hHeld2
  clear hHeld
  have hHeld := hHeld2
  clear hHeld2
  try simp only [Act.put, List.setIfInBounds_toArray, List.set_cons_zero, List.set_cons_succ]
  refine val_at (i := 5) 21 (v := ?_) rfl rfl (by kernel_rfl) (by rfl) ?_ ?_ ?_
  rotate_left
  · (go_simp; try with_reducible rfl)
  · (first | exact (Below.refl _ _).drew | assumption)
  intro hHeld2
  clear hHeld
  have hHeld := hHeld2
  clear hHeld2
  simp only [Act.put, List.setIfInBounds_toArray, List.set_cons_zero, List.set_cons_succ]
  refine take_at (i := 6) 22 (v := ?_) rfl rfl (by kernel_rfl) (by kernel_rfl) (by kernel_rfl) (fun _ _ _ h => h) (by rfl) ?_ hHeld ?_
  rotate_left
  · (intro w hSw; (try dsimp only at hSw); go_simp; try with_reducible rfl)
  simp only [Act.put, List.setIfInBounds_toArray, List.set_cons_zero, List.set_cons_succ]
  refine take_at (i := 7) 23 (v := ?_) rfl rfl (by kernel_rfl) (by kernel_rfl) (by kernel_rfl) (fun _ _ _ h => h) (by rfl) ?_ hHeld ?_
  rotate_left
  · (intro w hSw; (try dsimp only at hSw); go_simp; try with_reducible rfl)
  simp only [Act.put, List.setIfInBounds_toArray, List.set_cons_zero, List.set_cons_succ]
  refine take_at (i := 8) 24 (v := ?_) rfl rfl (by kernel_rfl) (by kernel_rfl) (by kernel_rfl) (fun _ _ _ h => h) (by rfl) ?_ hHeld ?_
  rotate_left
  · (intro w hSw; (try dsimp only at hSw); go_simp; try with_reducible rfl)
  simp only [Act.put, List.setIfInBounds_toArray, List.set_cons_zero, List.set_cons_succ]
  refine take_at (i := 9) 25 (v := ?_) rfl rfl (by kernel_rfl) (by kernel_rfl) (by kernel_rfl) (fun _ _ _ h => h) (by rfl) ?_ hHeld ?_
  rotate_left
  · (intro w hSw; (try dsimp only at hSw); go_simp; try with_reducible rfl)
  simp only [Act.put, List.setIfInBounds_toArray, List.set_cons_zero, List.set_cons_succ]
  refine run_at (i := 10) rfl (by kernel_rfl) (by rfl) (fun K hK => ?_)
  simp only [List.getElem_toArray, List.getElem_cons_zero, List.getElem_cons_succ]
  go_simp
  first | (go_at_call 7; refine (refAppendNumber_n a0 _ cap0 xs0 rfl m1 _ (hra3.below (by first | exact (Below.refl _ _).drew | assumption)) HN.out (by omega) HM.out).mono ?_; rintro e w5 ⟨v5, rfl, hown5, hb5⟩; have hS5 := below_next (B := w3) (by first | exact (Below.refl _ _).drew | assumption) hb5; obtain ⟨a5, c5, hv5, -, -, -, hr5, -⟩ := hown5.val; have hcv5 := conv_rd' hr5 (xs0.length + D) c5 HL.out.symm; rw [HL.out] at hv5; clear hb5 hown5; subst hv5) | (go_at_call 8; refine (stays_n _ _ c1 (xs0 ++ marksL) (len_marks _).symm a0 _ cap0 xs0 rfl w5 ((Rd.of_own hoa3).below hS5) (hra3.below hS5) (by omega) rfl).mono ?_; rintro e w6 ⟨rfl, rfl⟩)
  go_wp2_with fail
  refine hK.out _ _ (by first | exact (Below.refl _ _).drew | assumption) ?_
  clear hK K
  intro hHeld2
  clear hHeld
  have hHeld := hHeld2
  clear hHeld2
  try simp only [Act.put, List.setIfInBounds_toArray, List.set_cons_zero, List.set_cons_succ]
  refine take_at (i := 11) 27 (v := ?_) rfl rfl (by kernel_rfl) (by kernel_rfl) (by kernel_rfl) (fun _ _ _ h => h) (by rfl) ?_ hHeld ?_
  rotate_left
  · (intro w hSw; (try dsimp only at hSw); go_simp; try with_reducible rfl)
  simp only [Act.put, List.setIfInBounds_toArray, List.set_cons_zero, List.set_cons_succ]
  refine take_at (i := 12) 28 (v := ?_) rfl rfl (by kernel_rfl) (by kernel_rfl) (by kernel_rfl) (fun _ _ _ h => h) (by rfl) ?_ hHeld ?_
  rotate_left
  · (intro w hSw; (try dsimp only at hSw); go_simp; try with_reducible rfl)
  simp only [Act.put, List.setIfInBounds_toArray, List.set_cons_zero, List.set_cons_succ]
  refine wpAnyH_done (by kernel_rfl) ?_ _
  refine NoPanic.normal ?_
  have hbw5 : Below w.heap.size w w6 := below_next hb13 hS5
  have ho5 := hoa3.below hS5
  have hos5 := hown3.below hS5
  have hgg : g ≠ g3 := by omega
  have hwg3 : w.heap.size ≤ g3 := by have := hb1.size; omega
  have hz35 := hS5.size
  clear hcs hoa3 hown1 hown3 hra hcv5 hr5 hra3
  go_wp2_with fail
  refine (turned_any _ g c1 xs0 w6 ho5 (by omega) hlc1).mono ?_
  rintro e w7 ⟨v7, rfl, hown7, hoa7, hg7⟩
  have hbw7 : Below w.heap.size w w7 := hbw5.grown hg7 hbw5.size (fun k hk => by cases hk; exact hgB)
  have hos7 := hos5.grown hg7 (.inr (ne_blk g3 g (xs0.length + D) c3 0 0 (fun h => hgg h.symm)))
  obtain ⟨a7, c7, hv7, hlc7, -, hn7, hr7, hblk7⟩ := hown7.val
  rw [xorL_len] at hv7 hlc7
  subst hv7
  have HN7 : Hid (a7 = none → c7 = 0) := hn7
  have hcs : ∀ u, Below w7.heap.size w7 u → (convert 22 9 (.slice (some ⟨g3, 0, none⟩) (xs0.length + D) c3)).run Try.prog u = .ok (.string ⟨(xs0 ++ dg m1).toArray⟩) u := fun u hu => conv_rd' ((Rd.of_own hos7).below hu) (xs0.length + D) c3 HL.out.symm
  have hr07 := hr0.below hbw7
  have hz7 := hg7.size
  clear hn7 hg7 hos5 ho5
  go_wp2_with fail
  refine wp_region_noPanic ?_
  refine wp_region_held_drew (S := (fun u => Below w7.heap.size w7 u)) (by kernel_rfl) (by first | exact (Below.refl _ _).drew | assumption) (fun hHeld => ?_)
  refine take_at (i := 0) 31 (v := ?_) rfl rfl (by kernel_rfl) (by kernel_rfl) (by kernel_rfl) (fun _ _ _ h => h) (by rfl) ?_ hHeld ?_
  rotate_left
  · (intro w hSw; (try dsimp only at hSw); go_simp; try with_reducible rfl)
  simp only [Act.put, List.setIfInBounds_toArray, List.set_cons_zero, List.set_cons_succ]
  refine take_at (i := 1) 32 (v := ?_) rfl rfl (by kernel_rfl) (by kernel_rfl) (by kernel_rfl) (fun _ _ _ h => h) (by rfl) ?_ hHeld ?_
  rotate_left
  · (intro w hSw; (try dsimp only at hSw); go_simp; try with_reducible rfl)
  simp only [Act.put, List.setIfInBounds_toArray, List.set_cons_zero, List.set_cons_succ]
  refine take_at (i := 2) 33 (v := ?_) rfl rfl (by kernel_rfl) (by kernel_rfl) (by kernel_rfl) (fun _ _ _ h => h) (by rfl) ?_ hHeld ?_
  rotate_left
  · (intro w hSw; (try dsimp only at hSw); go_simp; try with_reducible rfl)
  simp only [Act.put, List.setIfInBounds_toArray, List.set_cons_zero, List.set_cons_succ]
  refine take_at (i := 3) 34 (v := ?_) rfl rfl (by kernel_rfl) (by kernel_rfl) (by kernel_rfl) (fun _ _ _ h => h) (by rfl) ?_ hHeld ?_
  rotate_left
  · (intro w hSw; (try dsimp only at hSw); go_simp; try with_reducible rfl)
  simp only [Act.put, List.setIfInBounds_toArray, List.set_cons_zero, List.set_cons_succ]
  refine run_at (i := 4) rfl (by kernel_rfl) (by rfl) (fun K hK => ?_)
  simp only [List.getElem_toArray, List.getElem_cons_zero, List.getElem_cons_succ]
  go_simp
  first | (go_at_call 7; refine (refAppendNumber_n a0 _ cap0 xs0 rfl m1 _ (hr07.below (by first | exact (Below.refl _ _).drew | assumption)) HN.out (by omega) HM.out).mono ?_; rintro e w8 ⟨v8, rfl, hown8, hb8⟩; have hS8 := below_next (B := w7) (by first | exact (Below.refl _ _).drew | assumption) hb8; obtain ⟨a8, c8, hv8, -, -, -, hr8, -⟩ := hown8.val; have hcv8 := conv_rd' hr8 (xs0.length + D) c8 HL.out.symm; rw [HL.out] at hv8; clear hb8 hown8; subst hv8)
  go_wp2_with fail
  refine hK.out _ _ (by first | exact (Below.refl _ _).drew | assumption) ?_
  clear hK K
  intro hHeld2
  clear hHeld
  have hHeld := hHeld2
  clear hHeld2
  try simp only [Act.put, List.setIfInBounds_toArray, List.set_cons_zero, List.set_cons_succ]
  refine val_at (i := 5) 36 (v := ?_) rfl rfl (by kernel_rfl) (by rfl) ?_ ?_ ?_
  rotate_left
  · (go_simp; try with_reducible rfl)
  · (first | exact (Below.refl _ _).drew | assumption)
  intro hHeld2
  clear hHeld
  have hHeld := hHeld2
  clear hHeld2
  simp only [Act.put, List.setIfInBounds_toArray, List.set_cons_zero, List.set_cons_succ]
  refine take_at (i := 6) 37 (v := ?_) rfl rfl (by kernel_rfl) (by kernel_rfl) (by kernel_rfl) (fun _ _ _ h => h) (by rfl) ?_ hHeld ?_
  rotate_left
  · (intro w hSw; (try dsimp only at hSw); go_simp; try with_reducible rfl)
  simp only [Act.put, List.setIfInBounds_toArray, List.set_cons_zero, List.set_cons_succ]
  refine wpAnyH_done (by kernel_rfl) ?_ _
  refine NoPanic.normal ?_
  have hbw8 : Below w.heap.size w w8 := below_next hbw7 hS8
  have hos8 := hos7.below hS8
  have hoa8 := hoa7.below hS8
  have hon8 := hown7.below hS8
  have hra8 : Rd w8 (some ⟨g, 0, none⟩) (xorL 21 xs0) := by
    have h := (Rd.of_own hoa8).take (xorL 21 xs0).length
    rwa [List.take_left' rfl] at h
  have hrn8 : Rd w8 a7 (xorL 21 xs0) := Rd.of_own hon8
  have HXL : Hid (xs0.length = (xorL 21 xs0).length) := (xorL_len 21 xs0).symm
  have hb8d : Below w8.heap.size w8 w8.drew := (Below.refl _ _).drew
  clear hcs hos7 hoa7 hown7 hcv8 hr8 hr7
  go_wp2_with fail
  refine wp_region_noPanic ?_
  refine wp_region_held_drew (S := (fun u => Below w.heap.size w u)) (by kernel_rfl) (by first | exact hbw8.drew | assumption) (fun hHeld => ?_)
  refine take_at (i := 0) 38 (v := ?_) rfl rfl (by kernel_rfl) (by kernel_rfl) (by kernel_rfl) (fun _ _ _ h => h) (by rfl) ?_ hHeld ?_
  rotate_left
  · (intro w hSw; (try dsimp only at hSw); go_simp; try with_reducible rfl)
  simp only [Act.put, List.setIfInBounds_toArray, List.set_cons_zero, List.set_cons_succ]
  refine take_at (i := 1) 39 (v := ?_) rfl rfl (by kernel_rfl) (by kernel_rfl) (by kernel_rfl) (fun _ _ _ h => h) (by rfl) ?_ hHeld ?_
  rotate_left
  · (intro w hSw; (try dsimp only at hSw); go_simp; try with_reducible rfl)
  simp only [Act.put, List.setIfInBounds_toArray, List.set_cons_zero, List.set_cons_succ]
  refine take_at (i := 2) 40 (v := ?_) rfl rfl (by kernel_rfl) (by kernel_rfl) (by kernel_rfl) (fun _ _ _ h => h) (by rfl) ?_ hHeld ?_
  rotate_left
  · (intro w hSw; (try dsimp only at hSw); go_simp; try with_reducible rfl)
  simp only [Act.put, List.setIfInBounds_toArray, List.set_cons_zero, List.set_cons_succ]
  refine take_at (i := 3) 41 (v := ?_) rfl rfl (by kernel_rfl) (by kernel_rfl) (by kernel_rfl) (fun _ _ _ h => h) (by rfl) ?_ hHeld ?_
  rotate_left
  · (intro w hSw; (try dsimp only at hSw); go_simp; try with_reducible rfl)
  simp only [Act.put, List.setIfInBounds_toArray, List.set_cons_zero, List.set_cons_succ]
  refine take_at (i := 4) 42 (v := ?_) rfl rfl (by kernel_rfl) (by kernel_rfl) (by kernel_rfl) (fun _ _ _ h => h) (by rfl) ?_ hHeld ?_
  rotate_left
  · (intro w hSw; (try dsimp only at hSw); go_simp; try with_reducible rfl)
  simp only [Act.put, List.setIfInBounds_toArray, List.set_cons_zero, List.set_cons_succ]
  refine take_at (i := 7) 45 (v := ?_) rfl rfl (by kernel_rfl) (by kernel_rfl) (by kernel_rfl) (fun _ _ _ h => h) (by rfl) ?_ hHeld ?_
  rotate_left
  · (intro w hSw; (try dsimp only at hSw); go_simp; try with_reducible rfl)
  simp only [Act.put, List.setIfInBounds_toArray, List.set_cons_zero, List.set_cons_succ]
  refine take_at (i := 8) 46 (v := ?_) rfl rfl (by kernel_rfl) (by kernel_rfl) (by kernel_rfl) (fun _ _ _ h => h) (by rfl) ?_ hHeld ?_
  rotate_left
  · (intro w hSw; (try dsimp only at hSw); go_simp; try with_reducible rfl)
  simp only [Act.put, List.setIfInBounds_toArray, List.set_cons_zero, List.set_cons_succ]
  refine run_at (i := 5) rfl (by kernel_rfl) (by rfl) (fun K hK => ?_)
  simp only [List.getElem_toArray, List.getElem_cons_zero, List.getElem_cons_succ]
  go_simp
  first | (go_at_call 6; refine (appendNumber_n _ _ c1 (xorL 21 xs0) HXL.out m1 w8.drew (hra8.below hb8d) (fun h => by cases h) (by omega) HM.out).mono ?_; rintro e w9 ⟨v9, rfl, hown9, hb9⟩; have hS9 := below_next hb8d hb9; have hW9 := below_next hbw8 hS9; obtain ⟨a9, c9, hv9, -, -, -, hr9, -⟩ := hown9.val; have hcv9 := fun (u : World) (hu : Below w9.heap.size w9 u) => conv_rd' (hr9.below hu) (xs0.length + D) c9 HL2.out.symm; have hcv90 := conv_rd' hr9 (xs0.length + D) c9 HL2.out.symm; rw [HL2.out] at hv9; subst hv9) | (go_at_call 7; refine (refAppendNumber_n a7 _ c7 (xorL 21 xs0) HXL.out m1 w9 (hrn8.below hS9) HN7.out (by omega) HM.out).mono ?_; rintro e w10 ⟨v10, rfl, hown10, hb10⟩; have hS10 := below_next hS9 hb10; have hW10 := below_next hbw8 hS10; obtain ⟨a10, c10, hv10, -, -, -, hr10, -⟩ := hown10.val; have hcv10 := conv_rd' hr10 (xs0.length + D) c10 HL2.out.symm; rw [HL2.out] at hv10; subst hv10; have hra10 := Rd.of_own (hoa8.below hS10); have hrn10 := hrn8.below hS10) | (go_at_call 10; refine (spoils_n _ _ _ c3 (xs0 ++ dg m1) HL.out.symm w10 ((hos8.below hS10).base (Nat.zero_le _)) (by omega) (Nat.zero_le _)).mono ?_; rintro e w11 ⟨rfl, hg11⟩; have hW11 : Below w.heap.size w w11 := hW10.grown hg11 hW10.size (fun k hk => by cases hk; exact hwg3); have hra11 := Rd.of_own ((hoa8.below hS10).grown hg11 (.inr (ne_blk g g3 _ _ _ _ hgg))); have hrn11 := Rd.of_own ((hon8.below hS10).grown hg11 (apart_blk hblk7 (by omega)))) | (go_at_call 8; refine (stays_n _ _ c1 (xorL 21 xs0 ++ marksL) (by rw [len_marks, xorL_len]) a7 _ c7 (xorL 21 xs0) HXL.out _ (by first | exact hra10 | exact hra11) (by first | exact hrn10 | exact hrn11) (by omega) rfl).mono ?_; rintro e w12 ⟨rfl, hw12⟩; have hw12' := hw12.symm; subst hw12')
  go_wp2_with fail
  refine hK.out _ _ (by first | exact hbw8.drew | assumption) ?_
  clear hK K
  intro hHeld2
  clear hHeld
  have hHeld := hHeld2
  clear hHeld2
  try simp only [Act.put, List.setIfInBounds_toArray, List.set_cons_zero, List.set_cons_succ]
  refine wpAnyH_ready (rs := [6, 9]) (by kernel_rfl) (by simp) ?_
  refine AllReadyH.cons (o := _) rfl (fun K hK => ?_) ?_
  focus
    rw [if_pos (by rfl)]
    refine val_wp 44 (v := ?_) rfl ?_ ?_
    rotate_left
    · (go_simp; try with_reducible rfl)
    refine hK.out _ _ (by first | exact hbw8.drew | assumption) ?_
    clear hK K
    intro hHeld2
    clear hHeld
    have hHeld := hHeld2
    clear hHeld2
    simp only [Act.put, List.setIfInBounds_toArray, List.set_cons_zero, List.set_cons_succ]
    refine run_at (i := 9) rfl (by kernel_rfl) (by rfl) (fun K hK => ?_)
    simp only [List.getElem_toArray, List.getElem_cons_zero, List.getElem_cons_succ]
    go_simp
    first | (go_at_call 6; refine (appendNumber_n _ _ c1 (xorL 21 xs0) HXL.out m1 w8.drew (hra8.below hb8d) (fun h => by cases h) (by omega) HM.out).mono ?_; rintro e w9 ⟨v9, rfl, hown9, hb9⟩; have hS9 := below_next hb8d hb9; have hW9 := below_next hbw8 hS9; obtain ⟨a9, c9, hv9, -, -, -, hr9, -⟩ := hown9.val; have hcv9 := fun (u : World) (hu : Below w9.heap.size w9 u) => conv_rd' (hr9.below hu) (xs0.length + D) c9 HL2.out.symm; have hcv90 := conv_rd' hr9 (xs0.length + D) c9 HL2.out.symm; rw [HL2.out] at hv9; subst hv9) | (go_at_call 7; refine (refAppendNumber_n a7 _ c7 (xorL 21 xs0) HXL.out m1 w9 (hrn8.below hS9) HN7.out (by omega) HM.out).mono ?_; rintro e w10 ⟨v10, rfl, hown10, hb10⟩; have hS10 := below_next hS9 hb10; have hW10 := below_next hbw8 hS10; obtain ⟨a10, c10, hv10, -, -, -, hr10, -⟩ := hown10.val; have hcv10 := conv_rd' hr10 (xs0.length + D) c10 HL2.out.symm; rw [HL2.out] at hv10; subst hv10; have hra10 := Rd.of_own (hoa8.below hS10); have hrn10 := hrn8.below hS10) | (go_at_call 10; refine (spoils_n _ _ _ c3 (xs0 ++ dg m1) HL.out.symm w10 ((hos8.below hS10).base (Nat.zero_le _)) (by omega) (Nat.zero_le _)).mono ?_; rintro e w11 ⟨rfl, hg11⟩; have hW11 : Below w.heap.size w w11 := hW10.grown hg11 hW10.size (fun k hk => by cases hk; exact hwg3); have hra11 := Rd.of_own ((hoa8.below hS10).grown hg11 (.inr (ne_blk g g3 _ _ _ _ hgg))); have hrn11 := Rd.of_own ((hon8.below hS10).grown hg11 (apart_blk hblk7 (by omega)))) | (go_at_call 8; refine (stays_n _ _ c1 (xorL 21 xs0 ++ marksL) (by rw [len_marks, xorL_len]) a7 _ c7 (xorL 21 xs0) HXL.out _ (by first | exact hra10 | exact hra11) (by first | exact hrn10 | exact hrn11) (by omega) rfl).mono ?_; rintro e w12 ⟨rfl, hw12⟩; have hw12' := hw12.symm; subst hw12')
    go_wp2_with fail
    refine hK.out _ _ (by first | exact hbw8.drew | assumption) ?_
    clear hK K
    intro hHeld2
    clear hHeld
    have hHeld := hHeld2
    clear hHeld2
    try simp only [Act.put, List.setIfInBounds_toArray, List.set_cons_zero, List.set_cons_succ]
    refine val_at (i := 10) 48 (v := ?_) rfl rfl (by kernel_rfl) (by rfl) ?_ ?_ ?_
    rotate_left
    · (go_simp; try with_reducible rfl)
    · (first | exact hbw8.drew | assumption)
    intro hHeld2
    clear hHeld
    have hHeld := hHeld2
    clear hHeld2
    simp only [Act.put, List.setIfInBounds_toArray, List.set_cons_zero, List.set_cons_succ]
    refine take_at (i := 11) 49 (v := ?_) rfl rfl (by kernel_rfl) (by kernel_rfl) (by kernel_rfl) (fun _ _ _ h => h) (by rfl) ?_ hHeld ?_
    rotate_left
    · (intro w hSw; (try dsimp only at hSw); go_simp; try with_reducible rfl)
    simp only [Act.put, List.setIfInBounds_toArray, List.set_cons_zero, List.set_cons_succ]
    refine take_at (i := 12) 50 (v := ?_) rfl rfl (by kernel_rfl) (by kernel_rfl) (by kernel_rfl) (fun _ _ _ h => h) (by rfl) ?_ hHeld ?_
    rotate_left
    · (intro w hSw; (try dsimp only at hSw); go_simp; try with_reducible rfl)
    simp only [Act.put, List.setIfInBounds_toArray, List.set_cons_zero, List.set_cons_succ]
    refine take_at (i := 13) 51 (v := ?_) rfl rfl (by kernel_rfl) (by kernel_rfl) (by kernel_rfl) (fun _ _ _ h => h) (by rfl) ?_ hHeld ?_
    rotate_left
    · (intro w hSw; (try dsimp only at hSw); go_simp; try with_reducible rfl)
    simp only [Act.put, List.setIfInBounds_toArray, List.set_cons_zero, List.set_cons_succ]
    refine take_at (i := 14) 52 (v := ?_) rfl rfl (by kernel_rfl) (by kernel_rfl) (by kernel_rfl) (fun _ _ _ h => h) (by rfl) ?_ hHeld ?_
    rotate_left
    · (intro w hSw; (try dsimp only at hSw); go_simp; try with_reducible rfl)
    simp only [Act.put, List.setIfInBounds_toArray, List.set_cons_zero, List.set_cons_succ]
    refine run_at (i := 15) rfl (by kernel_rfl) (by rfl) (fun K hK => ?_)
    simp only [List.getElem_toArray, List.getElem_cons_zero, List.getElem_cons_succ]
    go_simp
    first | (go_at_call 6; refine (appendNumber_n _ _ c1 (xorL 21 xs0) HXL.out m1 w8.drew (hra8.below hb8d) (fun h => by cases h) (by omega) HM.out).mono ?_; rintro e w9 ⟨v9, rfl, hown9, hb9⟩; have hS9 := below_next hb8d hb9; have hW9 := below_next hbw8 hS9; obtain ⟨a9, c9, hv9, -, -, -, hr9, -⟩ := hown9.val; have hcv9 := fun (u : World) (hu : Below w9.heap.size w9 u) => conv_rd' (hr9.below hu) (xs0.length + D) c9 HL2.out.symm; have hcv90 := conv_rd' hr9 (xs0.length + D) c9 HL2.out.symm; rw [HL2.out] at hv9; subst hv9) | (go_at_call 7; refine (refAppendNumber_n a7 _ c7 (xorL 21 xs0) HXL.out m1 w9 (hrn8.below hS9) HN7.out (by omega) HM.out).mono ?_; rintro e w10 ⟨v10, rfl, hown10, hb10⟩; have hS10 := below_next hS9 hb10; have hW10 := below_next hbw8 hS10; obtain ⟨a10, c10, hv10, -, -, -, hr10, -⟩ := hown10.val; have hcv10 := conv_rd' hr10 (xs0.length + D) c10 HL2.out.symm; rw [HL2.out] at hv10; subst hv10; have hra10 := Rd.of_own (hoa8.below hS10); have hrn10 := hrn8.below hS10) | (go_at_call 10; refine (spoils_n _ _ _ c3 (xs0 ++ dg m1) HL.out.symm w10 ((hos8.below hS10).base (Nat.zero_le _)) (by omega) (Nat.zero_le _)).mono ?_; rintro e w11 ⟨rfl, hg11⟩; have hW11 : Below w.heap.size w w11 := hW10.grown hg11 hW10.size (fun k hk => by cases hk; exact hwg3); have hra11 := Rd.of_own ((hoa8.below hS10).grown hg11 (.inr (ne_blk g g3 _ _ _ _ hgg))); have hrn11 := Rd.of_own ((hon8.below hS10).grown hg11 (apart_blk hblk7 (by omega)))) | (go_at_call 8; refine (stays_n _ _ c1 (xorL 21 xs0 ++ marksL) (by rw [len_marks, xorL_len]) a7 _ c7 (xorL 21 xs0) HXL.out _ (by first | exact hra10 | exact hra11) (by first | exact hrn10 | exact hrn11) (by omega) rfl).mono ?_; rintro e w12 ⟨rfl, hw12⟩; have hw12' := hw12.symm; subst hw12')
    go_wp2_with fail
    refine hK.out _ _ (by first | exact hbw8.drew | assumption) ?_
    clear hK K
    intro hHeld2
    clear hHeld
    have hHeld := hHeld2
    clear hHeld2
    try simp only [Act.put, List.setIfInBounds_toArray, List.set_cons_zero, List.set_cons_succ]
    refine take_at (i := 16) 54 (v := ?_) rfl rfl (by kernel_rfl) (by kernel_rfl) (by kernel_rfl) (fun _ _ _ h => h) (by rfl) ?_ hHeld ?_
    rotate_left
    · (intro w hSw; (try dsimp only at hSw); go_simp; try with_reducible rfl)
    simp only [Act.put, List.setIfInBounds_toArray, List.set_cons_zero, List.set_cons_succ]
    refine take_at (i := 17) 55 (v := ?_) rfl rfl (by kernel_rfl) (by kernel_rfl) (by kernel_rfl) (fun _ _ _ h => h) (by rfl) ?_ hHeld ?_
    rotate_left
    · (intro w hSw; (try dsimp only at hSw); go_simp; try with_reducible rfl)
    simp only [Act.put, List.setIfInBounds_toArray, List.set_cons_zero, List.set_cons_succ]
    refine take_at (i := 18) 56 (v := ?_) rfl rfl (by kernel_rfl) (by kernel_rfl) (by kernel_rfl) (fun _ _ _ h => h) (by rfl) ?_ hHeld ?_
    rotate_left
    · (intro w hSw; (try dsimp only at hSw); go_simp; try with_reducible rfl)
    simp only [Act.put, List.setIfInBounds_toArray, List.set_cons_zero, List.set_cons_succ]
    refine run_at (i := 19) rfl (by kernel_rfl) (by rfl) (fun K hK => ?_)
    simp only [List.getElem_toArray, List.getElem_cons_zero, List.getElem_cons_succ]
    go_simp
    first | (go_at_call 6; refine (appendNumber_n _ _ c1 (xorL 21 xs0) HXL.out m1 w8.drew (hra8.below hb8d) (fun h => by cases h) (by omega) HM.out).mono ?_; rintro e w9 ⟨v9, rfl, hown9, hb9⟩; have hS9 := below_next hb8d hb9; have hW9 := below_next hbw8 hS9; obtain ⟨a9, c9, hv9, -, -, -, hr9, -⟩ := hown9.val; have hcv9 := fun (u : World) (hu : Below w9.heap.size w9 u) => conv_rd' (hr9.below hu) (xs0.length + D) c9 HL2.out.symm; have hcv90 := conv_rd' hr9 (xs0.length + D) c9 HL2.out.symm; rw [HL2.out] at hv9; subst hv9) | (go_at_call 7; refine (refAppendNumber_n a7 _ c7 (xorL 21 xs0) HXL.out m1 w9 (hrn8.below hS9) HN7.out (by omega) HM.out).mono ?_; rintro e w10 ⟨v10, rfl, hown10, hb10⟩; have hS10 := below_next hS9 hb10; have hW10 := below_next hbw8 hS10; obtain ⟨a10, c10, hv10, -, -, -, hr10, -⟩ := hown10.val; have hcv10 := conv_rd' hr10 (xs0.length + D) c10 HL2.out.symm; rw [HL2.out] at hv10; subst hv10; have hra10 := Rd.of_own (hoa8.below hS10); have hrn10 := hrn8.below hS10) | (go_at_call 10; refine (spoils_n _ _ _ c3 (xs0 ++ dg m1) HL.out.symm w10 ((hos8.below hS10).base (Nat.zero_le _)) (by omega) (Nat.zero_le _)).mono ?_; rintro e w11 ⟨rfl, hg11⟩; have hW11 : Below w.heap.size w w11 := hW10.grown hg11 hW10.size (fun k hk => by cases hk; exact hwg3); have hra11 := Rd.of_own ((hoa8.below hS10).grown hg11 (.inr (ne_blk g g3 _ _ _ _ hgg))); have hrn11 := Rd.of_own ((hon8.below hS10).grown hg11 (apart_blk hblk7 (by omega)))) | (go_at_call 8; refine (stays_n _ _ c1 (xorL 21 xs0 ++ marksL) (by rw [len_marks, xorL_len]) a7 _ c7 (xorL 21 xs0) HXL.out _ (by first | exact hra10 | exact hra11) (by first | exact hrn10 | exact hrn11) (by omega) rfl).mono ?_; rintro e w12 ⟨rfl, hw12⟩; have hw12' := hw12.symm; subst hw12')
    go_wp2_with fail
    refine hK.out _ _ (by first | exact hbw8.drew | assumption) ?_
    clear hK K
    intro hHeld2
    clear hHeld
    have hHeld := hHeld2
    clear hHeld2
    try simp only [Act.put, List.setIfInBounds_toArray, List.set_cons_zero, List.set_cons_succ]
    refine take_at (i := 20) 58 (v := ?_) rfl rfl (by kernel_rfl) (by kernel_rfl) (by kernel_rfl) (fun _ _ _ h => h) (by rfl) ?_ hHeld ?_
    rotate_left
    · (intro w hSw; (try dsimp only at hSw); go_simp; try with_reducible rfl)
    simp only [Act.put, List.setIfInBounds_toArray, List.set_cons_zero, List.set_cons_succ]
    refine take_at (i := 21) 59 (v := ?_) rfl rfl (by kernel_rfl) (by kernel_rfl) (by kernel_rfl) (fun _ _ _ h => h) (by rfl) ?_ hHeld ?_
    rotate_left
    · (intro w hSw; (try dsimp only at hSw); go_simp; try with_reducible rfl)
    simp only [Act.put, List.setIfInBounds_toArray, List.set_cons_zero, List.set_cons_succ]
    refine take_at (i := 22) 60 (v := ?_) rfl rfl (by kernel_rfl) (by kernel_rfl) (by kernel_rfl) (fun _ _ _ h => h) (by rfl) ?_ hHeld ?_
    rotate_left
    · (intro w hSw; (try dsimp only at hSw); go_simp; try with_reducible rfl)
    simp only [Act.put, List.setIfInBounds_toArray, List.set_cons_zero, List.set_cons_succ]
    refine take_at (i := 23) 61 (v := ?_) rfl rfl (by kernel_rfl) (by kernel_rfl) (by kernel_rfl) (fun _ _ _ h => h) (by rfl) ?_ hHeld ?_
    rotate_left
    · (intro w hSw; (try dsimp only at hSw); go_simp; try with_reducible rfl)
    simp only [Act.put, List.setIfInBounds_toArray, List.set_cons_zero, List.set_cons_succ]
    refine run_at (i := 24) rfl (by kernel_rfl) (by rfl) (fun K hK => ?_)
    simp only [List.getElem_toArray, List.getElem_cons_zero, List.getElem_cons_succ]
    go_simp
    first | (go_at_call 6; refine (appendNumber_n _ _ c1 (xorL 21 xs0) HXL.out m1 w8.drew (hra8.below hb8d) (fun h => by cases h) (by omega) HM.out).mono ?_; rintro e w9 ⟨v9, rfl, hown9, hb9⟩; have hS9 := below_next hb8d hb9; have hW9 := below_next hbw8 hS9; obtain ⟨a9, c9, hv9, -, -, -, hr9, -⟩ := hown9.val; have hcv9 := fun (u : World) (hu : Below w9.heap.size w9 u) => conv_rd' (hr9.below hu) (xs0.length + D) c9 HL2.out.symm; have hcv90 := conv_rd' hr9 (xs0.length + D) c9 HL2.out.symm; rw [HL2.out] at hv9; subst hv9) | (go_at_call 7; refine (refAppendNumber_n a7 _ c7 (xorL 21 xs0) HXL.out m1 w9 (hrn8.below hS9) HN7.out (by omega) HM.out).mono ?_; rintro e w10 ⟨v10, rfl, hown10, hb10⟩; have hS10 := below_next hS9 hb10; have hW10 := below_next hbw8 hS10; obtain ⟨a10, c10, hv10, -, -, -, hr10, -⟩ := hown10.val; have hcv10 := conv_rd' hr10 (xs0.length + D) c10 HL2.out.symm; rw [HL2.out] at hv10; subst hv10; have hra10 := Rd.of_own (hoa8.below hS10); have hrn10 := hrn8.below hS10) | (go_at_call 10; refine (spoils_n _ _ _ c3 (xs0 ++ dg m1) HL.out.symm w10 ((hos8.below hS10).base (Nat.zero_le _)) (by omega) (Nat.zero_le _)).mono ?_; rintro e w11 ⟨rfl, hg11⟩; have hW11 : Below w.heap.size w w11 := hW10.grown hg11 hW10.size (fun k hk => by cases hk; exact hwg3); have hra11 := Rd.of_own ((hoa8.below hS10).grown hg11 (.inr (ne_blk g g3 _ _ _ _ hgg))); have hrn11 := Rd.of_own ((hon8.below hS10).grown hg11 (apart_blk hblk7 (by omega)))) | (go_at_call 8; refine (stays_n _ _ c1 (xorL 21 xs0 ++ marksL) (by rw [len_marks, xorL_len]) a7 _ c7 (xorL 21 xs0) HXL.out _ (by first | exact hra10 | exact hra11) (by first | exact hrn10 | exact hrn11) (by omega) rfl).mono ?_; rintro e w12 ⟨rfl, hw12⟩; have hw12' := hw12.symm; subst hw12')
    go_wp2_with fail
    refine hK.out _ _ (by first | exact hbw8.drew | assumption) ?_
    clear hK K
    intro hHeld2
    clear hHeld
    have hHeld := hHeld2
    clear hHeld2
    try simp only [Act.put, List.setIfInBounds_toArray, List.set_cons_zero, List.set_cons_succ]
    refine take_at (i := 25) 63 (v := ?_) rfl rfl (by kernel_rfl) (by kernel_rfl) (by kernel_rfl) (fun _ _ _ h => h) (by rfl) ?_ hHeld ?_
    rotate_left
    · (intro w hSw; (try dsimp only at hSw); go_simp; try with_reducible rfl)
    simp only [Act.put, List.setIfInBounds_toArray, List.set_cons_zero, List.set_cons_succ]
    refine take_at (i := 26) 4 (v := ?_) rfl rfl (by kernel_rfl) (by kernel_rfl) (by kernel_rfl) (fun _ _ _ h => h) (by rfl) ?_ hHeld ?_
    rotate_left
    · (intro w hSw; (try dsimp only at hSw); go_simp; try with_reducible rfl)
    simp only [Act.put, List.setIfInBounds_toArray, List.set_cons_zero, List.set_cons_succ]
    refine wpAnyH_done (by kernel_rfl) ?_ _
    refine NoPanic.normal ?_
  rotate_left 1
  refine AllReadyH.cons (o := _) rfl (fun K hK => ?_) AllReadyH.nil
  focus
    rw [if_pos (by rfl)]
    simp only [List.getElem_toArray, List.getElem_cons_zero, List.getElem_cons_succ]
    go_simp
    first | (go_at_call 6; refine (appendNumber_n _ _ c1 (xorL 21 xs0) HXL.out m1 w8.drew (hra8.below hb8d) (fun h => by cases h) (by omega) HM.out).mono ?_; rintro e w9 ⟨v9, rfl, hown9, hb9⟩; have hS9 := below_next hb8d hb9; have hW9 := below_next hbw8 hS9; obtain ⟨a9, c9, hv9, -, -, -, hr9, -⟩ := hown9.val; have hcv9 := fun (u : World) (hu : Below w9.heap.size w9 u) => conv_rd' (hr9.below hu) (xs0.length + D) c9 HL2.out.symm; have hcv90 := conv_rd' hr9 (xs0.length + D) c9 HL2.out.symm; rw [HL2.out] at hv9; subst hv9) | (go_at_call 7; refine (refAppendNumber_n a7 _ c7 (xorL 21 xs0) HXL.out m1 w9 (hrn8.below hS9) HN7.out (by omega) HM.out).mono ?_; rintro e w10 ⟨v10, rfl, hown10, hb10⟩; have hS10 := below_next hS9 hb10; have hW10 := below_next hbw8 hS10; obtain ⟨a10, c10, hv10, -, -, -, hr10, -⟩ := hown10.val; have hcv10 := conv_rd' hr10 (xs0.length + D) c10 HL2.out.symm; rw [HL2.out] at hv10; subst hv10; have hra10 := Rd.of_own (hoa8.below hS10); have hrn10 := hrn8.below hS10) | (go_at_call 10; refine (spoils_n _ _ _ c3 (xs0 ++ dg m1) HL.out.symm w10 ((hos8.below hS10).base (Nat.zero_le _)) (by omega) (Nat.zero_le _)).mono ?_; rintro e w11 ⟨rfl, hg11⟩; have hW11 : Below w.heap.size w w11 := hW10.grown hg11 hW10.size (fun k hk => by cases hk; exact hwg3); have hra11 := Rd.of_own ((hoa8.below hS10).grown hg11 (.inr (ne_blk g g3 _ _ _ _ hgg))); have hrn11 := Rd.of_own ((hon8.below hS10).grown hg11 (apart_blk hblk7 (by omega)))) | (go_at_call 8; refine (stays_n _ _ c1 (xorL 21 xs0 ++ marksL) (by rw [len_marks, xorL_len]) a7 _ c7 (xorL 21 xs0) HXL.out _ (by first | exact hra10 | exact hra11) (by first | exact hrn10 | exact hrn11) (by omega) rfl).mono ?_; rintro e w12 ⟨rfl, hw12⟩; have hw12' := hw12.symm; subst hw12')
    go_wp2_with fail
    refine hK.out _ _ (by first | exact hbw8.drew | assumption) ?_
    clear hK K
    intro hHeld2
    clear hHeld
    have hHeld := hHeld2
    clear hHeld2
    try simp only [Act.put, List.setIfInBounds_toArray, List.set_cons_zero, List.set_cons_succ]
    refine wpAnyH_ready (rs := [6, 10]) (by kernel_rfl) (by simp) ?_
    refine AllReadyH.cons (o := _) rfl (fun K hK => ?_) ?_
    focus
      rw [if_pos (by rfl)]
      refine val_wp 44 (v := ?_) rfl ?_ ?_
      rotate_left
      · (go_simp; try with_reducible rfl)
      refine hK.out _ _ (by first | exact hbw8.drew | assumption) ?_
      clear hK K
      intro hHeld2
      clear hHeld
      have hHeld := hHeld2
      clear hHeld2
      simp only [Act.put, List.setIfInBounds_toArray, List.set_cons_zero, List.set_cons_succ]
      refine val_at (i := 10) 48 (v := ?_) rfl rfl (by kernel_rfl) (by rfl) ?_ ?_ ?_
      rotate_left
      · (go_simp; try with_reducible rfl)
      · (first | exact hbw8.drew | assumption)
      intro hHeld2
      clear hHeld
      have hHeld := hHeld2
      clear hHeld2
      simp only [Act.put, List.setIfInBounds_toArray, List.set_cons_zero, List.set_cons_succ]
      refine take_at (i := 11) 49 (v := ?_) rfl rfl (by kernel_rfl) (by kernel_rfl) (by kernel_rfl) (fun _ _ _ h => h) (by rfl) ?_ hHeld ?_
      rotate_left
      · (intro w hSw; (try dsimp only at hSw); go_simp; try with_reducible rfl)
      simp only [Act.put, List.setIfInBounds_toArray, List.set_cons_zero, List.set_cons_succ]
      refine take_at (i := 12) 50 (v := ?_) rfl rfl (by kernel_rfl) (by kernel_rfl) (by kernel_rfl) (fun _ _ _ h => h) (by rfl) ?_ hHeld ?_
      rotate_left
      · (intro w hSw; (try dsimp only at hSw); go_simp; try with_reducible rfl)
      simp only [Act.put, List.setIfInBounds_toArray, List.set_cons_zero, List.set_cons_succ]
      refine take_at (i := 13) 51 (v := ?_) rfl rfl (by kernel_rfl) (by kernel_rfl) (by kernel_rfl) (fun _ _ _ h => h) (by rfl) ?_ hHeld ?_
      rotate_left
      · (intro w hSw; (try dsimp only at hSw); go_simp; try with_reducible rfl)
      simp only [Act.put, List.setIfInBounds_toArray, List.set_cons_zero, List.set_cons_succ]
      refine take_at (i := 14) 52 (v := ?_) rfl rfl (by kernel_rfl) (by kernel_rfl) (by kernel_rfl) (fun _ _ _ h => h) (by rfl) ?_ hHeld ?_
      rotate_left
      · (intro w hSw; (try dsimp only at hSw); go_simp; try with_reducible rfl)
      simp only [Act.put, List.setIfInBounds_toArray, List.set_cons_zero, List.set_cons_succ]
      refine run_at (i := 15) rfl (by kernel_rfl) (by rfl) (fun K hK => ?_)
      simp only [List.getElem_toArray, List.getElem_cons_zero, List.getElem_cons_succ]
      go_simp
      first | (go_at_call 6; refine (appendNumber_n _ _ c1 (xorL 21 xs0) HXL.out m1 w8.drew (hra8.below hb8d) (fun h => by cases h) (by omega) HM.out).mono ?_; rintro e w9 ⟨v9, rfl, hown9, hb9⟩; have hS9 := below_next hb8d hb9; have hW9 := below_next hbw8 hS9; obtain ⟨a9, c9, hv9, -, -, -, hr9, -⟩ := hown9.val; have hcv9 := fun (u : World) (hu : Below w9.heap.size w9 u) => conv_rd' (hr9.below hu) (xs0.length + D) c9 HL2.out.symm; have hcv90 := conv_rd' hr9 (xs0.length + D) c9 HL2.out.symm; rw [HL2.out] at hv9; subst hv9) | (go_at_call 7; refine (refAppendNumber_n a7 _ c7 (xorL 21 xs0) HXL.out m1 w9 (hrn8.below hS9) HN7.out (by omega) HM.out).mono ?_; rintro e w10 ⟨v10, rfl, hown10, hb10⟩; have hS10 := below_next hS9 hb10; have hW10 := below_next hbw8 hS10; obtain ⟨a10, c10, hv10, -, -, -, hr10, -⟩ := hown10.val; have hcv10 := conv_rd' hr10 (xs0.length + D) c10 HL2.out.symm; rw [HL2.out] at hv10; subst hv10; have hra10 := Rd.of_own (hoa8.below hS10); have hrn10 := hrn8.below hS10) | (go_at_call 10; refine (spoils_n _ _ _ c3 (xs0 ++ dg m1) HL.out.symm w10 ((hos8.below hS10).base (Nat.zero_le _)) (by omega) (Nat.zero_le _)).mono ?_; rintro e w11 ⟨rfl, hg11⟩; have hW11 : Below w.heap.size w w11 := hW10.grown hg11 hW10.size (fun k hk => by cases hk; exact hwg3); have hra11 := Rd.of_own ((hoa8.below hS10).grown hg11 (.inr (ne_blk g g3 _ _ _ _ hgg))); have hrn11 := Rd.of_own ((hon8.below hS10).grown hg11 (apart_blk hblk7 (by omega)))) | (go_at_call 8; refine (stays_n _ _ c1 (xorL 21 xs0 ++ marksL) (by rw [len_marks, xorL_len]) a7 _ c7 (xorL 21 xs0) HXL.out _ (by first | exact hra10 | exact hra11) (by first | exact hrn10 | exact hrn11) (by omega) rfl).mono ?_; rintro e w12 ⟨rfl, hw12⟩; have hw12' := hw12.symm; subst hw12')
      go_wp2_with fail
      refine hK.out _ _ (by first | exact hbw8.drew | assumption) ?_
      clear hK K
      intro hHeld2
      clear hHeld
      have hHeld := hHeld2
      clear hHeld2
      try simp only [Act.put, List.setIfInBounds_toArray, List.set_cons_zero, List.set_cons_succ]
      refine take_at (i := 16) 54 (v := ?_) rfl rfl (by kernel_rfl) (by kernel_rfl) (by kernel_rfl) (fun _ _ _ h => h) (by rfl) ?_ hHeld ?_
      rotate_left
      · (intro w hSw; (try dsimp only at hSw); go_simp; try with_reducible rfl)
      simp only [Act.put, List.setIfInBounds_toArray, List.set_cons_zero, List.set_cons_succ]
      refine take_at (i := 17) 55 (v := ?_) rfl rfl (by kernel_rfl) (by kernel_rfl) (by kernel_rfl) (fun _ _ _ h => h) (by rfl) ?_ hHeld ?_
      rotate_left
      · (intro w hSw; (try dsimp only at hSw); go_simp; try with_reducible rfl)
      simp only [Act.put, List.setIfInBounds_toArray, List.set_cons_zero, List.set_cons_succ]
      refine take_at (i := 18) 56 (v := ?_) rfl rfl (by kernel_rfl) (by kernel_rfl) (by kernel_rfl) (fun _ _ _ h => h) (by rfl) ?_ hHeld ?_
      rotate_left
      · (intro w hSw; (try dsimp only at hSw); go_simp; try with_reducible rfl)
      simp only [Act.put, List.setIfInBounds_toArray, List.set_cons_zero, List.set_cons_succ]
      refine run_at (i := 19) rfl (by kernel_rfl) (by rfl) (fun K hK => ?_)
      simp only [List.getElem_toArray, List.getElem_cons_zero, List.getElem_cons_succ]
      go_simp
      first | (go_at_call 6; refine (appendNumber_n _ _ c1 (xorL 21 xs0) HXL.out m1 w8.drew (hra8.below hb8d) (fun h => by cases h) (by omega) HM.out).mono ?_; rintro e w9 ⟨v9, rfl, hown9, hb9⟩; have hS9 := below_next hb8d hb9; have hW9 := below_next hbw8 hS9; obtain ⟨a9, c9, hv9, -, -, -, hr9, -⟩ := hown9.val; have hcv9 := fun (u : World) (hu : Below w9.heap.size w9 u) => conv_rd' (hr9.below hu) (xs0.length + D) c9 HL2.out.symm; have hcv90 := conv_rd' hr9 (xs0.length + D) c9 HL2.out.symm; rw [HL2.out] at hv9; subst hv9) | (go_at_call 7; refine (refAppendNumber_n a7 _ c7 (xorL 21 xs0) HXL.out m1 w9 (hrn8.below hS9) HN7.out (by omega) HM.out).mono ?_; rintro e w10 ⟨v10, rfl, hown10, hb10⟩; have hS10 := below_next hS9 hb10; have hW10 := below_next hbw8 hS10; obtain ⟨a10, c10, hv10, -, -, -, hr10, -⟩ := hown10.val; have hcv10 := conv_rd' hr10 (xs0.length + D) c10 HL2.out.symm; rw [HL2.out] at hv10; subst hv10; have hra10 := Rd.of_own (hoa8.below hS10); have hrn10 := hrn8.below hS10) | (go_at_call 10; refine (spoils_n _ _ _ c3 (xs0 ++ dg m1) HL.out.symm w10 ((hos8.below hS10).base (Nat.zero_le _)) (by omega) (Nat.zero_le _)).mono ?_; rintro e w11 ⟨rfl, hg11⟩; have hW11 : Below w.heap.size w w11 := hW10.grown hg11 hW10.size (fun k hk => by cases hk; exact hwg3); have hra11 := Rd.of_own ((hoa8.below hS10).grown hg11 (.inr (ne_blk g g3 _ _ _ _ hgg))); have hrn11 := Rd.of_own ((hon8.below hS10).grown hg11 (apart_blk hblk7 (by omega)))) | (go_at_call 8; refine (stays_n _ _ c1 (xorL 21 xs0 ++ marksL) (by rw [len_marks, xorL_len]) a7 _ c7 (xorL 21 xs0) HXL.out _ (by first | exact hra10 | exact hra11) (by first | exact hrn10 | exact hrn11) (by omega) rfl).mono ?_; rintro e w12 ⟨rfl, hw12⟩; have hw12' := hw12.symm; subst hw12')
      go_wp2_with fail
      refine hK.out _ _ (by first | exact hbw8.drew | assumption) ?_
      clear hK K
      intro hHeld2
      clear hHeld
      have hHeld := hHeld2
      clear hHeld2
      try simp only [Act.put, List.setIfInBounds_toArray, List.set_cons_zero, List.set_cons_succ]
      refine take_at (i := 20) 58 (v := ?_) rfl rfl (by kernel_rfl) (by kernel_rfl) (by kernel_rfl) (fun _ _ _ h => h) (by rfl) ?_ hHeld ?_
      rotate_left
      · (intro w hSw; (try dsimp only at hSw); go_simp; try with_reducible rfl)
      simp only [Act.put, List.setIfInBounds_toArray, List.set_cons_zero, List.set_cons_succ]
      refine take_at (i := 21) 59 (v := ?_) rfl rfl (by kernel_rfl) (by kernel_rfl) (by kernel_rfl) (fun _ _ _ h => h) (by rfl) ?_ hHeld ?_
      rotate_left
      · (intro w hSw; (try dsimp only at hSw); go_simp; try with_reducible rfl)
      simp only [Act.put, List.setIfInBounds_toArray, List.set_cons_zero, List.set_cons_succ]
      refine take_at (i := 22) 60 (v := ?_) rfl rfl (by kernel_rfl) (by kernel_rfl) (by kernel_rfl) (fun _ _ _ h => h) (by rfl) ?_ hHeld ?_
      rotate_left
      · (intro w hSw; (try dsimp only at hSw); go_simp; try with_reducible rfl)
      simp only [Act.put, List.setIfInBounds_toArray, List.set_cons_zero, List.set_cons_succ]
      refine take_at (i := 23) 61 (v := ?_) rfl rfl (by kernel_rfl) (by kernel_rfl) (by kernel_rfl) (fun _ _ _ h => h) (by rfl) ?_ hHeld ?_
      rotate_left
      · (intro w hSw; (try dsimp only at hSw); go_simp; try with_reducible rfl)
      simp only [Act.put, List.setIfInBounds_toArray, List.set_cons_zero, List.set_cons_succ]
      refine run_at (i := 24) rfl (by kernel_rfl) (by rfl) (fun K hK => ?_)
      simp only [List.getElem_toArray, List.getElem_cons_zero, List.getElem_cons_succ]
      go_simp
      first | (go_at_call 6; refine (appendNumber_n _ _ c1 (xorL 21 xs0) HXL.out m1 w8.drew (hra8.below hb8d) (fun h => by cases h) (by omega) HM.out).mono ?_; rintro e w9 ⟨v9, rfl, hown9, hb9⟩; have hS9 := below_next hb8d hb9; have hW9 := below_next hbw8 hS9; obtain ⟨a9, c9, hv9, -, -, -, hr9, -⟩ := hown9.val; have hcv9 := fun (u : World) (hu : Below w9.heap.size w9 u) => conv_rd' (hr9.below hu) (xs0.length + D) c9 HL2.out.symm; have hcv90 := conv_rd' hr9 (xs0.length + D) c9 HL2.out.symm; rw [HL2.out] at hv9; subst hv9) | (go_at_call 7; refine (refAppendNumber_n a7 _ c7 (xorL 21 xs0) HXL.out m1 w9 (hrn8.below hS9) HN7.out (by omega) HM.out).mono ?_; rintro e w10 ⟨v10, rfl, hown10, hb10⟩; have hS10 := below_next hS9 hb10; have hW10 := below_next hbw8 hS10; obtain ⟨a10, c10, hv10, -, -, -, hr10, -⟩ := hown10.val; have hcv10 := conv_rd' hr10 (xs0.length + D) c10 HL2.out.symm; rw [HL2.out] at hv10; subst hv10; have hra10 := Rd.of_own (hoa8.below hS10); have hrn10 := hrn8.below hS10) | (go_at_call 10; refine (spoils_n _ _ _ c3 (xs0 ++ dg m1) HL.out.symm w10 ((hos8.below hS10).base (Nat.zero_le _)) (by omega) (Nat.zero_le _)).mono ?_; rintro e w11 ⟨rfl, hg11⟩; have hW11 : Below w.heap.size w w11 := hW10.grown hg11 hW10.size (fun k hk => by cases hk; exact hwg3); have hra11 := Rd.of_own ((hoa8.below hS10).grown hg11 (.inr (ne_blk g g3 _ _ _ _ hgg))); have hrn11 := Rd.of_own ((hon8.below hS10).grown hg11 (apart_blk hblk7 (by omega)))) | (go_at_call 8; refine (stays_n _ _ c1 (xorL 21 xs0 ++ marksL) (by rw [len_marks, xorL_len]) a7 _ c7 (xorL 21 xs0) HXL.out _ (by first | exact hra10 | exact hra11) (by first | exact hrn10 | exact hrn11) (by omega) rfl).mono ?_; rintro e w12 ⟨rfl, hw12⟩; have hw12' := hw12.symm; subst hw12')
      go_wp2_with fail
      refine hK.out _ _ (by first | exact hbw8.drew | assumption) ?_
      clear hK K
      intro hHeld2
      clear hHeld
      have hHeld := hHeld2
      clear hHeld2
      try simp only [Act.put, List.setIfInBounds_toArray, List.set_cons_zero, List.set_cons_succ]
      refine take_at (i := 25) 63 (v := ?_) rfl rfl (by kernel_rfl) (by kernel_rfl) (by kernel_rfl) (fun _ _ _ h => h) (by rfl) ?_ hHeld ?_
      rotate_left
      · (intro w hSw; (try dsimp only at hSw); go_simp; try with_reducible rfl)
      simp only [Act.put, List.setIfInBounds_toArray, List.set_cons_zero, List.set_cons_succ]
      refine take_at (i := 26) 4 (v := ?_) rfl rfl (by kernel_rfl) (by kernel_rfl) (by kernel_rfl) (fun _ _ _ h => h) (by rfl) ?_ hHeld ?_
      rotate_left
      · (intro w hSw; (try dsimp only at hSw); go_simp; try with_reducible rfl)
      simp only [Act.put, List.setIfInBounds_toArray, List.set_cons_zero, List.set_cons_succ]
      refine wpAnyH_done (by kernel_rfl) ?_ _
      refine NoPanic.normal ?_
    rotate_left 1
    refine AllReadyH.cons (o := _) rfl (fun K hK => ?_) AllReadyH.nil
    focus
      rw [if_pos (by rfl)]
      refine val_wp 48 (v := ?_) rfl ?_ ?_
      rotate_left
      · (go_simp; try with_reducible rfl)
      refine hK.out _ _ (by first | exact hbw8.drew | assumption) ?_
      clear hK K
      intro hHeld2
      clear hHeld
      have hHeld := hHeld2
      clear hHeld2
      simp only [Act.put, List.setIfInBounds_toArray, List.set_cons_zero, List.set_cons_succ]
      refine val_at (i := 6) 44 (v := ?_) rfl rfl (by kernel_rfl) (by rfl) ?_ ?_ ?_
      rotate_left
      · (go_simp; try with_reducible rfl)
      · (first | exact hbw8.drew | assumption)
      intro hHeld2
      clear hHeld
      have hHeld := hHeld2
      clear hHeld2
      simp only [Act.put, List.setIfInBounds_toArray, List.set_cons_zero, List.set_cons_succ]
      refine take_at (i := 11) 49 (v := ?_) rfl rfl (by kernel_rfl) (by kernel_rfl) (by kernel_rfl) (fun _ _ _ h => h) (by rfl) ?_ hHeld ?_
      rotate_left
      · (intro w hSw; (try dsimp only at hSw); go_simp; try with_reducible rfl)
      simp only [Act.put, List.setIfInBounds_toArray, List.set_cons_zero, List.set_cons_succ]
      refine take_at (i := 12) 50 (v := ?_) rfl rfl (by kernel_rfl) (by kernel_rfl) (by kernel_rfl) (fun _ _ _ h => h) (by rfl) ?_ hHeld ?_
      rotate_left
      · (intro w hSw; (try dsimp only at hSw); go_simp; try with_reducible rfl)
      simp only [Act.put, List.setIfInBounds_toArray, List.set_cons_zero, List.set_cons_succ]
      refine take_at (i := 13) 51 (v := ?_) rfl rfl (by kernel_rfl) (by kernel_rfl) (by kernel_rfl) (fun _ _ _ h => h) (by rfl) ?_ hHeld ?_
      rotate_left
      · (intro w hSw; (try dsimp only at hSw); go_simp; try with_reducible rfl)
      simp only [Act.put, List.setIfInBounds_toArray, List.set_cons_zero, List.set_cons_succ]
      refine take_at (i := 14) 52 (v := ?_) rfl rfl (by kernel_rfl) (by kernel_rfl) (by kernel_rfl) (fun _ _ _ h => h) (by rfl) ?_ hHeld ?_
      rotate_left
      · (intro w hSw; (try dsimp only at hSw); go_simp; try with_reducible rfl)
      simp only [Act.put, List.setIfInBounds_toArray, List.set_cons_zero, List.set_cons_succ]
      refine run_at (i := 15) rfl (by kernel_rfl) (by rfl) (fun K hK => ?_)
      simp only [List.getElem_toArray, List.getElem_cons_zero, List.getElem_cons_succ]
      go_simp
      first | (go_at_call 6; refine (appendNumber_n _ _ c1 (xorL 21 xs0) HXL.out m1 w8.drew (hra8.below hb8d) (fun h => by cases h) (by omega) HM.out).mono ?_; rintro e w9 ⟨v9, rfl, hown9, hb9⟩; have hS9 := below_next hb8d hb9; have hW9 := below_next hbw8 hS9; obtain ⟨a9, c9, hv9, -, -, -, hr9, -⟩ := hown9.val; have hcv9 := fun (u : World) (hu : Below w9.heap.size w9 u) => conv_rd' (hr9.below hu) (xs0.length + D) c9 HL2.out.symm; have hcv90 := conv_rd' hr9 (xs0.length + D) c9 HL2.out.symm; rw [HL2.out] at hv9; subst hv9) | (go_at_call 7; refine (refAppendNumber_n a7 _ c7 (xorL 21 xs0) HXL.out m1 w9 (hrn8.below hS9) HN7.out (by omega) HM.out).mono ?_; rintro e w10 ⟨v10, rfl, hown10, hb10⟩; have hS10 := below_next hS9 hb10; have hW10 := below_next hbw8 hS10; obtain ⟨a10, c10, hv10, -, -, -, hr10, -⟩ := hown10.val; have hcv10 := conv_rd' hr10 (xs0.length + D) c10 HL2.out.symm; rw [HL2.out] at hv10; subst hv10; have hra10 := Rd.of_own (hoa8.below hS10); have hrn10 := hrn8.below hS10) | (go_at_call 10; refine (spoils_n _ _ _ c3 (xs0 ++ dg m1) HL.out.symm w10 ((hos8.below hS10).base (Nat.zero_le _)) (by omega) (Nat.zero_le _)).mono ?_; rintro e w11 ⟨rfl, hg11⟩; have hW11 : Below w.heap.size w w11 := hW10.grown hg11 hW10.size (fun k hk => by cases hk; exact hwg3); have hra11 := Rd.of_own ((hoa8.below hS10).grown hg11 (.inr (ne_blk g g3 _ _ _ _ hgg))); have hrn11 := Rd.of_own ((hon8.below hS10).grown hg11 (apart_blk hblk7 (by omega)))) | (go_at_call 8; refine (stays_n _ _ c1 (xorL 21 xs0 ++ marksL) (by rw [len_marks, xorL_len]) a7 _ c7 (xorL 21 xs0) HXL.out _ (by first | exact hra10 | exact hra11) (by first | exact hrn10 | exact hrn11) (by omega) rfl).mono ?_; rintro e w12 ⟨rfl, hw12⟩; have hw12' := hw12.symm; subst hw12')
      go_wp2_with fail
      refine hK.out _ _ (by first | exact hbw8.drew | assumption) ?_
      clear hK K
      intro hHeld2
      clear hHeld
      have hHeld := hHeld2
      clear hHeld2
      try simp only [Act.put, List.setIfInBounds_toArray, List.set_cons_zero, List.set_cons_succ]
      refine take_at (i := 16) 54 (v := ?_) rfl rfl (by kernel_rfl) (by kernel_rfl) (by kernel_rfl) (fun _ _ _ h => h) (by rfl) ?_ hHeld ?_
      rotate_left
      · (intro w hSw; (try dsimp only at hSw); go_simp; try with_reducible rfl)
      simp only [Act.put, List.setIfInBounds_toArray, List.set_cons_zero, List.set_cons_succ]
      refine take_at (i := 17) 55 (v := ?_) rfl rfl (by kernel_rfl) (by kernel_rfl) (by kernel_rfl) (fun _ _ _ h => h) (by rfl) ?_ hHeld ?_
      rotate_left
      · (intro w hSw; (try dsimp only at hSw); go_simp; try with_reducible rfl)
      simp only [Act.put, List.setIfInBounds_toArray, List.set_cons_zero, List.set_cons_succ]
      refine take_at (i := 18) 56 (v := ?_) rfl rfl (by kernel_rfl) (by kernel_rfl) (by kernel_rfl) (fun _ _ _ h => h) (by rfl) ?_ hHeld ?_
      rotate_left
      · (intro w hSw; (try dsimp only at hSw); go_simp; try with_reducible rfl)
      simp only [Act.put, List.setIfInBounds_toArray, List.set_cons_zero, List.set_cons_succ]
      refine run_at (i := 19) rfl (by kernel_rfl) (by rfl) (fun K hK => ?_)
      simp only [List.getElem_toArray, List.getElem_cons_zero, List.getElem_cons_succ]
      go_simp
      first | (go_at_call 6; refine (appendNumber_n _ _ c1 (xorL 21 xs0) HXL.out m1 w8.drew (hra8.below hb8d) (fun h => by cases h) (by omega) HM.out).mono ?_; rintro e w9 ⟨v9, rfl, hown9, hb9⟩; have hS9 := below_next hb8d hb9; have hW9 := below_next hbw8 hS9; obtain ⟨a9, c9, hv9, -, -, -, hr9, -⟩ := hown9.val; have hcv9 := fun (u : World) (hu : Below w9.heap.size w9 u) => conv_rd' (hr9.below hu) (xs0.length + D) c9 HL2.out.symm; have hcv90 := conv_rd' hr9 (xs0.length + D) c9 HL2.out.symm; rw [HL2.out] at hv9; subst hv9) | (go_at_call 7; refine (refAppendNumber_n a7 _ c7 (xorL 21 xs0) HXL.out m1 w9 (hrn8.below hS9) HN7.out (by omega) HM.out).mono ?_; rintro e w10 ⟨v10, rfl, hown10, hb10⟩; have hS10 := below_next hS9 hb10; have hW10 := below_next hbw8 hS10; obtain ⟨a10, c10, hv10, -, -, -, hr10, -⟩ := hown10.val; have hcv10 := conv_rd' hr10 (xs0.length + D) c10 HL2.out.symm; rw [HL2.out] at hv10; subst hv10; have hra10 := Rd.of_own (hoa8.below hS10); have hrn10 := hrn8.below hS10) | (go_at_call 10; refine (spoils_n _ _ _ c3 (xs0 ++ dg m1) HL.out.symm w10 ((hos8.below hS10).base (Nat.zero_le _)) (by omega) (Nat.zero_le _)).mono ?_; rintro e w11 ⟨rfl, hg11⟩; have hW11 : Below w.heap.size w w11 := hW10.grown hg11 hW10.size (fun k hk => by cases hk; exact hwg3); have hra11 := Rd.of_own ((hoa8.below hS10).grown hg11 (.inr (ne_blk g g3 _ _ _ _ hgg))); have hrn11 := Rd.of_own ((hon8.below hS10).grown hg11 (apart_blk hblk7 (by omega)))) | (go_at_call 8; refine (stays_n _ _ c1 (xorL 21 xs0 ++ marksL) (by rw [len_marks, xorL_len]) a7 _ c7 (xorL 21 xs0) HXL.out _ (by first | exact hra10 | exact hra11) (by first | exact hrn10 | exact hrn11) (by omega) rfl).mono ?_; rintro e w12 ⟨rfl, hw12⟩; have hw12' := hw12.symm; subst hw12')
      go_wp2_with fail
      refine hK.out _ _ (by first | exact hbw8.drew | assumption) ?_
      clear hK K
      intro hHeld2
      clear hHeld
      have hHeld := hHeld2
      clear hHeld2
      try simp only [Act.put, List.setIfInBounds_toArray, List.set_cons_zero, List.set_cons_succ]
      refine take_at (i := 20) 58 (v := ?_) rfl rfl (by kernel_rfl) (by kernel_rfl) (by kernel_rfl) (fun _ _ _ h => h) (by rfl) ?_ hHeld ?_
      rotate_left
      · (intro w hSw; (try dsimp only at hSw); go_simp; try with_reducible rfl)
      simp only [Act.put, List.setIfInBounds_toArray, List.set_cons_zero, List.set_cons_succ]
      refine take_at (i := 21) 59 (v := ?_) rfl rfl (by kernel_rfl) (by kernel_rfl) (by kernel_rfl) (fun _ _ _ h => h) (by rfl) ?_ hHeld ?_
      rotate_left
      · (intro w hSw; (try dsimp only at hSw); go_simp; try with_reducible rfl)
      simp only [Act.put, List.setIfInBounds_toArray, List.set_cons_zero, List.set_cons_succ]
      refine take_at (i := 22) 60 (v := ?_) rfl rfl (by kernel_rfl) (by kernel_rfl) (by kernel_rfl) (fun _ _ _ h => h) (by rfl) ?_ hHeld ?_
      rotate_left
      · (intro w hSw; (try dsimp only at hSw); go_simp; try with_reducible rfl)
      simp only [Act.put, List.setIfInBounds_toArray, List.set_cons_zero, List.set_cons_succ]
      refine take_at (i := 23) 61 (v := ?_) rfl rfl (by kernel_rfl) (by kernel_rfl) (by kernel_rfl) (fun _ _ _ h => h) (by rfl) ?_ hHeld ?_
      rotate_left
      · (intro w hSw; (try dsimp only at hSw); go_simp; try with_reducible rfl)
      simp only [Act.put, List.setIfInBounds_toArray, List.set_cons_zero, List.set_cons_succ]
      refine run_at (i := 24) rfl (by kernel_rfl) (by rfl) (fun K hK => ?_)
      simp only [List.getElem_toArray, List.getElem_cons_zero, List.getElem_cons_succ]
      go_simp
      first | (go_at_call 6; refine (appendNumber_n _ _ c1 (xorL 21 xs0) HXL.out m1 w8.drew (hra8.below hb8d) (fun h => by cases h) (by omega) HM.out).mono ?_; rintro e w9 ⟨v9, rfl, hown9, hb9⟩; have hS9 := below_next hb8d hb9; have hW9 := below_next hbw8 hS9; obtain ⟨a9, c9, hv9, -, -, -, hr9, -⟩ := hown9.val; have hcv9 := fun (u : World) (hu : Below w9.heap.size w9 u) => conv_rd' (hr9.below hu) (xs0.length + D) c9 HL2.out.symm; have hcv90 := conv_rd' hr9 (xs0.length + D) c9 HL2.out.symm; rw [HL2.out] at hv9; subst hv9) | (go_at_call 7; refine (refAppendNumber_n a7 _ c7 (xorL 21 xs0) HXL.out m1 w9 (hrn8.below hS9) HN7.out (by omega) HM.out).mono ?_; rintro e w10 ⟨v10, rfl, hown10, hb10⟩; have hS10 := below_next hS9 hb10; have hW10 := below_next hbw8 hS10; obtain ⟨a10, c10, hv10, -, -, -, hr10, -⟩ := hown10.val; have hcv10 := conv_rd' hr10 (xs0.length + D) c10 HL2.out.symm; rw [HL2.out] at hv10; subst hv10; have hra10 := Rd.of_own (hoa8.below hS10); have hrn10 := hrn8.below hS10) | (go_at_call 10; refine (spoils_n _ _ _ c3 (xs0 ++ dg m1) HL.out.symm w10 ((hos8.below hS10).base (Nat.zero_le _)) (by omega) (Nat.zero_le _)).mono ?_; rintro e w11 ⟨rfl, hg11⟩; have hW11 : Below w.heap.size w w11 := hW10.grown hg11 hW10.size (fun k hk => by cases hk; exact hwg3); have hra11 := Rd.of_own ((hoa8.below hS10).grown hg11 (.inr (ne_blk g g3 _ _ _ _ hgg))); have hrn11 := Rd.of_own ((hon8.below hS10).grown hg11 (apart_blk hblk7 (by omega)))) | (go_at_call 8; refine (stays_n _ _ c1 (xorL 21 xs0 ++ marksL) (by rw [len_marks, xorL_len]) a7 _ c7 (xorL 21 xs0) HXL.out _ (by first | exact hra10 | exact hra11) (by first | exact hrn10 | exact hrn11) (by omega) rfl).mono ?_; rintro e w12 ⟨rfl, hw12⟩; have hw12' := hw12.symm; subst hw12')
      go_wp2_with fail
      refine hK.out _ _ (by first | exact hbw8.drew | assumption) ?_
      clear hK K
      intro hHeld2
      clear hHeld
      have hHeld := hHeld2
      clear hHeld2
      try simp only [Act.put, List.setIfInBounds_toArray, List.set_cons_zero, List.set_cons_succ]
      refine take_at (i := 25) 63 (v := ?_) rfl rfl (by kernel_rfl) (by kernel_rfl) (by kernel_rfl) (fun _ _ _ h => h) (by rfl) ?_ hHeld ?_
      rotate_left
      · (intro w hSw; (try dsimp only at hSw); go_simp; try with_reducible rfl)
      simp only [Act.put, List.setIfInBounds_toArray, List.set_cons_zero, List.set_cons_succ]
      refine take_at (i := 26) 4 (v := ?_) rfl rfl (by kernel_rfl) (by kernel_rfl) (by kernel_rfl) (fun _ _ _ h => h) (by rfl) ?_ hHeld ?_
      rotate_left
      · (intro w hSw; (try dsimp only at hSw); go_simp; try with_reducible rfl)
      simp only [Act.put, List.setIfInBounds_toArray, List.set_cons_zero, List.set_cons_succ]
      refine wpAnyH_done (by kernel_rfl) ?_ _
      refine NoPanic.normal ?_
  all_goals
    go_wp2
    go_ret
    exact ⟨rfl, hW11⟩
end Go.Proofs.Ytinphflminaijaa
