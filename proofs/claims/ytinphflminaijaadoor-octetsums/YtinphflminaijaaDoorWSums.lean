import Derived.Test.YtinphflminaijaaDoorSeal
import Derived.Test.YtinphflminaijaaDoorConv
import Derived.Test.YtinphflminaijaaDoorRegn
import Derived.Test.YtinphflminaijaaDoorOpen
namespace Go.Proofs.YtinphflminaijaaDoor
set_option linter.unusedVariables false
set_option linter.unusedSimpArgs false
open Go.RowKit
theorem Rd.of_own {w : World} {B : Nat} {ao : Option Addr} {n cap : Nat} {xs : List UInt8} (h : Own w B (.slice ao n cap) xs) : Rd w ao xs := by
  obtain ⟨a, c, hv, -, -, -, hr, -⟩ := h.val
  simp only [Value.slice.injEq] at hv
  rw [hv.1]
  exact hr
theorem ne_blk (g g' n c n' c' : Nat) (h : g ≠ g') : Value.ownBlock (.slice (some ⟨g, 0, none⟩) n c) ≠ Value.ownBlock (.slice (some ⟨g', 0, none⟩) n' c') := by
  simp [Value.ownBlock]; exact h
theorem apart_blk {a : Option Addr} {n c g n' c' B z : Nat} (h : ∀ q, a = some q → B ≤ q.block ∧ q.block < z) (hg : g < B) : Value.ownBlock (.slice a n c) = none ∨ Value.ownBlock (.slice a n c) ≠ Value.ownBlock (.slice (some ⟨g, 0, none⟩) n' c') := by
  rcases a with _ | q
  · exact .inl rfl
  · right
    have := h q rfl
    simp [Value.ownBlock]
    omega
theorem len_seal (xs ys : List UInt8) : (xs ++ sealL ys).length = xs.length + 4 := by simp [sealL]
theorem len_marks (xs : List UInt8) : (xs ++ marksL).length = xs.length + 8 := by simp [marksL]
set_option maxRecDepth 20000 in
set_option maxHeartbeats 3200000 in
theorem octetSums_walk (a0 : Option Addr) (cap0 : Nat) (xs0 : List UInt8) (w : World) (hr0 : Rd w a0 xs0) (hl0 : xs0.length ≤ cap0) (hc0 : cap0 ≤ 140737488351232) (hn0 : a0 = none → cap0 = 0) (ht : TabOk w) :
    Calls Tryd.prog 6 #[.slice a0 xs0.length cap0] w fun e w' => e = .returned (.bool true) ∧ Below w.heap.size w w' := by
  have HN : Hid (a0 = none → cap0 = 0) := hn0
  clear hn0
  have hl1 : xs0.length ≤ 140737488351232 := by omega
  clear hc0
  go_enter Tryd.func6, Tryd.ntmps6
  go_wp2_with fail
  refine (lent_any a0 cap0 xs0 w hr0 HN.out (by omega)).mono ?_
  rintro e w1 ⟨v1, rfl, hown1, hb1⟩
  have hm8 : (xs0 ++ marksL).length = xs0.length + 8 := by simp [marksL]
  obtain ⟨g, c1, rfl, hlc1, -, hgB, hgl⟩ := own_head hown1 (by omega)
  rw [hm8] at hlc1 hown1 ⊢
  have hra : Rd w1 (some ⟨g, 0, none⟩) xs0 := by
    have h := (Rd.of_own hown1).take xs0.length
    rwa [List.take_left' rfl] at h
  have hc1 : (xs0.length : Int) ≤ (c1 : Int) := by omega
  have ht1 := ht.below hb1
  clear hm8
  go_wp2_with fail
  refine (crc_any' _ c1 xs0 w1 hra (by omega) ht1).mono ?_
  rintro e w2 ⟨rfl, hw2⟩
  subst hw2
  go_wp2_with fail
  refine (seal_any _ c1 xs0 w2 hra (fun h => by cases h) (by omega) ht1).mono ?_
  rintro e w3 ⟨v3, rfl, hown3, hb3⟩
  have hsl : (xs0 ++ sealL xs0).length = xs0.length + 4 := by simp [sealL]
  obtain ⟨g3, c3, rfl, hlc3, -, hg3B, hg3l⟩ := own_head hown3 (by omega)
  rw [hsl] at hlc3 hown3 ⊢
  clear hsl
  have hb13 : Below w.heap.size w w3 := hb1.trans (hb3.mono hb1.size)
  have hcs := fun (u : World) (hu : Below w3.heap.size w3 u) => conv_rd ((Rd.of_own hown3).below hu) (xs0.length + 4) c3 (by simp [sealL])
  have hoa3 := hown1.below hb3
  have hra3 : Rd w3 a0 xs0 := hr0.below hb13
  go_wp2_with fail
  refine wp_region_noPanic ?_
  refine wp_region_held_drew (S := (fun u => Below w3.heap.size w3 u)) (by kernel_rfl) (by first | exact (Below.refl _ _).drew | assumption) (fun hHeld => ?_)
  refine take_at (i := 0) 19 (v := ?_) rfl rfl (by kernel_rfl) (by kernel_rfl) (by kernel_rfl) (fun _ _ _ h => h) (by rfl) ?_ hHeld ?_
  rotate_left
  · (intro w hSw; (try dsimp only at hSw); go_simp; try with_reducible rfl)
  simp only [Act.put, List.setIfInBounds_toArray, List.set_cons_zero, List.set_cons_succ]
  refine take_at (i := 1) 20 (v := ?_) rfl rfl (by kernel_rfl) (by kernel_rfl) (by kernel_rfl) (fun _ _ _ h => h) (by rfl) ?_ hHeld ?_
  rotate_left
  · (intro w hSw; (try dsimp only at hSw); go_simp; try with_reducible rfl)
  simp only [Act.put, List.setIfInBounds_toArray, List.set_cons_zero, List.set_cons_succ]
  refine run_at (i := 2) rfl (by kernel_rfl) (by rfl) (fun K hK => ?_)
  simp only [List.getElem_toArray, List.getElem_cons_zero, List.getElem_cons_succ]
  go_simp
  first | (go_at_call 15; refine (refCRC_any a0 cap0 xs0 _ (hra3.below (by first | exact (Below.refl _ _).drew | assumption)) (by omega)).mono ?_; rintro e w4 ⟨rfl, rfl⟩) | (go_at_call 16; refine (refSeal_any a0 cap0 xs0 _ (hra3.below (by first | exact (Below.refl _ _).drew | assumption)) HN.out (by omega)).mono ?_; rintro e w5 ⟨v5, rfl, hown5, hb5⟩; have hS5 := below_next (B := w3) (by first | exact (Below.refl _ _).drew | assumption) hb5; obtain ⟨a5, c5, hv5, -, -, -, hr5, -⟩ := hown5.val; have hcv5 := conv_rd hr5 _ c5 rfl; rw [len_seal] at hv5 hcv5; clear hb5 hown5; subst hv5) | (go_at_call 17; refine (stays_n _ _ c1 (xs0 ++ marksL) (len_marks _).symm a0 _ cap0 xs0 rfl w5 ((Rd.of_own hoa3).below hS5) (hra3.below hS5) (by omega) rfl).mono ?_; rintro e w6 ⟨rfl, rfl⟩)
  go_wp2_with fail
  refine hK.out _ _ (by first | exact (Below.refl _ _).drew | assumption) ?_
  clear hK K
  intro hHeld2
  clear hHeld
  have hHeld := hHeld2
  clear hHeld2
  try simp only [Act.put, List.setIfInBounds_toArray, List.set_cons_zero, List.set_cons_succ]
  refine take_at (i := 3) 22 (v := ?_) rfl rfl (by kernel_rfl) (by kernel_rfl) (by kernel_rfl) (fun _ _ _ h => h) (by rfl) ?_ hHeld ?_
  rotate_left
  · (intro w hSw; (try dsimp only at hSw); go_simp; try with_reducible rfl)
  simp only [Act.put, List.setIfInBounds_toArray, List.set_cons_zero, List.set_cons_succ]
  refine take_at (i := 4) 23 (v := ?_) rfl rfl (by kernel_rfl) (by kernel_rfl) (by kernel_rfl) (fun _ _ _ h => h) (by rfl) ?_ hHeld ?_
  rotate_left
  · (intro w hSw; (try dsimp only at hSw); go_simp; try with_reducible rfl)
  simp only [Act.put, List.setIfInBounds_toArray, List.set_cons_zero, List.set_cons_succ]
  refine take_at (i := 5) 24 (v := ?_) rfl rfl (by kernel_rfl) (by kernel_rfl) (by kernel_rfl) (fun _ _ _ h => h) (by rfl) ?_ hHeld ?_
  rotate_left
  · (intro w hSw; (try dsimp only at hSw); go_simp; try with_reducible rfl)
  simp only [Act.put, List.setIfInBounds_toArray, List.set_cons_zero, List.set_cons_succ]
  refine take_at (i := 6) 25 (v := ?_) rfl rfl (by kernel_rfl) (by kernel_rfl) (by kernel_rfl) (fun _ _ _ h => h) (by rfl) ?_ hHeld ?_
  rotate_left
  · (intro w hSw; (try dsimp only at hSw); go_simp; try with_reducible rfl)
  simp only [Act.put, List.setIfInBounds_toArray, List.set_cons_zero, List.set_cons_succ]
  refine take_at (i := 7) 26 (v := ?_) rfl rfl (by kernel_rfl) (by kernel_rfl) (by kernel_rfl) (fun _ _ _ h => h) (by rfl) ?_ hHeld ?_
  rotate_left
  · (intro w hSw; (try dsimp only at hSw); go_simp; try with_reducible rfl)
  simp only [Act.put, List.setIfInBounds_toArray, List.set_cons_zero, List.set_cons_succ]
  refine run_at (i := 8) rfl (by kernel_rfl) (by rfl) (fun K hK => ?_)
  simp only [List.getElem_toArray, List.getElem_cons_zero, List.getElem_cons_succ]
  go_simp
  first | (go_at_call 15; refine (refCRC_any a0 cap0 xs0 _ (hra3.below (by first | exact (Below.refl _ _).drew | assumption)) (by omega)).mono ?_; rintro e w4 ⟨rfl, rfl⟩) | (go_at_call 16; refine (refSeal_any a0 cap0 xs0 _ (hra3.below (by first | exact (Below.refl _ _).drew | assumption)) HN.out (by omega)).mono ?_; rintro e w5 ⟨v5, rfl, hown5, hb5⟩; have hS5 := below_next (B := w3) (by first | exact (Below.refl _ _).drew | assumption) hb5; obtain ⟨a5, c5, hv5, -, -, -, hr5, -⟩ := hown5.val; have hcv5 := conv_rd hr5 _ c5 rfl; rw [len_seal] at hv5 hcv5; clear hb5 hown5; subst hv5) | (go_at_call 17; refine (stays_n _ _ c1 (xs0 ++ marksL) (len_marks _).symm a0 _ cap0 xs0 rfl w5 ((Rd.of_own hoa3).below hS5) (hra3.below hS5) (by omega) rfl).mono ?_; rintro e w6 ⟨rfl, rfl⟩)
  go_wp2_with fail
  refine hK.out _ _ (by first | exact (Below.refl _ _).drew | assumption) ?_
  clear hK K
  intro hHeld2
  clear hHeld
  have hHeld := hHeld2
  clear hHeld2
  try simp only [Act.put, List.setIfInBounds_toArray, List.set_cons_zero, List.set_cons_succ]
  refine val_at (i := 9) 28 (v := ?_) rfl rfl (by kernel_rfl) (by rfl) ?_ ?_ ?_
  rotate_left
  · (go_simp; try with_reducible rfl)
  · (first | exact (Below.refl _ _).drew | assumption)
  intro hHeld2
  clear hHeld
  have hHeld := hHeld2
  clear hHeld2
  simp only [Act.put, List.setIfInBounds_toArray, List.set_cons_zero, List.set_cons_succ]
  refine take_at (i := 10) 29 (v := ?_) rfl rfl (by kernel_rfl) (by kernel_rfl) (by kernel_rfl) (fun _ _ _ h => h) (by rfl) ?_ hHeld ?_
  rotate_left
  · (intro w hSw; (try dsimp only at hSw); go_simp; try with_reducible rfl)
  simp only [Act.put, List.setIfInBounds_toArray, List.set_cons_zero, List.set_cons_succ]
  refine take_at (i := 11) 30 (v := ?_) rfl rfl (by kernel_rfl) (by kernel_rfl) (by kernel_rfl) (fun _ _ _ h => h) (by rfl) ?_ hHeld ?_
  rotate_left
  · (intro w hSw; (try dsimp only at hSw); go_simp; try with_reducible rfl)
  simp only [Act.put, List.setIfInBounds_toArray, List.set_cons_zero, List.set_cons_succ]
  refine take_at (i := 12) 31 (v := ?_) rfl rfl (by kernel_rfl) (by kernel_rfl) (by kernel_rfl) (fun _ _ _ h => h) (by rfl) ?_ hHeld ?_
  rotate_left
  · (intro w hSw; (try dsimp only at hSw); go_simp; try with_reducible rfl)
  simp only [Act.put, List.setIfInBounds_toArray, List.set_cons_zero, List.set_cons_succ]
  refine take_at (i := 13) 32 (v := ?_) rfl rfl (by kernel_rfl) (by kernel_rfl) (by kernel_rfl) (fun _ _ _ h => h) (by rfl) ?_ hHeld ?_
  rotate_left
  · (intro w hSw; (try dsimp only at hSw); go_simp; try with_reducible rfl)
  simp only [Act.put, List.setIfInBounds_toArray, List.set_cons_zero, List.set_cons_succ]
  refine take_at (i := 14) 33 (v := ?_) rfl rfl (by kernel_rfl) (by kernel_rfl) (by kernel_rfl) (fun _ _ _ h => h) (by rfl) ?_ hHeld ?_
  rotate_left
  · (intro w hSw; (try dsimp only at hSw); go_simp; try with_reducible rfl)
  simp only [Act.put, List.setIfInBounds_toArray, List.set_cons_zero, List.set_cons_succ]
  refine run_at (i := 15) rfl (by kernel_rfl) (by rfl) (fun K hK => ?_)
  simp only [List.getElem_toArray, List.getElem_cons_zero, List.getElem_cons_succ]
  go_simp
  first | (go_at_call 15; refine (refCRC_any a0 cap0 xs0 _ (hra3.below (by first | exact (Below.refl _ _).drew | assumption)) (by omega)).mono ?_; rintro e w4 ⟨rfl, rfl⟩) | (go_at_call 16; refine (refSeal_any a0 cap0 xs0 _ (hra3.below (by first | exact (Below.refl _ _).drew | assumption)) HN.out (by omega)).mono ?_; rintro e w5 ⟨v5, rfl, hown5, hb5⟩; have hS5 := below_next (B := w3) (by first | exact (Below.refl _ _).drew | assumption) hb5; obtain ⟨a5, c5, hv5, -, -, -, hr5, -⟩ := hown5.val; have hcv5 := conv_rd hr5 _ c5 rfl; rw [len_seal] at hv5 hcv5; clear hb5 hown5; subst hv5) | (go_at_call 17; refine (stays_n _ _ c1 (xs0 ++ marksL) (len_marks _).symm a0 _ cap0 xs0 rfl w5 ((Rd.of_own hoa3).below hS5) (hra3.below hS5) (by omega) rfl).mono ?_; rintro e w6 ⟨rfl, rfl⟩)
  go_wp2_with fail
  refine hK.out _ _ (by first | exact (Below.refl _ _).drew | assumption) ?_
  clear hK K
  intro hHeld2
  clear hHeld
  have hHeld := hHeld2
  clear hHeld2
  try simp only [Act.put, List.setIfInBounds_toArray, List.set_cons_zero, List.set_cons_succ]
  refine take_at (i := 16) 35 (v := ?_) rfl rfl (by kernel_rfl) (by kernel_rfl) (by kernel_rfl) (fun _ _ _ h => h) (by rfl) ?_ hHeld ?_
  rotate_left
  · (intro w hSw; (try dsimp only at hSw); go_simp; try with_reducible rfl)
  simp only [Act.put, List.setIfInBounds_toArray, List.set_cons_zero, List.set_cons_succ]
  refine take_at (i := 17) 36 (v := ?_) rfl rfl (by kernel_rfl) (by kernel_rfl) (by kernel_rfl) (fun _ _ _ h => h) (by rfl) ?_ hHeld ?_
  rotate_left
  · (intro w hSw; (try dsimp only at hSw); go_simp; try with_reducible rfl)
  simp only [Act.put, List.setIfInBounds_toArray, List.set_cons_zero, List.set_cons_succ]
  refine wpAnyH_done (by kernel_rfl) ?_ _
  refine NoPanic.normal ?_
  have hbw5 : Below w.heap.size w w6 := hb13.trans (hS5.mono hb13.size)
  have ho5 := hoa3.below hS5
  have hos5 := hown3.below hS5
  have hgg : g ≠ g3 := by omega
  have hwg3 : w.heap.size ≤ g3 := by have := hb1.size; omega
  have hz35 := hS5.size
  clear hcs hoa3 hown1 hown3 hra hcv5 hr5 hra3
  go_wp2_with fail
  refine (turned_any _ g c1 xs0 w6 ho5 (by omega) hlc1).mono ?_
  rintro e w7 ⟨v7, rfl, hown7, hoa7, hg7⟩
  have hbw7 : Below w.heap.size w w7 := hbw5.grown hg7 hbw5.size (fun k hk => by cases hk; exact hgB)
  have hos7 := hos5.grown hg7 (by simp [Value.ownBlock]; exact fun h => hgg h.symm)
  obtain ⟨a7, c7, hv7, hlc7, -, hn7, hr7, hblk7⟩ := hown7.val
  rw [xorL_len] at hv7 hlc7
  subst hv7
  have HN7 : Hid (a7 = none → c7 = 0) := hn7
  have hcs : ∀ u, Below w7.heap.size w7 u → (convert 22 9 (.slice (some ⟨g3, 0, none⟩) (xs0.length + 4) c3)).run Tryd.prog u = .ok (.string ⟨(xs0 ++ sealL xs0).toArray⟩) u := fun u hu => conv_rd ((Rd.of_own hos7).below hu) (xs0.length + 4) c3 (len_seal _ _).symm
  have hb7d : Below w7.heap.size w7 w7.drew := (Below.refl _ _).drew
  have hr07 := hr0.below hbw7
  have ht7 := ht.below hbw7
  have hz7 := hg7.size
  clear hn7 hg7 hos5 ho5
  go_wp2_with fail
  refine wp_region_noPanic ?_
  refine wp_region_held_drew (S := (fun u => Below w.heap.size w u)) (by kernel_rfl) (by first | exact hbw7.drew | assumption) (fun hHeld => ?_)
  refine take_at (i := 0) 39 (v := ?_) rfl rfl (by kernel_rfl) (by kernel_rfl) (by kernel_rfl) (fun _ _ _ h => h) (by rfl) ?_ hHeld ?_
  rotate_left
  · (intro w hSw; (try dsimp only at hSw); go_simp; try with_reducible rfl)
  simp only [Act.put, List.setIfInBounds_toArray, List.set_cons_zero, List.set_cons_succ]
  refine take_at (i := 2) 41 (v := ?_) rfl rfl (by kernel_rfl) (by kernel_rfl) (by kernel_rfl) (fun _ _ _ h => h) (by rfl) ?_ hHeld ?_
  rotate_left
  · (intro w hSw; (try dsimp only at hSw); go_simp; try with_reducible rfl)
  simp only [Act.put, List.setIfInBounds_toArray, List.set_cons_zero, List.set_cons_succ]
  refine wpAnyH_ready (rs := [1, 3]) (by kernel_rfl) (by simp) ?_
  refine AllReadyH.cons (o := _) rfl (fun K hK => ?_) ?_
  focus
    rw [if_pos (by rfl)]
    refine val_wp 40 (v := ?_) rfl ?_ ?_
    rotate_left
    · (go_simp; try with_reducible rfl)
    refine hK.out _ _ (by first | exact hbw7.drew | assumption) ?_
    clear hK K
    intro hHeld2
    clear hHeld
    have hHeld := hHeld2
    clear hHeld2
    simp only [Act.put, List.setIfInBounds_toArray, List.set_cons_zero, List.set_cons_succ]
    refine run_at (i := 3) rfl (by kernel_rfl) (by rfl) (fun K hK => ?_)
    simp only [List.getElem_toArray, List.getElem_cons_zero, List.getElem_cons_succ]
    go_simp
    first | (go_at_call 16; refine (refSeal_any a0 cap0 xs0 w7.drew (hr07.below hb7d) HN.out (by omega)).mono ?_; rintro e w8 ⟨v8, rfl, hown8, hb8⟩; have hS8 := below_next hb7d hb8; have hW8 : Below w.heap.size w w8 := hbw7.trans (hS8.mono hbw7.size); obtain ⟨a8, c8, hv8, -, -, -, hr8, -⟩ := hown8.val; have hcv8 := conv_rd hr8 _ c8 rfl; rw [len_seal] at hv8 hcv8; clear hb8 hown8; subst hv8) | (go_at_call 19; refine (spoils_n _ _ _ c3 (xs0 ++ sealL xs0) (len_seal _ _).symm w8 ((hos7.below hS8).base (Nat.zero_le _)) (by omega) (Nat.zero_le _)).mono ?_; rintro e w9 ⟨rfl, hg9⟩; have hW9 : Below w.heap.size w w9 := hW8.grown hg9 hW8.size (fun k hk => by cases hk; exact hwg3); have hoa9 := (hoa7.below hS8).grown hg9 (.inr (ne_blk g g3 _ _ _ _ hgg)); have hon9 := (hown7.below hS8).grown hg9 (apart_blk hblk7 (by omega))) | (go_at_call 17; refine (stays_n _ _ c1 (xorL 21 xs0 ++ marksL) (by rw [len_marks, xorL_len]) a7 _ c7 (xorL 21 xs0) (xorL_len _ _).symm w9 (Rd.of_own hoa9) (Rd.of_own hon9) (by omega) rfl).mono ?_; rintro e w10 ⟨rfl, rfl⟩)
    go_wp2_with fail
    refine hK.out _ _ (by first | exact hbw7.drew | assumption) ?_
    clear hK K
    intro hHeld2
    clear hHeld
    have hHeld := hHeld2
    clear hHeld2
    try simp only [Act.put, List.setIfInBounds_toArray, List.set_cons_zero, List.set_cons_succ]
    refine val_at (i := 4) 43 (v := ?_) rfl rfl (by kernel_rfl) (by rfl) ?_ ?_ ?_
    rotate_left
    · (go_simp; try with_reducible rfl)
    · (first | exact hbw7.drew | assumption)
    intro hHeld2
    clear hHeld
    have hHeld := hHeld2
    clear hHeld2
    simp only [Act.put, List.setIfInBounds_toArray, List.set_cons_zero, List.set_cons_succ]
    refine take_at (i := 5) 44 (v := ?_) rfl rfl (by kernel_rfl) (by kernel_rfl) (by kernel_rfl) (fun _ _ _ h => h) (by rfl) ?_ hHeld ?_
    rotate_left
    · (intro w hSw; (try dsimp only at hSw); go_simp; try with_reducible rfl)
    simp only [Act.put, List.setIfInBounds_toArray, List.set_cons_zero, List.set_cons_succ]
    refine take_at (i := 6) 45 (v := ?_) rfl rfl (by kernel_rfl) (by kernel_rfl) (by kernel_rfl) (fun _ _ _ h => h) (by rfl) ?_ hHeld ?_
    rotate_left
    · (intro w hSw; (try dsimp only at hSw); go_simp; try with_reducible rfl)
    simp only [Act.put, List.setIfInBounds_toArray, List.set_cons_zero, List.set_cons_succ]
    refine take_at (i := 7) 46 (v := ?_) rfl rfl (by kernel_rfl) (by kernel_rfl) (by kernel_rfl) (fun _ _ _ h => h) (by rfl) ?_ hHeld ?_
    rotate_left
    · (intro w hSw; (try dsimp only at hSw); go_simp; try with_reducible rfl)
    simp only [Act.put, List.setIfInBounds_toArray, List.set_cons_zero, List.set_cons_succ]
    refine run_at (i := 8) rfl (by kernel_rfl) (by rfl) (fun K hK => ?_)
    simp only [List.getElem_toArray, List.getElem_cons_zero, List.getElem_cons_succ]
    go_simp
    first | (go_at_call 16; refine (refSeal_any a0 cap0 xs0 w7.drew (hr07.below hb7d) HN.out (by omega)).mono ?_; rintro e w8 ⟨v8, rfl, hown8, hb8⟩; have hS8 := below_next hb7d hb8; have hW8 : Below w.heap.size w w8 := hbw7.trans (hS8.mono hbw7.size); obtain ⟨a8, c8, hv8, -, -, -, hr8, -⟩ := hown8.val; have hcv8 := conv_rd hr8 _ c8 rfl; rw [len_seal] at hv8 hcv8; clear hb8 hown8; subst hv8) | (go_at_call 19; refine (spoils_n _ _ _ c3 (xs0 ++ sealL xs0) (len_seal _ _).symm w8 ((hos7.below hS8).base (Nat.zero_le _)) (by omega) (Nat.zero_le _)).mono ?_; rintro e w9 ⟨rfl, hg9⟩; have hW9 : Below w.heap.size w w9 := hW8.grown hg9 hW8.size (fun k hk => by cases hk; exact hwg3); have hoa9 := (hoa7.below hS8).grown hg9 (.inr (ne_blk g g3 _ _ _ _ hgg)); have hon9 := (hown7.below hS8).grown hg9 (apart_blk hblk7 (by omega))) | (go_at_call 17; refine (stays_n _ _ c1 (xorL 21 xs0 ++ marksL) (by rw [len_marks, xorL_len]) a7 _ c7 (xorL 21 xs0) (xorL_len _ _).symm w9 (Rd.of_own hoa9) (Rd.of_own hon9) (by omega) rfl).mono ?_; rintro e w10 ⟨rfl, rfl⟩)
    go_wp2_with fail
    refine hK.out _ _ (by first | exact hbw7.drew | assumption) ?_
    clear hK K
    intro hHeld2
    clear hHeld
    have hHeld := hHeld2
    clear hHeld2
    try simp only [Act.put, List.setIfInBounds_toArray, List.set_cons_zero, List.set_cons_succ]
    refine take_at (i := 9) 48 (v := ?_) rfl rfl (by kernel_rfl) (by kernel_rfl) (by kernel_rfl) (fun _ _ _ h => h) (by rfl) ?_ hHeld ?_
    rotate_left
    · (intro w hSw; (try dsimp only at hSw); go_simp; try with_reducible rfl)
    simp only [Act.put, List.setIfInBounds_toArray, List.set_cons_zero, List.set_cons_succ]
    refine take_at (i := 10) 49 (v := ?_) rfl rfl (by kernel_rfl) (by kernel_rfl) (by kernel_rfl) (fun _ _ _ h => h) (by rfl) ?_ hHeld ?_
    rotate_left
    · (intro w hSw; (try dsimp only at hSw); go_simp; try with_reducible rfl)
    simp only [Act.put, List.setIfInBounds_toArray, List.set_cons_zero, List.set_cons_succ]
    refine take_at (i := 11) 50 (v := ?_) rfl rfl (by kernel_rfl) (by kernel_rfl) (by kernel_rfl) (fun _ _ _ h => h) (by rfl) ?_ hHeld ?_
    rotate_left
    · (intro w hSw; (try dsimp only at hSw); go_simp; try with_reducible rfl)
    simp only [Act.put, List.setIfInBounds_toArray, List.set_cons_zero, List.set_cons_succ]
    refine take_at (i := 12) 51 (v := ?_) rfl rfl (by kernel_rfl) (by kernel_rfl) (by kernel_rfl) (fun _ _ _ h => h) (by rfl) ?_ hHeld ?_
    rotate_left
    · (intro w hSw; (try dsimp only at hSw); go_simp; try with_reducible rfl)
    simp only [Act.put, List.setIfInBounds_toArray, List.set_cons_zero, List.set_cons_succ]
    refine take_at (i := 13) 52 (v := ?_) rfl rfl (by kernel_rfl) (by kernel_rfl) (by kernel_rfl) (fun _ _ _ h => h) (by rfl) ?_ hHeld ?_
    rotate_left
    · (intro w hSw; (try dsimp only at hSw); go_simp; try with_reducible rfl)
    simp only [Act.put, List.setIfInBounds_toArray, List.set_cons_zero, List.set_cons_succ]
    refine run_at (i := 14) rfl (by kernel_rfl) (by rfl) (fun K hK => ?_)
    simp only [List.getElem_toArray, List.getElem_cons_zero, List.getElem_cons_succ]
    go_simp
    first | (go_at_call 16; refine (refSeal_any a0 cap0 xs0 w7.drew (hr07.below hb7d) HN.out (by omega)).mono ?_; rintro e w8 ⟨v8, rfl, hown8, hb8⟩; have hS8 := below_next hb7d hb8; have hW8 : Below w.heap.size w w8 := hbw7.trans (hS8.mono hbw7.size); obtain ⟨a8, c8, hv8, -, -, -, hr8, -⟩ := hown8.val; have hcv8 := conv_rd hr8 _ c8 rfl; rw [len_seal] at hv8 hcv8; clear hb8 hown8; subst hv8) | (go_at_call 19; refine (spoils_n _ _ _ c3 (xs0 ++ sealL xs0) (len_seal _ _).symm w8 ((hos7.below hS8).base (Nat.zero_le _)) (by omega) (Nat.zero_le _)).mono ?_; rintro e w9 ⟨rfl, hg9⟩; have hW9 : Below w.heap.size w w9 := hW8.grown hg9 hW8.size (fun k hk => by cases hk; exact hwg3); have hoa9 := (hoa7.below hS8).grown hg9 (.inr (ne_blk g g3 _ _ _ _ hgg)); have hon9 := (hown7.below hS8).grown hg9 (apart_blk hblk7 (by omega))) | (go_at_call 17; refine (stays_n _ _ c1 (xorL 21 xs0 ++ marksL) (by rw [len_marks, xorL_len]) a7 _ c7 (xorL 21 xs0) (xorL_len _ _).symm w9 (Rd.of_own hoa9) (Rd.of_own hon9) (by omega) rfl).mono ?_; rintro e w10 ⟨rfl, rfl⟩)
    go_wp2_with fail
    refine hK.out _ _ (by first | exact hbw7.drew | assumption) ?_
    clear hK K
    intro hHeld2
    clear hHeld
    have hHeld := hHeld2
    clear hHeld2
    try simp only [Act.put, List.setIfInBounds_toArray, List.set_cons_zero, List.set_cons_succ]
    refine take_at (i := 15) 54 (v := ?_) rfl rfl (by kernel_rfl) (by kernel_rfl) (by kernel_rfl) (fun _ _ _ h => h) (by rfl) ?_ hHeld ?_
    rotate_left
    · (intro w hSw; (try dsimp only at hSw); go_simp; try with_reducible rfl)
    simp only [Act.put, List.setIfInBounds_toArray, List.set_cons_zero, List.set_cons_succ]
    refine take_at (i := 16) 55 (v := ?_) rfl rfl (by kernel_rfl) (by kernel_rfl) (by kernel_rfl) (fun _ _ _ h => h) (by rfl) ?_ hHeld ?_
    rotate_left
    · (intro w hSw; (try dsimp only at hSw); go_simp; try with_reducible rfl)
    simp only [Act.put, List.setIfInBounds_toArray, List.set_cons_zero, List.set_cons_succ]
    refine wpAnyH_done (by kernel_rfl) ?_ _
    refine NoPanic.normal ?_
  rotate_left 1
  refine AllReadyH.cons (o := _) rfl (fun K hK => ?_) AllReadyH.nil
  focus
    rw [if_pos (by rfl)]
    simp only [List.getElem_toArray, List.getElem_cons_zero, List.getElem_cons_succ]
    go_simp
    first | (go_at_call 16; refine (refSeal_any a0 cap0 xs0 w7.drew (hr07.below hb7d) HN.out (by omega)).mono ?_; rintro e w8 ⟨v8, rfl, hown8, hb8⟩; have hS8 := below_next hb7d hb8; have hW8 : Below w.heap.size w w8 := hbw7.trans (hS8.mono hbw7.size); obtain ⟨a8, c8, hv8, -, -, -, hr8, -⟩ := hown8.val; have hcv8 := conv_rd hr8 _ c8 rfl; rw [len_seal] at hv8 hcv8; clear hb8 hown8; subst hv8) | (go_at_call 19; refine (spoils_n _ _ _ c3 (xs0 ++ sealL xs0) (len_seal _ _).symm w8 ((hos7.below hS8).base (Nat.zero_le _)) (by omega) (Nat.zero_le _)).mono ?_; rintro e w9 ⟨rfl, hg9⟩; have hW9 : Below w.heap.size w w9 := hW8.grown hg9 hW8.size (fun k hk => by cases hk; exact hwg3); have hoa9 := (hoa7.below hS8).grown hg9 (.inr (ne_blk g g3 _ _ _ _ hgg)); have hon9 := (hown7.below hS8).grown hg9 (apart_blk hblk7 (by omega))) | (go_at_call 17; refine (stays_n _ _ c1 (xorL 21 xs0 ++ marksL) (by rw [len_marks, xorL_len]) a7 _ c7 (xorL 21 xs0) (xorL_len _ _).symm w9 (Rd.of_own hoa9) (Rd.of_own hon9) (by omega) rfl).mono ?_; rintro e w10 ⟨rfl, rfl⟩)
    go_wp2_with fail
    refine hK.out _ _ (by first | exact hbw7.drew | assumption) ?_
    clear hK K
    intro hHeld2
    clear hHeld
    have hHeld := hHeld2
    clear hHeld2
    try simp only [Act.put, List.setIfInBounds_toArray, List.set_cons_zero, List.set_cons_succ]
    refine wpAnyH_ready (rs := [1, 4]) (by kernel_rfl) (by simp) ?_
    refine AllReadyH.cons (o := _) rfl (fun K hK => ?_) ?_
    focus
      rw [if_pos (by rfl)]
      refine val_wp 40 (v := ?_) rfl ?_ ?_
      rotate_left
      · (go_simp; try with_reducible rfl)
      refine hK.out _ _ (by first | exact hbw7.drew | assumption) ?_
      clear hK K
      intro hHeld2
      clear hHeld
      have hHeld := hHeld2
      clear hHeld2
      simp only [Act.put, List.setIfInBounds_toArray, List.set_cons_zero, List.set_cons_succ]
      refine val_at (i := 4) 43 (v := ?_) rfl rfl (by kernel_rfl) (by rfl) ?_ ?_ ?_
      rotate_left
      · (go_simp; try with_reducible rfl)
      · (first | exact hbw7.drew | assumption)
      intro hHeld2
      clear hHeld
      have hHeld := hHeld2
      clear hHeld2
      simp only [Act.put, List.setIfInBounds_toArray, List.set_cons_zero, List.set_cons_succ]
      refine take_at (i := 5) 44 (v := ?_) rfl rfl (by kernel_rfl) (by kernel_rfl) (by kernel_rfl) (fun _ _ _ h => h) (by rfl) ?_ hHeld ?_
      rotate_left
      · (intro w hSw; (try dsimp only at hSw); go_simp; try with_reducible rfl)
      simp only [Act.put, List.setIfInBounds_toArray, List.set_cons_zero, List.set_cons_succ]
      refine take_at (i := 6) 45 (v := ?_) rfl rfl (by kernel_rfl) (by kernel_rfl) (by kernel_rfl) (fun _ _ _ h => h) (by rfl) ?_ hHeld ?_
      rotate_left
      · (intro w hSw; (try dsimp only at hSw); go_simp; try with_reducible rfl)
      simp only [Act.put, List.setIfInBounds_toArray, List.set_cons_zero, List.set_cons_succ]
      refine take_at (i := 7) 46 (v := ?_) rfl rfl (by kernel_rfl) (by kernel_rfl) (by kernel_rfl) (fun _ _ _ h => h) (by rfl) ?_ hHeld ?_
      rotate_left
      · (intro w hSw; (try dsimp only at hSw); go_simp; try with_reducible rfl)
      simp only [Act.put, List.setIfInBounds_toArray, List.set_cons_zero, List.set_cons_succ]
      refine run_at (i := 8) rfl (by kernel_rfl) (by rfl) (fun K hK => ?_)
      simp only [List.getElem_toArray, List.getElem_cons_zero, List.getElem_cons_succ]
      go_simp
      first | (go_at_call 16; refine (refSeal_any a0 cap0 xs0 w7.drew (hr07.below hb7d) HN.out (by omega)).mono ?_; rintro e w8 ⟨v8, rfl, hown8, hb8⟩; have hS8 := below_next hb7d hb8; have hW8 : Below w.heap.size w w8 := hbw7.trans (hS8.mono hbw7.size); obtain ⟨a8, c8, hv8, -, -, -, hr8, -⟩ := hown8.val; have hcv8 := conv_rd hr8 _ c8 rfl; rw [len_seal] at hv8 hcv8; clear hb8 hown8; subst hv8) | (go_at_call 19; refine (spoils_n _ _ _ c3 (xs0 ++ sealL xs0) (len_seal _ _).symm w8 ((hos7.below hS8).base (Nat.zero_le _)) (by omega) (Nat.zero_le _)).mono ?_; rintro e w9 ⟨rfl, hg9⟩; have hW9 : Below w.heap.size w w9 := hW8.grown hg9 hW8.size (fun k hk => by cases hk; exact hwg3); have hoa9 := (hoa7.below hS8).grown hg9 (.inr (ne_blk g g3 _ _ _ _ hgg)); have hon9 := (hown7.below hS8).grown hg9 (apart_blk hblk7 (by omega))) | (go_at_call 17; refine (stays_n _ _ c1 (xorL 21 xs0 ++ marksL) (by rw [len_marks, xorL_len]) a7 _ c7 (xorL 21 xs0) (xorL_len _ _).symm w9 (Rd.of_own hoa9) (Rd.of_own hon9) (by omega) rfl).mono ?_; rintro e w10 ⟨rfl, rfl⟩)
      go_wp2_with fail
      refine hK.out _ _ (by first | exact hbw7.drew | assumption) ?_
      clear hK K
      intro hHeld2
      clear hHeld
      have hHeld := hHeld2
      clear hHeld2
      try simp only [Act.put, List.setIfInBounds_toArray, List.set_cons_zero, List.set_cons_succ]
      refine take_at (i := 9) 48 (v := ?_) rfl rfl (by kernel_rfl) (by kernel_rfl) (by kernel_rfl) (fun _ _ _ h => h) (by rfl) ?_ hHeld ?_
      rotate_left
      · (intro w hSw; (try dsimp only at hSw); go_simp; try with_reducible rfl)
      simp only [Act.put, List.setIfInBounds_toArray, List.set_cons_zero, List.set_cons_succ]
      refine take_at (i := 10) 49 (v := ?_) rfl rfl (by kernel_rfl) (by kernel_rfl) (by kernel_rfl) (fun _ _ _ h => h) (by rfl) ?_ hHeld ?_
      rotate_left
      · (intro w hSw; (try dsimp only at hSw); go_simp; try with_reducible rfl)
      simp only [Act.put, List.setIfInBounds_toArray, List.set_cons_zero, List.set_cons_succ]
      refine take_at (i := 11) 50 (v := ?_) rfl rfl (by kernel_rfl) (by kernel_rfl) (by kernel_rfl) (fun _ _ _ h => h) (by rfl) ?_ hHeld ?_
      rotate_left
      · (intro w hSw; (try dsimp only at hSw); go_simp; try with_reducible rfl)
      simp only [Act.put, List.setIfInBounds_toArray, List.set_cons_zero, List.set_cons_succ]
      refine take_at (i := 12) 51 (v := ?_) rfl rfl (by kernel_rfl) (by kernel_rfl) (by kernel_rfl) (fun _ _ _ h => h) (by rfl) ?_ hHeld ?_
      rotate_left
      · (intro w hSw; (try dsimp only at hSw); go_simp; try with_reducible rfl)
      simp only [Act.put, List.setIfInBounds_toArray, List.set_cons_zero, List.set_cons_succ]
      refine take_at (i := 13) 52 (v := ?_) rfl rfl (by kernel_rfl) (by kernel_rfl) (by kernel_rfl) (fun _ _ _ h => h) (by rfl) ?_ hHeld ?_
      rotate_left
      · (intro w hSw; (try dsimp only at hSw); go_simp; try with_reducible rfl)
      simp only [Act.put, List.setIfInBounds_toArray, List.set_cons_zero, List.set_cons_succ]
      refine run_at (i := 14) rfl (by kernel_rfl) (by rfl) (fun K hK => ?_)
      simp only [List.getElem_toArray, List.getElem_cons_zero, List.getElem_cons_succ]
      go_simp
      first | (go_at_call 16; refine (refSeal_any a0 cap0 xs0 w7.drew (hr07.below hb7d) HN.out (by omega)).mono ?_; rintro e w8 ⟨v8, rfl, hown8, hb8⟩; have hS8 := below_next hb7d hb8; have hW8 : Below w.heap.size w w8 := hbw7.trans (hS8.mono hbw7.size); obtain ⟨a8, c8, hv8, -, -, -, hr8, -⟩ := hown8.val; have hcv8 := conv_rd hr8 _ c8 rfl; rw [len_seal] at hv8 hcv8; clear hb8 hown8; subst hv8) | (go_at_call 19; refine (spoils_n _ _ _ c3 (xs0 ++ sealL xs0) (len_seal _ _).symm w8 ((hos7.below hS8).base (Nat.zero_le _)) (by omega) (Nat.zero_le _)).mono ?_; rintro e w9 ⟨rfl, hg9⟩; have hW9 : Below w.heap.size w w9 := hW8.grown hg9 hW8.size (fun k hk => by cases hk; exact hwg3); have hoa9 := (hoa7.below hS8).grown hg9 (.inr (ne_blk g g3 _ _ _ _ hgg)); have hon9 := (hown7.below hS8).grown hg9 (apart_blk hblk7 (by omega))) | (go_at_call 17; refine (stays_n _ _ c1 (xorL 21 xs0 ++ marksL) (by rw [len_marks, xorL_len]) a7 _ c7 (xorL 21 xs0) (xorL_len _ _).symm w9 (Rd.of_own hoa9) (Rd.of_own hon9) (by omega) rfl).mono ?_; rintro e w10 ⟨rfl, rfl⟩)
      go_wp2_with fail
      refine hK.out _ _ (by first | exact hbw7.drew | assumption) ?_
      clear hK K
      intro hHeld2
      clear hHeld
      have hHeld := hHeld2
      clear hHeld2
      try simp only [Act.put, List.setIfInBounds_toArray, List.set_cons_zero, List.set_cons_succ]
      refine take_at (i := 15) 54 (v := ?_) rfl rfl (by kernel_rfl) (by kernel_rfl) (by kernel_rfl) (fun _ _ _ h => h) (by rfl) ?_ hHeld ?_
      rotate_left
      · (intro w hSw; (try dsimp only at hSw); go_simp; try with_reducible rfl)
      simp only [Act.put, List.setIfInBounds_toArray, List.set_cons_zero, List.set_cons_succ]
      refine take_at (i := 16) 55 (v := ?_) rfl rfl (by kernel_rfl) (by kernel_rfl) (by kernel_rfl) (fun _ _ _ h => h) (by rfl) ?_ hHeld ?_
      rotate_left
      · (intro w hSw; (try dsimp only at hSw); go_simp; try with_reducible rfl)
      simp only [Act.put, List.setIfInBounds_toArray, List.set_cons_zero, List.set_cons_succ]
      refine wpAnyH_done (by kernel_rfl) ?_ _
      refine NoPanic.normal ?_
    rotate_left 1
    refine AllReadyH.cons (o := _) rfl (fun K hK => ?_) AllReadyH.nil
    focus
      rw [if_pos (by rfl)]
      refine val_wp 43 (v := ?_) rfl ?_ ?_
      rotate_left
      · (go_simp; try with_reducible rfl)
      refine hK.out _ _ (by first | exact hbw7.drew | assumption) ?_
      clear hK K
      intro hHeld2
      clear hHeld
      have hHeld := hHeld2
      clear hHeld2
      simp only [Act.put, List.setIfInBounds_toArray, List.set_cons_zero, List.set_cons_succ]
      refine val_at (i := 1) 40 (v := ?_) rfl rfl (by kernel_rfl) (by rfl) ?_ ?_ ?_
      rotate_left
      · (go_simp; try with_reducible rfl)
      · (first | exact hbw7.drew | assumption)
      intro hHeld2
      clear hHeld
      have hHeld := hHeld2
      clear hHeld2
      simp only [Act.put, List.setIfInBounds_toArray, List.set_cons_zero, List.set_cons_succ]
      refine take_at (i := 5) 44 (v := ?_) rfl rfl (by kernel_rfl) (by kernel_rfl) (by kernel_rfl) (fun _ _ _ h => h) (by rfl) ?_ hHeld ?_
      rotate_left
      · (intro w hSw; (try dsimp only at hSw); go_simp; try with_reducible rfl)
      simp only [Act.put, List.setIfInBounds_toArray, List.set_cons_zero, List.set_cons_succ]
      refine take_at (i := 6) 45 (v := ?_) rfl rfl (by kernel_rfl) (by kernel_rfl) (by kernel_rfl) (fun _ _ _ h => h) (by rfl) ?_ hHeld ?_
      rotate_left
      · (intro w hSw; (try dsimp only at hSw); go_simp; try with_reducible rfl)
      simp only [Act.put, List.setIfInBounds_toArray, List.set_cons_zero, List.set_cons_succ]
      refine take_at (i := 7) 46 (v := ?_) rfl rfl (by kernel_rfl) (by kernel_rfl) (by kernel_rfl) (fun _ _ _ h => h) (by rfl) ?_ hHeld ?_
      rotate_left
      · (intro w hSw; (try dsimp only at hSw); go_simp; try with_reducible rfl)
      simp only [Act.put, List.setIfInBounds_toArray, List.set_cons_zero, List.set_cons_succ]
      refine run_at (i := 8) rfl (by kernel_rfl) (by rfl) (fun K hK => ?_)
      simp only [List.getElem_toArray, List.getElem_cons_zero, List.getElem_cons_succ]
      go_simp
      first | (go_at_call 16; refine (refSeal_any a0 cap0 xs0 w7.drew (hr07.below hb7d) HN.out (by omega)).mono ?_; rintro e w8 ⟨v8, rfl, hown8, hb8⟩; have hS8 := below_next hb7d hb8; have hW8 : Below w.heap.size w w8 := hbw7.trans (hS8.mono hbw7.size); obtain ⟨a8, c8, hv8, -, -, -, hr8, -⟩ := hown8.val; have hcv8 := conv_rd hr8 _ c8 rfl; rw [len_seal] at hv8 hcv8; clear hb8 hown8; subst hv8) | (go_at_call 19; refine (spoils_n _ _ _ c3 (xs0 ++ sealL xs0) (len_seal _ _).symm w8 ((hos7.below hS8).base (Nat.zero_le _)) (by omega) (Nat.zero_le _)).mono ?_; rintro e w9 ⟨rfl, hg9⟩; have hW9 : Below w.heap.size w w9 := hW8.grown hg9 hW8.size (fun k hk => by cases hk; exact hwg3); have hoa9 := (hoa7.below hS8).grown hg9 (.inr (ne_blk g g3 _ _ _ _ hgg)); have hon9 := (hown7.below hS8).grown hg9 (apart_blk hblk7 (by omega))) | (go_at_call 17; refine (stays_n _ _ c1 (xorL 21 xs0 ++ marksL) (by rw [len_marks, xorL_len]) a7 _ c7 (xorL 21 xs0) (xorL_len _ _).symm w9 (Rd.of_own hoa9) (Rd.of_own hon9) (by omega) rfl).mono ?_; rintro e w10 ⟨rfl, rfl⟩)
      go_wp2_with fail
      refine hK.out _ _ (by first | exact hbw7.drew | assumption) ?_
      clear hK K
      intro hHeld2
      clear hHeld
      have hHeld := hHeld2
      clear hHeld2
      try simp only [Act.put, List.setIfInBounds_toArray, List.set_cons_zero, List.set_cons_succ]
      refine take_at (i := 9) 48 (v := ?_) rfl rfl (by kernel_rfl) (by kernel_rfl) (by kernel_rfl) (fun _ _ _ h => h) (by rfl) ?_ hHeld ?_
      rotate_left
      · (intro w hSw; (try dsimp only at hSw); go_simp; try with_reducible rfl)
      simp only [Act.put, List.setIfInBounds_toArray, List.set_cons_zero, List.set_cons_succ]
      refine take_at (i := 10) 49 (v := ?_) rfl rfl (by kernel_rfl) (by kernel_rfl) (by kernel_rfl) (fun _ _ _ h => h) (by rfl) ?_ hHeld ?_
      rotate_left
      · (intro w hSw; (try dsimp only at hSw); go_simp; try with_reducible rfl)
      simp only [Act.put, List.setIfInBounds_toArray, List.set_cons_zero, List.set_cons_succ]
      refine take_at (i := 11) 50 (v := ?_) rfl rfl (by kernel_rfl) (by kernel_rfl) (by kernel_rfl) (fun _ _ _ h => h) (by rfl) ?_ hHeld ?_
      rotate_left
      · (intro w hSw; (try dsimp only at hSw); go_simp; try with_reducible rfl)
      simp only [Act.put, List.setIfInBounds_toArray, List.set_cons_zero, List.set_cons_succ]
      refine take_at (i := 12) 51 (v := ?_) rfl rfl (by kernel_rfl) (by kernel_rfl) (by kernel_rfl) (fun _ _ _ h => h) (by rfl) ?_ hHeld ?_
      rotate_left
      · (intro w hSw; (try dsimp only at hSw); go_simp; try with_reducible rfl)
      simp only [Act.put, List.setIfInBounds_toArray, List.set_cons_zero, List.set_cons_succ]
      refine take_at (i := 13) 52 (v := ?_) rfl rfl (by kernel_rfl) (by kernel_rfl) (by kernel_rfl) (fun _ _ _ h => h) (by rfl) ?_ hHeld ?_
      rotate_left
      · (intro w hSw; (try dsimp only at hSw); go_simp; try with_reducible rfl)
      simp only [Act.put, List.setIfInBounds_toArray, List.set_cons_zero, List.set_cons_succ]
      refine run_at (i := 14) rfl (by kernel_rfl) (by rfl) (fun K hK => ?_)
      simp only [List.getElem_toArray, List.getElem_cons_zero, List.getElem_cons_succ]
      go_simp
      first | (go_at_call 16; refine (refSeal_any a0 cap0 xs0 w7.drew (hr07.below hb7d) HN.out (by omega)).mono ?_; rintro e w8 ⟨v8, rfl, hown8, hb8⟩; have hS8 := below_next hb7d hb8; have hW8 : Below w.heap.size w w8 := hbw7.trans (hS8.mono hbw7.size); obtain ⟨a8, c8, hv8, -, -, -, hr8, -⟩ := hown8.val; have hcv8 := conv_rd hr8 _ c8 rfl; rw [len_seal] at hv8 hcv8; clear hb8 hown8; subst hv8) | (go_at_call 19; refine (spoils_n _ _ _ c3 (xs0 ++ sealL xs0) (len_seal _ _).symm w8 ((hos7.below hS8).base (Nat.zero_le _)) (by omega) (Nat.zero_le _)).mono ?_; rintro e w9 ⟨rfl, hg9⟩; have hW9 : Below w.heap.size w w9 := hW8.grown hg9 hW8.size (fun k hk => by cases hk; exact hwg3); have hoa9 := (hoa7.below hS8).grown hg9 (.inr (ne_blk g g3 _ _ _ _ hgg)); have hon9 := (hown7.below hS8).grown hg9 (apart_blk hblk7 (by omega))) | (go_at_call 17; refine (stays_n _ _ c1 (xorL 21 xs0 ++ marksL) (by rw [len_marks, xorL_len]) a7 _ c7 (xorL 21 xs0) (xorL_len _ _).symm w9 (Rd.of_own hoa9) (Rd.of_own hon9) (by omega) rfl).mono ?_; rintro e w10 ⟨rfl, rfl⟩)
      go_wp2_with fail
      refine hK.out _ _ (by first | exact hbw7.drew | assumption) ?_
      clear hK K
      intro hHeld2
      clear hHeld
      have hHeld := hHeld2
      clear hHeld2
      try simp only [Act.put, List.setIfInBounds_toArray, List.set_cons_zero, List.set_cons_succ]
      refine take_at (i := 15) 54 (v := ?_) rfl rfl (by kernel_rfl) (by kernel_rfl) (by kernel_rfl) (fun _ _ _ h => h) (by rfl) ?_ hHeld ?_
      rotate_left
      · (intro w hSw; (try dsimp only at hSw); go_simp; try with_reducible rfl)
      simp only [Act.put, List.setIfInBounds_toArray, List.set_cons_zero, List.set_cons_succ]
      refine take_at (i := 16) 55 (v := ?_) rfl rfl (by kernel_rfl) (by kernel_rfl) (by kernel_rfl) (fun _ _ _ h => h) (by rfl) ?_ hHeld ?_
      rotate_left
      · (intro w hSw; (try dsimp only at hSw); go_simp; try with_reducible rfl)
      simp only [Act.put, List.setIfInBounds_toArray, List.set_cons_zero, List.set_cons_succ]
      refine wpAnyH_done (by kernel_rfl) ?_ _
      refine NoPanic.normal ?_
  all_goals
    have hrax : Rd w10 (some ⟨g, 0, none⟩) (xorL 21 xs0) := by
      have h := (Rd.of_own hoa9).take (xorL 21 xs0).length
      rwa [List.take_left' rfl] at h
    have hrnx : Rd w10 a7 (xorL 21 xs0) := Rd.of_own hon9
    have htx := ht.below hW9
    have hxl := (xorL_len 21 xs0).symm
    have HXL : Hid (xs0.length = (xorL 21 xs0).length) := hxl
    clear hxl hoa9 hon9 hoa7 hown7 hos7 hcs hcv8 hr8 hr7 hg9
    go_wp2_with fail
    refine wp_region_noPanic ?_
    refine wp_region_held_drew (S := (fun u => Below w10.heap.size w10 u)) (by kernel_rfl) (by first | exact (Below.refl _ _).drew | assumption) (fun hHeld => ?_)
    refine take_at (i := 0) 56 (v := ?_) rfl rfl (by kernel_rfl) (by kernel_rfl) (by kernel_rfl) (fun _ _ _ h => h) (by rfl) ?_ hHeld ?_
    rotate_left
    · (intro w hSw; (try dsimp only at hSw); go_simp; try with_reducible rfl)
    simp only [Act.put, List.setIfInBounds_toArray, List.set_cons_zero, List.set_cons_succ]
    refine take_at (i := 1) 57 (v := ?_) rfl rfl (by kernel_rfl) (by kernel_rfl) (by kernel_rfl) (fun _ _ _ h => h) (by rfl) ?_ hHeld ?_
    rotate_left
    · (intro w hSw; (try dsimp only at hSw); go_simp; try with_reducible rfl)
    simp only [Act.put, List.setIfInBounds_toArray, List.set_cons_zero, List.set_cons_succ]
    refine take_at (i := 2) 58 (v := ?_) rfl rfl (by kernel_rfl) (by kernel_rfl) (by kernel_rfl) (fun _ _ _ h => h) (by rfl) ?_ hHeld ?_
    rotate_left
    · (intro w hSw; (try dsimp only at hSw); go_simp; try with_reducible rfl)
    simp only [Act.put, List.setIfInBounds_toArray, List.set_cons_zero, List.set_cons_succ]
    refine take_at (i := 3) 59 (v := ?_) rfl rfl (by kernel_rfl) (by kernel_rfl) (by kernel_rfl) (fun _ _ _ h => h) (by rfl) ?_ hHeld ?_
    rotate_left
    · (intro w hSw; (try dsimp only at hSw); go_simp; try with_reducible rfl)
    simp only [Act.put, List.setIfInBounds_toArray, List.set_cons_zero, List.set_cons_succ]
    refine take_at (i := 5) 61 (v := ?_) rfl rfl (by kernel_rfl) (by kernel_rfl) (by kernel_rfl) (fun _ _ _ h => h) (by rfl) ?_ hHeld ?_
    rotate_left
    · (intro w hSw; (try dsimp only at hSw); go_simp; try with_reducible rfl)
    simp only [Act.put, List.setIfInBounds_toArray, List.set_cons_zero, List.set_cons_succ]
    refine run_at (i := 4) rfl (by kernel_rfl) (by rfl) (fun K hK => ?_)
    simp only [List.getElem_toArray, List.getElem_cons_zero, List.getElem_cons_succ]
    go_simp
    first | (go_at_call 13; refine (crc_n _ _ c1 (xorL 21 xs0) HXL.out _ (hrax.below (by first | exact (Below.refl _ _).drew | assumption)) (by omega) (htx.below (by first | exact (Below.refl _ _).drew | assumption))).mono ?_; rintro e wa ⟨rfl, rfl⟩) | (go_at_call 15; refine (refCRC_n _ _ c7 (xorL 21 xs0) HXL.out _ (hrnx.below (by first | exact (Below.refl _ _).drew | assumption)) (by omega)).mono ?_; rintro e wb ⟨rfl, rfl⟩) | (go_at_call 14; refine (seal_n _ _ c1 (xorL 21 xs0) HXL.out _ (hrax.below (by first | exact (Below.refl _ _).drew | assumption)) (fun h => by cases h) (by omega) (htx.below (by first | exact (Below.refl _ _).drew | assumption))).mono ?_; rintro e wc ⟨vc, rfl, hownc, hbc⟩; have hSc := below_next (B := w10) (by first | exact (Below.refl _ _).drew | assumption) hbc; obtain ⟨ac, cc, hvc, -, -, -, hrc, -⟩ := hownc.val; rw [len_seal, xorL_len] at hvc; subst hvc; have hcvc := fun (u : World) (hu : Below wc.heap.size wc u) => conv_rd (hrc.below hu) (xs0.length + 4) cc (by rw [len_seal, xorL_len]); have hcvc0 := conv_rd hrc (xs0.length + 4) cc (by rw [len_seal, xorL_len])) | (go_at_call 16; refine (refSeal_n _ _ c7 (xorL 21 xs0) HXL.out _ (hrnx.below (by first | exact (Below.refl _ _).drew | assumption)) HN7.out (by omega)).mono ?_; rintro e wd ⟨vd, rfl, hownd, hbd⟩; have hSd := below_next (B := w10) (by first | exact (Below.refl _ _).drew | assumption) hbd; obtain ⟨ad, cd, hvd, -, -, -, hrd, -⟩ := hownd.val; rw [len_seal, xorL_len] at hvd; subst hvd; have hcvd0 := conv_rd hrd (xs0.length + 4) cd (by rw [len_seal, xorL_len]))
    go_wp2_with fail
    refine hK.out _ _ (by first | exact (Below.refl _ _).drew | assumption) ?_
    clear hK K
    intro hHeld2
    clear hHeld
    have hHeld := hHeld2
    clear hHeld2
    try simp only [Act.put, List.setIfInBounds_toArray, List.set_cons_zero, List.set_cons_succ]
    refine run_at (i := 6) rfl (by kernel_rfl) (by rfl) (fun K hK => ?_)
    simp only [List.getElem_toArray, List.getElem_cons_zero, List.getElem_cons_succ]
    go_simp
    first | (go_at_call 13; refine (crc_n _ _ c1 (xorL 21 xs0) HXL.out _ (hrax.below (by first | exact (Below.refl _ _).drew | assumption)) (by omega) (htx.below (by first | exact (Below.refl _ _).drew | assumption))).mono ?_; rintro e wa ⟨rfl, rfl⟩) | (go_at_call 15; refine (refCRC_n _ _ c7 (xorL 21 xs0) HXL.out _ (hrnx.below (by first | exact (Below.refl _ _).drew | assumption)) (by omega)).mono ?_; rintro e wb ⟨rfl, rfl⟩) | (go_at_call 14; refine (seal_n _ _ c1 (xorL 21 xs0) HXL.out _ (hrax.below (by first | exact (Below.refl _ _).drew | assumption)) (fun h => by cases h) (by omega) (htx.below (by first | exact (Below.refl _ _).drew | assumption))).mono ?_; rintro e wc ⟨vc, rfl, hownc, hbc⟩; have hSc := below_next (B := w10) (by first | exact (Below.refl _ _).drew | assumption) hbc; obtain ⟨ac, cc, hvc, -, -, -, hrc, -⟩ := hownc.val; rw [len_seal, xorL_len] at hvc; subst hvc; have hcvc := fun (u : World) (hu : Below wc.heap.size wc u) => conv_rd (hrc.below hu) (xs0.length + 4) cc (by rw [len_seal, xorL_len]); have hcvc0 := conv_rd hrc (xs0.length + 4) cc (by rw [len_seal, xorL_len])) | (go_at_call 16; refine (refSeal_n _ _ c7 (xorL 21 xs0) HXL.out _ (hrnx.below (by first | exact (Below.refl _ _).drew | assumption)) HN7.out (by omega)).mono ?_; rintro e wd ⟨vd, rfl, hownd, hbd⟩; have hSd := below_next (B := w10) (by first | exact (Below.refl _ _).drew | assumption) hbd; obtain ⟨ad, cd, hvd, -, -, -, hrd, -⟩ := hownd.val; rw [len_seal, xorL_len] at hvd; subst hvd; have hcvd0 := conv_rd hrd (xs0.length + 4) cd (by rw [len_seal, xorL_len]))
    go_wp2_with fail
    refine hK.out _ _ (by first | exact (Below.refl _ _).drew | assumption) ?_
    clear hK K
    intro hHeld2
    clear hHeld
    have hHeld := hHeld2
    clear hHeld2
    try simp only [Act.put, List.setIfInBounds_toArray, List.set_cons_zero, List.set_cons_succ]
    refine take_at (i := 7) 63 (v := ?_) rfl rfl (by kernel_rfl) (by kernel_rfl) (by kernel_rfl) (fun _ _ _ h => h) (by rfl) ?_ hHeld ?_
    rotate_left
    · (intro w hSw; (try dsimp only at hSw); go_simp; try with_reducible rfl)
    simp only [Act.put, List.setIfInBounds_toArray, List.set_cons_zero, List.set_cons_succ]
    refine take_at (i := 8) 64 (v := ?_) rfl rfl (by kernel_rfl) (by kernel_rfl) (by kernel_rfl) (fun _ _ _ h => h) (by rfl) ?_ hHeld ?_
    rotate_left
    · (intro w hSw; (try dsimp only at hSw); go_simp; try with_reducible rfl)
    simp only [Act.put, List.setIfInBounds_toArray, List.set_cons_zero, List.set_cons_succ]
    refine take_at (i := 9) 65 (v := ?_) rfl rfl (by kernel_rfl) (by kernel_rfl) (by kernel_rfl) (fun _ _ _ h => h) (by rfl) ?_ hHeld ?_
    rotate_left
    · (intro w hSw; (try dsimp only at hSw); go_simp; try with_reducible rfl)
    simp only [Act.put, List.setIfInBounds_toArray, List.set_cons_zero, List.set_cons_succ]
    refine take_at (i := 10) 66 (v := ?_) rfl rfl (by kernel_rfl) (by kernel_rfl) (by kernel_rfl) (fun _ _ _ h => h) (by rfl) ?_ hHeld ?_
    rotate_left
    · (intro w hSw; (try dsimp only at hSw); go_simp; try with_reducible rfl)
    simp only [Act.put, List.setIfInBounds_toArray, List.set_cons_zero, List.set_cons_succ]
    refine take_at (i := 11) 67 (v := ?_) rfl rfl (by kernel_rfl) (by kernel_rfl) (by kernel_rfl) (fun _ _ _ h => h) (by rfl) ?_ hHeld ?_
    rotate_left
    · (intro w hSw; (try dsimp only at hSw); go_simp; try with_reducible rfl)
    simp only [Act.put, List.setIfInBounds_toArray, List.set_cons_zero, List.set_cons_succ]
    refine take_at (i := 12) 68 (v := ?_) rfl rfl (by kernel_rfl) (by kernel_rfl) (by kernel_rfl) (fun _ _ _ h => h) (by rfl) ?_ hHeld ?_
    rotate_left
    · (intro w hSw; (try dsimp only at hSw); go_simp; try with_reducible rfl)
    simp only [Act.put, List.setIfInBounds_toArray, List.set_cons_zero, List.set_cons_succ]
    refine take_at (i := 15) 71 (v := ?_) rfl rfl (by kernel_rfl) (by kernel_rfl) (by kernel_rfl) (fun _ _ _ h => h) (by rfl) ?_ hHeld ?_
    rotate_left
    · (intro w hSw; (try dsimp only at hSw); go_simp; try with_reducible rfl)
    simp only [Act.put, List.setIfInBounds_toArray, List.set_cons_zero, List.set_cons_succ]
    refine run_at (i := 13) rfl (by kernel_rfl) (by rfl) (fun K hK => ?_)
    simp only [List.getElem_toArray, List.getElem_cons_zero, List.getElem_cons_succ]
    go_simp
    first | (go_at_call 13; refine (crc_n _ _ c1 (xorL 21 xs0) HXL.out _ (hrax.below (by first | exact (Below.refl _ _).drew | assumption)) (by omega) (htx.below (by first | exact (Below.refl _ _).drew | assumption))).mono ?_; rintro e wa ⟨rfl, rfl⟩) | (go_at_call 15; refine (refCRC_n _ _ c7 (xorL 21 xs0) HXL.out _ (hrnx.below (by first | exact (Below.refl _ _).drew | assumption)) (by omega)).mono ?_; rintro e wb ⟨rfl, rfl⟩) | (go_at_call 14; refine (seal_n _ _ c1 (xorL 21 xs0) HXL.out _ (hrax.below (by first | exact (Below.refl _ _).drew | assumption)) (fun h => by cases h) (by omega) (htx.below (by first | exact (Below.refl _ _).drew | assumption))).mono ?_; rintro e wc ⟨vc, rfl, hownc, hbc⟩; have hSc := below_next (B := w10) (by first | exact (Below.refl _ _).drew | assumption) hbc; obtain ⟨ac, cc, hvc, -, -, -, hrc, -⟩ := hownc.val; rw [len_seal, xorL_len] at hvc; subst hvc; have hcvc := fun (u : World) (hu : Below wc.heap.size wc u) => conv_rd (hrc.below hu) (xs0.length + 4) cc (by rw [len_seal, xorL_len]); have hcvc0 := conv_rd hrc (xs0.length + 4) cc (by rw [len_seal, xorL_len])) | (go_at_call 16; refine (refSeal_n _ _ c7 (xorL 21 xs0) HXL.out _ (hrnx.below (by first | exact (Below.refl _ _).drew | assumption)) HN7.out (by omega)).mono ?_; rintro e wd ⟨vd, rfl, hownd, hbd⟩; have hSd := below_next (B := w10) (by first | exact (Below.refl _ _).drew | assumption) hbd; obtain ⟨ad, cd, hvd, -, -, -, hrd, -⟩ := hownd.val; rw [len_seal, xorL_len] at hvd; subst hvd; have hcvd0 := conv_rd hrd (xs0.length + 4) cd (by rw [len_seal, xorL_len]))
    go_wp2_with fail
    refine hK.out _ _ (by first | exact (Below.refl _ _).drew | assumption) ?_
    clear hK K
    intro hHeld2
    clear hHeld
    have hHeld := hHeld2
    clear hHeld2
    try simp only [Act.put, List.setIfInBounds_toArray, List.set_cons_zero, List.set_cons_succ]
    refine wpAnyH_ready (rs := [14, 16]) (by kernel_rfl) (by simp) ?_
    refine AllReadyH.cons (o := _) rfl (fun K hK => ?_) ?_
    focus
      rw [if_pos (by rfl)]
      refine val_wp 70 (v := ?_) rfl ?_ ?_
      rotate_left
      · (go_simp; try with_reducible rfl)
      refine hK.out _ _ (by first | exact (Below.refl _ _).drew | assumption) ?_
      clear hK K
      intro hHeld2
      clear hHeld
      have hHeld := hHeld2
      clear hHeld2
      simp only [Act.put, List.setIfInBounds_toArray, List.set_cons_zero, List.set_cons_succ]
      refine run_at (i := 16) rfl (by kernel_rfl) (by rfl) (fun K hK => ?_)
      simp only [List.getElem_toArray, List.getElem_cons_zero, List.getElem_cons_succ]
      go_simp
      first | (go_at_call 13; refine (crc_n _ _ c1 (xorL 21 xs0) HXL.out _ (hrax.below (by first | exact (Below.refl _ _).drew | assumption)) (by omega) (htx.below (by first | exact (Below.refl _ _).drew | assumption))).mono ?_; rintro e wa ⟨rfl, rfl⟩) | (go_at_call 15; refine (refCRC_n _ _ c7 (xorL 21 xs0) HXL.out _ (hrnx.below (by first | exact (Below.refl _ _).drew | assumption)) (by omega)).mono ?_; rintro e wb ⟨rfl, rfl⟩) | (go_at_call 14; refine (seal_n _ _ c1 (xorL 21 xs0) HXL.out _ (hrax.below (by first | exact (Below.refl _ _).drew | assumption)) (fun h => by cases h) (by omega) (htx.below (by first | exact (Below.refl _ _).drew | assumption))).mono ?_; rintro e wc ⟨vc, rfl, hownc, hbc⟩; have hSc := below_next (B := w10) (by first | exact (Below.refl _ _).drew | assumption) hbc; obtain ⟨ac, cc, hvc, -, -, -, hrc, -⟩ := hownc.val; rw [len_seal, xorL_len] at hvc; subst hvc; have hcvc := fun (u : World) (hu : Below wc.heap.size wc u) => conv_rd (hrc.below hu) (xs0.length + 4) cc (by rw [len_seal, xorL_len]); have hcvc0 := conv_rd hrc (xs0.length + 4) cc (by rw [len_seal, xorL_len])) | (go_at_call 16; refine (refSeal_n _ _ c7 (xorL 21 xs0) HXL.out _ (hrnx.below (by first | exact (Below.refl _ _).drew | assumption)) HN7.out (by omega)).mono ?_; rintro e wd ⟨vd, rfl, hownd, hbd⟩; have hSd := below_next (B := w10) (by first | exact (Below.refl _ _).drew | assumption) hbd; obtain ⟨ad, cd, hvd, -, -, -, hrd, -⟩ := hownd.val; rw [len_seal, xorL_len] at hvd; subst hvd; have hcvd0 := conv_rd hrd (xs0.length + 4) cd (by rw [len_seal, xorL_len]))
      go_wp2_with fail
      refine hK.out _ _ (by first | exact (Below.refl _ _).drew | assumption) ?_
      clear hK K
      intro hHeld2
      clear hHeld
      have hHeld := hHeld2
      clear hHeld2
      try simp only [Act.put, List.setIfInBounds_toArray, List.set_cons_zero, List.set_cons_succ]
      refine val_at (i := 17) 73 (v := ?_) rfl rfl (by kernel_rfl) (by rfl) ?_ ?_ ?_
      rotate_left
      · (go_simp; try with_reducible rfl)
      · (first | exact (Below.refl _ _).drew | assumption)
      intro hHeld2
      clear hHeld
      have hHeld := hHeld2
      clear hHeld2
      simp only [Act.put, List.setIfInBounds_toArray, List.set_cons_zero, List.set_cons_succ]
      refine take_at (i := 18) 74 (v := ?_) rfl rfl (by kernel_rfl) (by kernel_rfl) (by kernel_rfl) (fun _ _ _ h => h) (by rfl) ?_ hHeld ?_
      rotate_left
      · (intro w hSw; (try dsimp only at hSw); go_simp; try with_reducible rfl)
      simp only [Act.put, List.setIfInBounds_toArray, List.set_cons_zero, List.set_cons_succ]
      refine take_at (i := 19) 75 (v := ?_) rfl rfl (by kernel_rfl) (by kernel_rfl) (by kernel_rfl) (fun _ _ _ h => h) (by rfl) ?_ hHeld ?_
      rotate_left
      · (intro w hSw; (try dsimp only at hSw); go_simp; try with_reducible rfl)
      simp only [Act.put, List.setIfInBounds_toArray, List.set_cons_zero, List.set_cons_succ]
      refine take_at (i := 20) 2 (v := ?_) rfl rfl (by kernel_rfl) (by kernel_rfl) (by kernel_rfl) (fun _ _ _ h => h) (by rfl) ?_ hHeld ?_
      rotate_left
      · (intro w hSw; (try dsimp only at hSw); go_simp; try with_reducible rfl)
      simp only [Act.put, List.setIfInBounds_toArray, List.set_cons_zero, List.set_cons_succ]
      refine wpAnyH_done (by kernel_rfl) ?_ _
      refine NoPanic.normal ?_
    rotate_left 1
    refine AllReadyH.cons (o := _) rfl (fun K hK => ?_) AllReadyH.nil
    focus
      rw [if_pos (by rfl)]
      simp only [List.getElem_toArray, List.getElem_cons_zero, List.getElem_cons_succ]
      go_simp
      first | (go_at_call 13; refine (crc_n _ _ c1 (xorL 21 xs0) HXL.out _ (hrax.below (by first | exact (Below.refl _ _).drew | assumption)) (by omega) (htx.below (by first | exact (Below.refl _ _).drew | assumption))).mono ?_; rintro e wa ⟨rfl, rfl⟩) | (go_at_call 15; refine (refCRC_n _ _ c7 (xorL 21 xs0) HXL.out _ (hrnx.below (by first | exact (Below.refl _ _).drew | assumption)) (by omega)).mono ?_; rintro e wb ⟨rfl, rfl⟩) | (go_at_call 14; refine (seal_n _ _ c1 (xorL 21 xs0) HXL.out _ (hrax.below (by first | exact (Below.refl _ _).drew | assumption)) (fun h => by cases h) (by omega) (htx.below (by first | exact (Below.refl _ _).drew | assumption))).mono ?_; rintro e wc ⟨vc, rfl, hownc, hbc⟩; have hSc := below_next (B := w10) (by first | exact (Below.refl _ _).drew | assumption) hbc; obtain ⟨ac, cc, hvc, -, -, -, hrc, -⟩ := hownc.val; rw [len_seal, xorL_len] at hvc; subst hvc; have hcvc := fun (u : World) (hu : Below wc.heap.size wc u) => conv_rd (hrc.below hu) (xs0.length + 4) cc (by rw [len_seal, xorL_len]); have hcvc0 := conv_rd hrc (xs0.length + 4) cc (by rw [len_seal, xorL_len])) | (go_at_call 16; refine (refSeal_n _ _ c7 (xorL 21 xs0) HXL.out _ (hrnx.below (by first | exact (Below.refl _ _).drew | assumption)) HN7.out (by omega)).mono ?_; rintro e wd ⟨vd, rfl, hownd, hbd⟩; have hSd := below_next (B := w10) (by first | exact (Below.refl _ _).drew | assumption) hbd; obtain ⟨ad, cd, hvd, -, -, -, hrd, -⟩ := hownd.val; rw [len_seal, xorL_len] at hvd; subst hvd; have hcvd0 := conv_rd hrd (xs0.length + 4) cd (by rw [len_seal, xorL_len]))
      go_wp2_with fail
      refine hK.out _ _ (by first | exact (Below.refl _ _).drew | assumption) ?_
      clear hK K
      intro hHeld2
      clear hHeld
      have hHeld := hHeld2
      clear hHeld2
      try simp only [Act.put, List.setIfInBounds_toArray, List.set_cons_zero, List.set_cons_succ]
      refine wpAnyH_ready (rs := [14, 17]) (by kernel_rfl) (by simp) ?_
      refine AllReadyH.cons (o := _) rfl (fun K hK => ?_) ?_
      focus
        rw [if_pos (by rfl)]
        refine val_wp 70 (v := ?_) rfl ?_ ?_
        rotate_left
        · (go_simp; try with_reducible rfl)
        refine hK.out _ _ (by first | exact (Below.refl _ _).drew | assumption) ?_
        clear hK K
        intro hHeld2
        clear hHeld
        have hHeld := hHeld2
        clear hHeld2
        simp only [Act.put, List.setIfInBounds_toArray, List.set_cons_zero, List.set_cons_succ]
        refine val_at (i := 17) 73 (v := ?_) rfl rfl (by kernel_rfl) (by rfl) ?_ ?_ ?_
        rotate_left
        · (go_simp; try with_reducible rfl)
        · (first | exact (Below.refl _ _).drew | assumption)
        intro hHeld2
        clear hHeld
        have hHeld := hHeld2
        clear hHeld2
        simp only [Act.put, List.setIfInBounds_toArray, List.set_cons_zero, List.set_cons_succ]
        refine take_at (i := 18) 74 (v := ?_) rfl rfl (by kernel_rfl) (by kernel_rfl) (by kernel_rfl) (fun _ _ _ h => h) (by rfl) ?_ hHeld ?_
        rotate_left
        · (intro w hSw; (try dsimp only at hSw); go_simp; try with_reducible rfl)
        simp only [Act.put, List.setIfInBounds_toArray, List.set_cons_zero, List.set_cons_succ]
        refine take_at (i := 19) 75 (v := ?_) rfl rfl (by kernel_rfl) (by kernel_rfl) (by kernel_rfl) (fun _ _ _ h => h) (by rfl) ?_ hHeld ?_
        rotate_left
        · (intro w hSw; (try dsimp only at hSw); go_simp; try with_reducible rfl)
        simp only [Act.put, List.setIfInBounds_toArray, List.set_cons_zero, List.set_cons_succ]
        refine take_at (i := 20) 2 (v := ?_) rfl rfl (by kernel_rfl) (by kernel_rfl) (by kernel_rfl) (fun _ _ _ h => h) (by rfl) ?_ hHeld ?_
        rotate_left
        · (intro w hSw; (try dsimp only at hSw); go_simp; try with_reducible rfl)
        simp only [Act.put, List.setIfInBounds_toArray, List.set_cons_zero, List.set_cons_succ]
        refine wpAnyH_done (by kernel_rfl) ?_ _
        refine NoPanic.normal ?_
      rotate_left 1
      refine AllReadyH.cons (o := _) rfl (fun K hK => ?_) AllReadyH.nil
      focus
        rw [if_pos (by rfl)]
        refine val_wp 73 (v := ?_) rfl ?_ ?_
        rotate_left
        · (go_simp; try with_reducible rfl)
        refine hK.out _ _ (by first | exact (Below.refl _ _).drew | assumption) ?_
        clear hK K
        intro hHeld2
        clear hHeld
        have hHeld := hHeld2
        clear hHeld2
        simp only [Act.put, List.setIfInBounds_toArray, List.set_cons_zero, List.set_cons_succ]
        refine val_at (i := 14) 70 (v := ?_) rfl rfl (by kernel_rfl) (by rfl) ?_ ?_ ?_
        rotate_left
        · (go_simp; try with_reducible rfl)
        · (first | exact (Below.refl _ _).drew | assumption)
        intro hHeld2
        clear hHeld
        have hHeld := hHeld2
        clear hHeld2
        simp only [Act.put, List.setIfInBounds_toArray, List.set_cons_zero, List.set_cons_succ]
        refine take_at (i := 18) 74 (v := ?_) rfl rfl (by kernel_rfl) (by kernel_rfl) (by kernel_rfl) (fun _ _ _ h => h) (by rfl) ?_ hHeld ?_
        rotate_left
        · (intro w hSw; (try dsimp only at hSw); go_simp; try with_reducible rfl)
        simp only [Act.put, List.setIfInBounds_toArray, List.set_cons_zero, List.set_cons_succ]
        refine take_at (i := 19) 75 (v := ?_) rfl rfl (by kernel_rfl) (by kernel_rfl) (by kernel_rfl) (fun _ _ _ h => h) (by rfl) ?_ hHeld ?_
        rotate_left
        · (intro w hSw; (try dsimp only at hSw); go_simp; try with_reducible rfl)
        simp only [Act.put, List.setIfInBounds_toArray, List.set_cons_zero, List.set_cons_succ]
        refine take_at (i := 20) 2 (v := ?_) rfl rfl (by kernel_rfl) (by kernel_rfl) (by kernel_rfl) (fun _ _ _ h => h) (by rfl) ?_ hHeld ?_
        rotate_left
        · (intro w hSw; (try dsimp only at hSw); go_simp; try with_reducible rfl)
        simp only [Act.put, List.setIfInBounds_toArray, List.set_cons_zero, List.set_cons_succ]
        refine wpAnyH_done (by kernel_rfl) ?_ _
        refine NoPanic.normal ?_
    all_goals
      go_wp2
      go_ret
      exact ⟨rfl, by first | exact hW9.trans (Below.mono hSd hW9.size) | exact hW9.trans (Below.mono hSc hW9.size)⟩
end Go.Proofs.YtinphflminaijaaDoor
