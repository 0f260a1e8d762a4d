import Derived.Test.YtinphflminaijabDoorRefBurst
import Derived.Test.YtinphflminaijabDoorConv
import Derived.Test.YtinphflminaijabDoorRegn
import Derived.Test.YtinphflminaijabDoorOpen
namespace Go.Proofs.YtinphflminaijabDoor
set_option linter.unusedVariables false
set_option linter.unusedSimpArgs false
open Go.RowKit
theorem len_marksB (xs : List UInt8) : (xs ++ marksL).length = xs.length + 8 := by simp [marksL]
theorem Rd.of_ownB {w : World} {B : Nat} {ao : Option Addr} {n cap : Nat} {xs : List UInt8} (h : Own w B (.slice ao n cap) xs) : Rd w ao xs := by
  obtain ⟨a, c, hv, -, -, -, hr, -⟩ := h.val
  simp only [Value.slice.injEq] at hv
  rw [hv.1]
  exact hr
/-- two owned slices, the second's block below the first's base -/
theorem apart_B {a : Option Addr} {n c g n' c' z : Nat} (h : ∀ q, a = some q → z ≤ q.block) (hg : g < z) : Value.ownBlock (.slice (some ⟨g, 0, none⟩) n' c') ≠ Value.ownBlock (.slice a n c) := by
  rcases a with _ | q
  · simp [Value.ownBlock]
  · have := h q rfl
    simp [Value.ownBlock]
    omega
theorem apart_B2 {a : Option Addr} {n c g n' c' z : Nat} (h : ∀ q, a = some q → z ≤ q.block) (hg : g < z) : Value.ownBlock (.slice a n c) = none ∨ Value.ownBlock (.slice a n c) ≠ some g := by
  rcases a with _ | q
  · exact .inl rfl
  · right
    have := h q rfl
    simp [Value.ownBlock]
    omega
theorem apart_B3 {a b : Option Addr} {n c n' c' z y : Nat} (h : ∀ q, a = some q → z ≤ q.block) (hb : ∀ q, b = some q → y ≤ q.block ∧ q.block < z) : Value.ownBlock (.slice a n c) = none ∨ Value.ownBlock (.slice a n c) ≠ Value.ownBlock (.slice b n' c') := by
  rcases a with _ | q
  · exact .inl rfl
  · right
    have := h q rfl
    rcases b with _ | r
    · simp [Value.ownBlock]
    · have := hb r rfl
      simp [Value.ownBlock]
      omega
set_option maxRecDepth 20000 in
set_option maxHeartbeats 3200000 in
theorem octetBursts_walk (a0 : Option Addr) (cap0 : Nat) (xs0 : List UInt8) (n1 n2 : Int) (w : World) (hr0 : Rd w a0 xs0) (hl0 : xs0.length ≤ cap0) (hc0 : cap0 ≤ 140737488351232) (hn0 : a0 = none → cap0 = 0)
    (hw1 : (Lit.int .i64 n1).wf = true) (hw2 : (Lit.int .u32 n2).wf = true) (ht : TabOk w) :
    Calls Tryd.prog 6 #[.slice a0 xs0.length cap0, .int .i64 n1, .int .u32 n2] w fun e w' => e = .returned (.bool true) ∧ Below w.heap.size w w' := by
  obtain ⟨m2, rfl, hm2⟩ := u32_of hw2
  obtain ⟨ha0, ha1⟩ := i64_of hw1
  have hl1 : xs0.length ≤ 140737488351232 := by omega
  have HN : Hid (a0 = none → cap0 = 0) := hn0
  clear hn0 hw1 hw2 hc0
  go_enter Tryd.func6, Tryd.ntmps6
  go_wp2_with fail
  refine (lent_any a0 cap0 xs0 w hr0 HN.out (by omega)).mono ?_
  rintro e w1 ⟨v1, rfl, hown1, hb1⟩
  obtain ⟨g, c1, rfl, hlc1, -, hgB, hgl⟩ := own_head hown1 (by rw [len_marksB]; omega)
  rw [len_marksB] at hlc1 hown1 ⊢
  have hra : Rd w1 (some ⟨g, 0, none⟩) xs0 := by
    have h := (Rd.of_ownB hown1).take xs0.length
    rwa [List.take_left' rfl] at h
  have hc1 : (xs0.length : Int) ≤ (c1 : Int) := by omega
  have hc1a : ¬ c1 = xs0.length := by omega
  have hc1b : xs0.length ≤ c1 := by omega
  go_wp2_with fail
  refine (burst_n _ _ c1 xs0 rfl n1 m2 w1 hra (fun h => by cases h) (by omega) ha0 ha1 hm2).mono ?_
  rintro e w3 ⟨v3, rfl, hown3, hb3⟩
  obtain ⟨a3, c3, hv3, -, -, hn3, hr3, hblk3⟩ := hown3.val
  rw [bst_len] at hv3
  subst hv3
  have HL : Hid (xs0.length = (bst n1 m2 xs0 32).length) := (bst_len n1 m2 xs0 32).symm
  have HL2 : Hid (xs0.length = (bst n1 m2 (xorL 21 xs0) 32).length) := by unfold Hid; rw [bst_len, xorL_len]
  generalize hts : bst n1 m2 xs0 32 = ts at *
  have HTS : Hid (bst n1 m2 xs0 32 = ts) := hts
  clear hts
  have hb13 : Below w.heap.size w w3 := below_next hb1 hb3
  have hcs : ∀ u, Below w3.heap.size w3 u → (convert 22 9 (.slice a3 xs0.length c3)).run Tryd.prog u = .ok (.string ⟨ts.toArray⟩) u := fun u hu => conv_rd (hr3.below hu) _ c3 HL.out
  have hoa3 := hown1.below hb3
  have hra3 : Rd w3 a0 xs0 := hr0.below hb13
  have ht3 := ht.below hb13
  clear hn3
  go_wp2_with fail
  refine wp_region_noPanic ?_
  refine wp_region_held_drew (S := (fun u => Below w3.heap.size w3 u)) (by kernel_rfl) (by first | exact (Below.refl _ _).drew | assumption) (fun hHeld => ?_)
  refine take_at (i := 0) 19 (v := ?_) rfl rfl (by kernel_rfl) (by kernel_rfl) (by kernel_rfl) (fun _ _ _ h => h) (by rfl) ?_ hHeld ?_
  rotate_left
  · (intro w hSw; (try dsimp only at hSw); go_simp; try with_reducible rfl)
  simp only [Act.put, List.setIfInBounds_toArray, List.set_cons_zero, List.set_cons_succ]
  refine take_at (i := 1) 20 (v := ?_) rfl rfl (by kernel_rfl) (by kernel_rfl) (by kernel_rfl) (fun _ _ _ h => h) (by rfl) ?_ hHeld ?_
  rotate_left
  · (intro w hSw; (try dsimp only at hSw); go_simp; try with_reducible rfl)
  simp only [Act.put, List.setIfInBounds_toArray, List.set_cons_zero, List.set_cons_succ]
  refine take_at (i := 2) 21 (v := ?_) rfl rfl (by kernel_rfl) (by kernel_rfl) (by kernel_rfl) (fun _ _ _ h => h) (by rfl) ?_ hHeld ?_
  rotate_left
  · (intro w hSw; (try dsimp only at hSw); go_simp; try with_reducible rfl)
  simp only [Act.put, List.setIfInBounds_toArray, List.set_cons_zero, List.set_cons_succ]
  refine take_at (i := 3) 22 (v := ?_) rfl rfl (by kernel_rfl) (by kernel_rfl) (by kernel_rfl) (fun _ _ _ h => h) (by rfl) ?_ hHeld ?_
  rotate_left
  · (intro w hSw; (try dsimp only at hSw); go_simp; try with_reducible rfl)
  simp only [Act.put, List.setIfInBounds_toArray, List.set_cons_zero, List.set_cons_succ]
  refine take_at (i := 4) 23 (v := ?_) rfl rfl (by kernel_rfl) (by kernel_rfl) (by kernel_rfl) (fun _ _ _ h => h) (by rfl) ?_ hHeld ?_
  rotate_left
  · (intro w hSw; (try dsimp only at hSw); go_simp; try with_reducible rfl)
  simp only [Act.put, List.setIfInBounds_toArray, List.set_cons_zero, List.set_cons_succ]
  refine run_at (i := 5) rfl (by kernel_rfl) (by rfl) (fun K hK => ?_)
  simp only [List.getElem_toArray, List.getElem_cons_zero, List.getElem_cons_succ]
  go_simp
  first | (go_at_call 16; refine (refBurst_n a0 _ cap0 xs0 rfl n1 m2 _ (hra3.below (by first | exact (Below.refl _ _).drew | assumption)) HN.out (by omega) ha0 ha1 hm2).mono ?_; rintro e w5 ⟨v5, rfl, hown5, hb5⟩; have hS5 := below_next (B := w3) (by first | exact (Below.refl _ _).drew | assumption) hb5; rw [HTS.out] at hown5; obtain ⟨a5, c5, hv5, -, -, -, hr5, -⟩ := hown5.val; have hcv5 := conv_rd hr5 xs0.length c5 HL.out; rw [← HL.out] at hv5; clear hb5 hown5; subst hv5) | (go_at_call 17; refine (stays_n _ _ c1 (xs0 ++ marksL) (len_marksB _).symm a0 _ cap0 xs0 rfl w5 ((Rd.of_ownB hoa3).below hS5) (hra3.below hS5) (by omega) rfl).mono ?_; rintro e w55 ⟨rfl, hw55⟩; have hw55' := hw55.symm; subst hw55') | (go_at_call 11; refine (knows_any w5 (ht3.below hS5)).mono ?_; rintro e w6 ⟨rfl, hb6⟩; have hS6 := below_next hS5 hb6)
  go_wp2_with fail
  refine hK.out _ _ (by first | exact (Below.refl _ _).drew | assumption) ?_
  clear hK K
  intro hHeld2
  clear hHeld
  have hHeld := hHeld2
  clear hHeld2
  try simp only [Act.put, List.setIfInBounds_toArray, List.set_cons_zero, List.set_cons_succ]
  refine val_at (i := 6) 25 (v := ?_) rfl rfl (by kernel_rfl) (by rfl) ?_ ?_ ?_
  rotate_left
  · (go_simp; try with_reducible rfl)
  · (first | exact (Below.refl _ _).drew | assumption)
  intro hHeld2
  clear hHeld
  have hHeld := hHeld2
  clear hHeld2
  simp only [Act.put, List.setIfInBounds_toArray, List.set_cons_zero, List.set_cons_succ]
  refine take_at (i := 7) 26 (v := ?_) rfl rfl (by kernel_rfl) (by kernel_rfl) (by kernel_rfl) (fun _ _ _ h => h) (by rfl) ?_ hHeld ?_
  rotate_left
  · (intro w hSw; (try dsimp only at hSw); go_simp; try with_reducible rfl)
  simp only [Act.put, List.setIfInBounds_toArray, List.set_cons_zero, List.set_cons_succ]
  refine take_at (i := 8) 27 (v := ?_) rfl rfl (by kernel_rfl) (by kernel_rfl) (by kernel_rfl) (fun _ _ _ h => h) (by rfl) ?_ hHeld ?_
  rotate_left
  · (intro w hSw; (try dsimp only at hSw); go_simp; try with_reducible rfl)
  simp only [Act.put, List.setIfInBounds_toArray, List.set_cons_zero, List.set_cons_succ]
  refine take_at (i := 9) 28 (v := ?_) rfl rfl (by kernel_rfl) (by kernel_rfl) (by kernel_rfl) (fun _ _ _ h => h) (by rfl) ?_ hHeld ?_
  rotate_left
  · (intro w hSw; (try dsimp only at hSw); go_simp; try with_reducible rfl)
  simp only [Act.put, List.setIfInBounds_toArray, List.set_cons_zero, List.set_cons_succ]
  refine take_at (i := 10) 29 (v := ?_) rfl rfl (by kernel_rfl) (by kernel_rfl) (by kernel_rfl) (fun _ _ _ h => h) (by rfl) ?_ hHeld ?_
  rotate_left
  · (intro w hSw; (try dsimp only at hSw); go_simp; try with_reducible rfl)
  simp only [Act.put, List.setIfInBounds_toArray, List.set_cons_zero, List.set_cons_succ]
  refine run_at (i := 11) rfl (by kernel_rfl) (by rfl) (fun K hK => ?_)
  simp only [List.getElem_toArray, List.getElem_cons_zero, List.getElem_cons_succ]
  go_simp
  first | (go_at_call 16; refine (refBurst_n a0 _ cap0 xs0 rfl n1 m2 _ (hra3.below (by first | exact (Below.refl _ _).drew | assumption)) HN.out (by omega) ha0 ha1 hm2).mono ?_; rintro e w5 ⟨v5, rfl, hown5, hb5⟩; have hS5 := below_next (B := w3) (by first | exact (Below.refl _ _).drew | assumption) hb5; rw [HTS.out] at hown5; obtain ⟨a5, c5, hv5, -, -, -, hr5, -⟩ := hown5.val; have hcv5 := conv_rd hr5 xs0.length c5 HL.out; rw [← HL.out] at hv5; clear hb5 hown5; subst hv5) | (go_at_call 17; refine (stays_n _ _ c1 (xs0 ++ marksL) (len_marksB _).symm a0 _ cap0 xs0 rfl w5 ((Rd.of_ownB hoa3).below hS5) (hra3.below hS5) (by omega) rfl).mono ?_; rintro e w55 ⟨rfl, hw55⟩; have hw55' := hw55.symm; subst hw55') | (go_at_call 11; refine (knows_any w5 (ht3.below hS5)).mono ?_; rintro e w6 ⟨rfl, hb6⟩; have hS6 := below_next hS5 hb6)
  go_wp2_with fail
  refine hK.out _ _ (by first | exact (Below.refl _ _).drew | assumption) ?_
  clear hK K
  intro hHeld2
  clear hHeld
  have hHeld := hHeld2
  clear hHeld2
  try simp only [Act.put, List.setIfInBounds_toArray, List.set_cons_zero, List.set_cons_succ]
  refine take_at (i := 12) 31 (v := ?_) rfl rfl (by kernel_rfl) (by kernel_rfl) (by kernel_rfl) (fun _ _ _ h => h) (by rfl) ?_ hHeld ?_
  rotate_left
  · (intro w hSw; (try dsimp only at hSw); go_simp; try with_reducible rfl)
  simp only [Act.put, List.setIfInBounds_toArray, List.set_cons_zero, List.set_cons_succ]
  refine take_at (i := 13) 32 (v := ?_) rfl rfl (by kernel_rfl) (by kernel_rfl) (by kernel_rfl) (fun _ _ _ h => h) (by rfl) ?_ hHeld ?_
  rotate_left
  · (intro w hSw; (try dsimp only at hSw); go_simp; try with_reducible rfl)
  simp only [Act.put, List.setIfInBounds_toArray, List.set_cons_zero, List.set_cons_succ]
  refine take_at (i := 14) 33 (v := ?_) rfl rfl (by kernel_rfl) (by kernel_rfl) (by kernel_rfl) (fun _ _ _ h => h) (by rfl) ?_ hHeld ?_
  rotate_left
  · (intro w hSw; (try dsimp only at hSw); go_simp; try with_reducible rfl)
  simp only [Act.put, List.setIfInBounds_toArray, List.set_cons_zero, List.set_cons_succ]
  refine run_at (i := 15) rfl (by kernel_rfl) (by rfl) (fun K hK => ?_)
  simp only [List.getElem_toArray, List.getElem_cons_zero, List.getElem_cons_succ]
  go_simp
  first | (go_at_call 16; refine (refBurst_n a0 _ cap0 xs0 rfl n1 m2 _ (hra3.below (by first | exact (Below.refl _ _).drew | assumption)) HN.out (by omega) ha0 ha1 hm2).mono ?_; rintro e w5 ⟨v5, rfl, hown5, hb5⟩; have hS5 := below_next (B := w3) (by first | exact (Below.refl _ _).drew | assumption) hb5; rw [HTS.out] at hown5; obtain ⟨a5, c5, hv5, -, -, -, hr5, -⟩ := hown5.val; have hcv5 := conv_rd hr5 xs0.length c5 HL.out; rw [← HL.out] at hv5; clear hb5 hown5; subst hv5) | (go_at_call 17; refine (stays_n _ _ c1 (xs0 ++ marksL) (len_marksB _).symm a0 _ cap0 xs0 rfl w5 ((Rd.of_ownB hoa3).below hS5) (hra3.below hS5) (by omega) rfl).mono ?_; rintro e w55 ⟨rfl, hw55⟩; have hw55' := hw55.symm; subst hw55') | (go_at_call 11; refine (knows_any w5 (ht3.below hS5)).mono ?_; rintro e w6 ⟨rfl, hb6⟩; have hS6 := below_next hS5 hb6)
  go_wp2_with fail
  refine hK.out _ _ (by first | exact (Below.refl _ _).drew | assumption) ?_
  clear hK K
  intro hHeld2
  clear hHeld
  have hHeld := hHeld2
  clear hHeld2
  try simp only [Act.put, List.setIfInBounds_toArray, List.set_cons_zero, List.set_cons_succ]
  refine take_at (i := 16) 35 (v := ?_) rfl rfl (by kernel_rfl) (by kernel_rfl) (by kernel_rfl) (fun _ _ _ h => h) (by rfl) ?_ hHeld ?_
  rotate_left
  · (intro w hSw; (try dsimp only at hSw); go_simp; try with_reducible rfl)
  simp only [Act.put, List.setIfInBounds_toArray, List.set_cons_zero, List.set_cons_succ]
  refine take_at (i := 17) 36 (v := ?_) rfl rfl (by kernel_rfl) (by kernel_rfl) (by kernel_rfl) (fun _ _ _ h => h) (by rfl) ?_ hHeld ?_
  rotate_left
  · (intro w hSw; (try dsimp only at hSw); go_simp; try with_reducible rfl)
  simp only [Act.put, List.setIfInBounds_toArray, List.set_cons_zero, List.set_cons_succ]
  refine wpAnyH_done (by kernel_rfl) ?_ _
  refine NoPanic.normal ?_
  have hbw5 : Below w.heap.size w w6 := below_next hb13 hS6
  have ho5 := hoa3.below hS6
  have hos5 := hown3.below hS6
  have hz13 := hb3.size
  have hz36 := hS6.size
  clear hcs hoa3 hown1 hown3 hra hcv5 hr5 hra3 hr3
  go_wp2_with fail
  refine (turned_any _ g c1 xs0 w6 ho5 (by omega) hlc1).mono ?_
  rintro e w7 ⟨v7, rfl, hown7, hoa7, hg7⟩
  have hbw7 : Below w.heap.size w w7 := hbw5.grown hg7 hbw5.size (fun k hk => by cases hk; exact hgB)
  have hos7 := hos5.grown hg7 (apart_B2 (n' := 0) (c' := 0) (fun q hq => (hblk3 q hq).1) hgl)
  obtain ⟨a7, c7, hv7, hlc7, -, hn7, hr7, hblk7⟩ := hown7.val
  rw [xorL_len] at hv7 hlc7
  subst hv7
  have HN7 : Hid (a7 = none → c7 = 0) := hn7
  have hcs : ∀ u, Below w7.heap.size w7 u → (convert 22 9 (.slice a3 xs0.length c3)).run Tryd.prog u = .ok (.string ⟨ts.toArray⟩) u := fun u hu => conv_rd ((Rd.of_ownB hos7).below hu) _ c3 HL.out
  have hb7d : Below w7.heap.size w7 w7.drew := (Below.refl _ _).drew
  have hr07 := hr0.below hbw7
  have hz7 := hg7.size
  have hwg3 : ∀ k, Value.ownBlock (.slice a3 xs0.length c3) = some k → w.heap.size ≤ k := fun k hk => by
    rcases a3 with _ | q
    · cases hk
    · have h1 := hblk3 q rfl
      have h2 := hb1.size
      cases hk
      omega
  clear hn7 hg7 hos5 ho5
  go_wp2_with fail
  refine wp_region_noPanic ?_
  refine wp_region_held_drew (S := (fun u => Below w.heap.size w u)) (by kernel_rfl) (by first | exact hbw7.drew | assumption) (fun hHeld => ?_)
  refine take_at (i := 0) 39 (v := ?_) rfl rfl (by kernel_rfl) (by kernel_rfl) (by kernel_rfl) (fun _ _ _ h => h) (by rfl) ?_ hHeld ?_
  rotate_left
  · (intro w hSw; (try dsimp only at hSw); go_simp; try with_reducible rfl)
  simp only [Act.put, List.setIfInBounds_toArray, List.set_cons_zero, List.set_cons_succ]
  refine take_at (i := 2) 41 (v := ?_) rfl rfl (by kernel_rfl) (by kernel_rfl) (by kernel_rfl) (fun _ _ _ h => h) (by rfl) ?_ hHeld ?_
  rotate_left
  · (intro w hSw; (try dsimp only at hSw); go_simp; try with_reducible rfl)
  simp only [Act.put, List.setIfInBounds_toArray, List.set_cons_zero, List.set_cons_succ]
  refine take_at (i := 3) 42 (v := ?_) rfl rfl (by kernel_rfl) (by kernel_rfl) (by kernel_rfl) (fun _ _ _ h => h) (by rfl) ?_ hHeld ?_
  rotate_left
  · (intro w hSw; (try dsimp only at hSw); go_simp; try with_reducible rfl)
  simp only [Act.put, List.setIfInBounds_toArray, List.set_cons_zero, List.set_cons_succ]
  refine take_at (i := 4) 43 (v := ?_) rfl rfl (by kernel_rfl) (by kernel_rfl) (by kernel_rfl) (fun _ _ _ h => h) (by rfl) ?_ hHeld ?_
  rotate_left
  · (intro w hSw; (try dsimp only at hSw); go_simp; try with_reducible rfl)
  simp only [Act.put, List.setIfInBounds_toArray, List.set_cons_zero, List.set_cons_succ]
  refine wpAnyH_ready (rs := [1, 5]) (by kernel_rfl) (by simp) ?_
  refine AllReadyH.cons (o := _) rfl (fun K hK => ?_) ?_
  focus
    rw [if_pos (by rfl)]
    refine val_wp 40 (v := ?_) rfl ?_ ?_
    rotate_left
    · (go_simp; try with_reducible rfl)
    refine hK.out _ _ (by first | exact hbw7.drew | assumption) ?_
    clear hK K
    intro hHeld2
    clear hHeld
    have hHeld := hHeld2
    clear hHeld2
    simp only [Act.put, List.setIfInBounds_toArray, List.set_cons_zero, List.set_cons_succ]
    refine run_at (i := 5) rfl (by kernel_rfl) (by rfl) (fun K hK => ?_)
    simp only [List.getElem_toArray, List.getElem_cons_zero, List.getElem_cons_succ]
    go_simp
    first | (go_at_call 16; refine (refBurst_n a0 _ cap0 xs0 rfl n1 m2 w7.drew (hr07.below hb7d) HN.out (by omega) ha0 ha1 hm2).mono ?_; rintro e w8 ⟨v8, rfl, hown8, hb8⟩; have hS8 := below_next hb7d hb8; have hW8 : Below w.heap.size w w8 := below_next hbw7 hS8; rw [HTS.out] at hown8; obtain ⟨a8, c8, hv8, -, -, -, hr8, -⟩ := hown8.val; have hcv8 := conv_rd hr8 xs0.length c8 HL.out; rw [← HL.out] at hv8; clear hb8 hown8; subst hv8) | (go_at_call 19; refine (spoils_n _ _ _ c3 ts HL.out w8 ((hos7.below hS8).base (Nat.zero_le _)) (by omega) (Nat.zero_le _)).mono ?_; rintro e w9 ⟨rfl, hg9⟩; have hW9 : Below w.heap.size w w9 := hW8.grown hg9 hW8.size hwg3; have hoa9 := (hoa7.below hS8).grown hg9 (.inr (apart_B (fun q hq => (hblk3 q hq).1) hgl)); have hon9 := (hown7.below hS8).grown hg9 (apart_B3 (fun q hq => Nat.le_trans hz36 (hblk7 q hq).1) hblk3)) | (go_at_call 17; refine (stays_n _ _ c1 (xorL 21 xs0 ++ marksL) (by rw [len_marksB, xorL_len]) a7 _ c7 (xorL 21 xs0) (xorL_len _ _).symm w9 (Rd.of_ownB hoa9) (Rd.of_ownB hon9) (by omega) rfl).mono ?_; rintro e w10 ⟨rfl, hw10⟩; have hw10' := hw10.symm; subst hw10')
    go_wp2_with fail
    refine hK.out _ _ (by first | exact hbw7.drew | assumption) ?_
    clear hK K
    intro hHeld2
    clear hHeld
    have hHeld := hHeld2
    clear hHeld2
    try simp only [Act.put, List.setIfInBounds_toArray, List.set_cons_zero, List.set_cons_succ]
    refine val_at (i := 6) 45 (v := ?_) rfl rfl (by kernel_rfl) (by rfl) ?_ ?_ ?_
    rotate_left
    · (go_simp; try with_reducible rfl)
    · (first | exact hbw7.drew | assumption)
    intro hHeld2
    clear hHeld
    have hHeld := hHeld2
    clear hHeld2
    simp only [Act.put, List.setIfInBounds_toArray, List.set_cons_zero, List.set_cons_succ]
    refine take_at (i := 7) 46 (v := ?_) rfl rfl (by kernel_rfl) (by kernel_rfl) (by kernel_rfl) (fun _ _ _ h => h) (by rfl) ?_ hHeld ?_
    rotate_left
    · (intro w hSw; (try dsimp only at hSw); go_simp; try with_reducible rfl)
    simp only [Act.put, List.setIfInBounds_toArray, List.set_cons_zero, List.set_cons_succ]
    refine take_at (i := 8) 47 (v := ?_) rfl rfl (by kernel_rfl) (by kernel_rfl) (by kernel_rfl) (fun _ _ _ h => h) (by rfl) ?_ hHeld ?_
    rotate_left
    · (intro w hSw; (try dsimp only at hSw); go_simp; try with_reducible rfl)
    simp only [Act.put, List.setIfInBounds_toArray, List.set_cons_zero, List.set_cons_succ]
    refine take_at (i := 9) 48 (v := ?_) rfl rfl (by kernel_rfl) (by kernel_rfl) (by kernel_rfl) (fun _ _ _ h => h) (by rfl) ?_ hHeld ?_
    rotate_left
    · (intro w hSw; (try dsimp only at hSw); go_simp; try with_reducible rfl)
    simp only [Act.put, List.setIfInBounds_toArray, List.set_cons_zero, List.set_cons_succ]
    refine run_at (i := 10) rfl (by kernel_rfl) (by rfl) (fun K hK => ?_)
    simp only [List.getElem_toArray, List.getElem_cons_zero, List.getElem_cons_succ]
    go_simp
    first | (go_at_call 16; refine (refBurst_n a0 _ cap0 xs0 rfl n1 m2 w7.drew (hr07.below hb7d) HN.out (by omega) ha0 ha1 hm2).mono ?_; rintro e w8 ⟨v8, rfl, hown8, hb8⟩; have hS8 := below_next hb7d hb8; have hW8 : Below w.heap.size w w8 := below_next hbw7 hS8; rw [HTS.out] at hown8; obtain ⟨a8, c8, hv8, -, -, -, hr8, -⟩ := hown8.val; have hcv8 := conv_rd hr8 xs0.length c8 HL.out; rw [← HL.out] at hv8; clear hb8 hown8; subst hv8) | (go_at_call 19; refine (spoils_n _ _ _ c3 ts HL.out w8 ((hos7.below hS8).base (Nat.zero_le _)) (by omega) (Nat.zero_le _)).mono ?_; rintro e w9 ⟨rfl, hg9⟩; have hW9 : Below w.heap.size w w9 := hW8.grown hg9 hW8.size hwg3; have hoa9 := (hoa7.below hS8).grown hg9 (.inr (apart_B (fun q hq => (hblk3 q hq).1) hgl)); have hon9 := (hown7.below hS8).grown hg9 (apart_B3 (fun q hq => Nat.le_trans hz36 (hblk7 q hq).1) hblk3)) | (go_at_call 17; refine (stays_n _ _ c1 (xorL 21 xs0 ++ marksL) (by rw [len_marksB, xorL_len]) a7 _ c7 (xorL 21 xs0) (xorL_len _ _).symm w9 (Rd.of_ownB hoa9) (Rd.of_ownB hon9) (by omega) rfl).mono ?_; rintro e w10 ⟨rfl, hw10⟩; have hw10' := hw10.symm; subst hw10')
    go_wp2_with fail
    refine hK.out _ _ (by first | exact hbw7.drew | assumption) ?_
    clear hK K
    intro hHeld2
    clear hHeld
    have hHeld := hHeld2
    clear hHeld2
    try simp only [Act.put, List.setIfInBounds_toArray, List.set_cons_zero, List.set_cons_succ]
    refine take_at (i := 11) 50 (v := ?_) rfl rfl (by kernel_rfl) (by kernel_rfl) (by kernel_rfl) (fun _ _ _ h => h) (by rfl) ?_ hHeld ?_
    rotate_left
    · (intro w hSw; (try dsimp only at hSw); go_simp; try with_reducible rfl)
    simp only [Act.put, List.setIfInBounds_toArray, List.set_cons_zero, List.set_cons_succ]
    refine take_at (i := 12) 51 (v := ?_) rfl rfl (by kernel_rfl) (by kernel_rfl) (by kernel_rfl) (fun _ _ _ h => h) (by rfl) ?_ hHeld ?_
    rotate_left
    · (intro w hSw; (try dsimp only at hSw); go_simp; try with_reducible rfl)
    simp only [Act.put, List.setIfInBounds_toArray, List.set_cons_zero, List.set_cons_succ]
    refine take_at (i := 13) 52 (v := ?_) rfl rfl (by kernel_rfl) (by kernel_rfl) (by kernel_rfl) (fun _ _ _ h => h) (by rfl) ?_ hHeld ?_
    rotate_left
    · (intro w hSw; (try dsimp only at hSw); go_simp; try with_reducible rfl)
    simp only [Act.put, List.setIfInBounds_toArray, List.set_cons_zero, List.set_cons_succ]
    refine take_at (i := 14) 53 (v := ?_) rfl rfl (by kernel_rfl) (by kernel_rfl) (by kernel_rfl) (fun _ _ _ h => h) (by rfl) ?_ hHeld ?_
    rotate_left
    · (intro w hSw; (try dsimp only at hSw); go_simp; try with_reducible rfl)
    simp only [Act.put, List.setIfInBounds_toArray, List.set_cons_zero, List.set_cons_succ]
    refine take_at (i := 15) 54 (v := ?_) rfl rfl (by kernel_rfl) (by kernel_rfl) (by kernel_rfl) (fun _ _ _ h => h) (by rfl) ?_ hHeld ?_
    rotate_left
    · (intro w hSw; (try dsimp only at hSw); go_simp; try with_reducible rfl)
    simp only [Act.put, List.setIfInBounds_toArray, List.set_cons_zero, List.set_cons_succ]
    refine run_at (i := 16) rfl (by kernel_rfl) (by rfl) (fun K hK => ?_)
    simp only [List.getElem_toArray, List.getElem_cons_zero, List.getElem_cons_succ]
    go_simp
    first | (go_at_call 16; refine (refBurst_n a0 _ cap0 xs0 rfl n1 m2 w7.drew (hr07.below hb7d) HN.out (by omega) ha0 ha1 hm2).mono ?_; rintro e w8 ⟨v8, rfl, hown8, hb8⟩; have hS8 := below_next hb7d hb8; have hW8 : Below w.heap.size w w8 := below_next hbw7 hS8; rw [HTS.out] at hown8; obtain ⟨a8, c8, hv8, -, -, -, hr8, -⟩ := hown8.val; have hcv8 := conv_rd hr8 xs0.length c8 HL.out; rw [← HL.out] at hv8; clear hb8 hown8; subst hv8) | (go_at_call 19; refine (spoils_n _ _ _ c3 ts HL.out w8 ((hos7.below hS8).base (Nat.zero_le _)) (by omega) (Nat.zero_le _)).mono ?_; rintro e w9 ⟨rfl, hg9⟩; have hW9 : Below w.heap.size w w9 := hW8.grown hg9 hW8.size hwg3; have hoa9 := (hoa7.below hS8).grown hg9 (.inr (apart_B (fun q hq => (hblk3 q hq).1) hgl)); have hon9 := (hown7.below hS8).grown hg9 (apart_B3 (fun q hq => Nat.le_trans hz36 (hblk7 q hq).1) hblk3)) | (go_at_call 17; refine (stays_n _ _ c1 (xorL 21 xs0 ++ marksL) (by rw [len_marksB, xorL_len]) a7 _ c7 (xorL 21 xs0) (xorL_len _ _).symm w9 (Rd.of_ownB hoa9) (Rd.of_ownB hon9) (by omega) rfl).mono ?_; rintro e w10 ⟨rfl, hw10⟩; have hw10' := hw10.symm; subst hw10')
    go_wp2_with fail
    refine hK.out _ _ (by first | exact hbw7.drew | assumption) ?_
    clear hK K
    intro hHeld2
    clear hHeld
    have hHeld := hHeld2
    clear hHeld2
    try simp only [Act.put, List.setIfInBounds_toArray, List.set_cons_zero, List.set_cons_succ]
    refine take_at (i := 17) 56 (v := ?_) rfl rfl (by kernel_rfl) (by kernel_rfl) (by kernel_rfl) (fun _ _ _ h => h) (by rfl) ?_ hHeld ?_
    rotate_left
    · (intro w hSw; (try dsimp only at hSw); go_simp; try with_reducible rfl)
    simp only [Act.put, List.setIfInBounds_toArray, List.set_cons_zero, List.set_cons_succ]
    refine take_at (i := 18) 57 (v := ?_) rfl rfl (by kernel_rfl) (by kernel_rfl) (by kernel_rfl) (fun _ _ _ h => h) (by rfl) ?_ hHeld ?_
    rotate_left
    · (intro w hSw; (try dsimp only at hSw); go_simp; try with_reducible rfl)
    simp only [Act.put, List.setIfInBounds_toArray, List.set_cons_zero, List.set_cons_succ]
    refine wpAnyH_done (by kernel_rfl) ?_ _
    refine NoPanic.normal ?_
  rotate_left 1
  refine AllReadyH.cons (o := _) rfl (fun K hK => ?_) AllReadyH.nil
  focus
    rw [if_pos (by rfl)]
    simp only [List.getElem_toArray, List.getElem_cons_zero, List.getElem_cons_succ]
    go_simp
    first | (go_at_call 16; refine (refBurst_n a0 _ cap0 xs0 rfl n1 m2 w7.drew (hr07.below hb7d) HN.out (by omega) ha0 ha1 hm2).mono ?_; rintro e w8 ⟨v8, rfl, hown8, hb8⟩; have hS8 := below_next hb7d hb8; have hW8 : Below w.heap.size w w8 := below_next hbw7 hS8; rw [HTS.out] at hown8; obtain ⟨a8, c8, hv8, -, -, -, hr8, -⟩ := hown8.val; have hcv8 := conv_rd hr8 xs0.length c8 HL.out; rw [← HL.out] at hv8; clear hb8 hown8; subst hv8) | (go_at_call 19; refine (spoils_n _ _ _ c3 ts HL.out w8 ((hos7.below hS8).base (Nat.zero_le _)) (by omega) (Nat.zero_le _)).mono ?_; rintro e w9 ⟨rfl, hg9⟩; have hW9 : Below w.heap.size w w9 := hW8.grown hg9 hW8.size hwg3; have hoa9 := (hoa7.below hS8).grown hg9 (.inr (apart_B (fun q hq => (hblk3 q hq).1) hgl)); have hon9 := (hown7.below hS8).grown hg9 (apart_B3 (fun q hq => Nat.le_trans hz36 (hblk7 q hq).1) hblk3)) | (go_at_call 17; refine (stays_n _ _ c1 (xorL 21 xs0 ++ marksL) (by rw [len_marksB, xorL_len]) a7 _ c7 (xorL 21 xs0) (xorL_len _ _).symm w9 (Rd.of_ownB hoa9) (Rd.of_ownB hon9) (by omega) rfl).mono ?_; rintro e w10 ⟨rfl, hw10⟩; have hw10' := hw10.symm; subst hw10')
    go_wp2_with fail
    refine hK.out _ _ (by first | exact hbw7.drew | assumption) ?_
    clear hK K
    intro hHeld2
    clear hHeld
    have hHeld := hHeld2
    clear hHeld2
    try simp only [Act.put, List.setIfInBounds_toArray, List.set_cons_zero, List.set_cons_succ]
    refine wpAnyH_ready (rs := [1, 6]) (by kernel_rfl) (by simp) ?_
    refine AllReadyH.cons (o := _) rfl (fun K hK => ?_) ?_
    focus
      rw [if_pos (by rfl)]
      refine val_wp 40 (v := ?_) rfl ?_ ?_
      rotate_left
      · (go_simp; try with_reducible rfl)
      refine hK.out _ _ (by first | exact hbw7.drew | assumption) ?_
      clear hK K
      intro hHeld2
      clear hHeld
      have hHeld := hHeld2
      clear hHeld2
      simp only [Act.put, List.setIfInBounds_toArray, List.set_cons_zero, List.set_cons_succ]
      refine val_at (i := 6) 45 (v := ?_) rfl rfl (by kernel_rfl) (by rfl) ?_ ?_ ?_
      rotate_left
      · (go_simp; try with_reducible rfl)
      · (first | exact hbw7.drew | assumption)
      intro hHeld2
      clear hHeld
      have hHeld := hHeld2
      clear hHeld2
      simp only [Act.put, List.setIfInBounds_toArray, List.set_cons_zero, List.set_cons_succ]
      refine take_at (i := 7) 46 (v := ?_) rfl rfl (by kernel_rfl) (by kernel_rfl) (by kernel_rfl) (fun _ _ _ h => h) (by rfl) ?_ hHeld ?_
      rotate_left
      · (intro w hSw; (try dsimp only at hSw); go_simp; try with_reducible rfl)
      simp only [Act.put, List.setIfInBounds_toArray, List.set_cons_zero, List.set_cons_succ]
      refine take_at (i := 8) 47 (v := ?_) rfl rfl (by kernel_rfl) (by kernel_rfl) (by kernel_rfl) (fun _ _ _ h => h) (by rfl) ?_ hHeld ?_
      rotate_left
      · (intro w hSw; (try dsimp only at hSw); go_simp; try with_reducible rfl)
      simp only [Act.put, List.setIfInBounds_toArray, List.set_cons_zero, List.set_cons_succ]
      refine take_at (i := 9) 48 (v := ?_) rfl rfl (by kernel_rfl) (by kernel_rfl) (by kernel_rfl) (fun _ _ _ h => h) (by rfl) ?_ hHeld ?_
      rotate_left
      · (intro w hSw; (try dsimp only at hSw); go_simp; try with_reducible rfl)
      simp only [Act.put, List.setIfInBounds_toArray, List.set_cons_zero, List.set_cons_succ]
      refine run_at (i := 10) rfl (by kernel_rfl) (by rfl) (fun K hK => ?_)
      simp only [List.getElem_toArray, List.getElem_cons_zero, List.getElem_cons_succ]
      go_simp
      first | (go_at_call 16; refine (refBurst_n a0 _ cap0 xs0 rfl n1 m2 w7.drew (hr07.below hb7d) HN.out (by omega) ha0 ha1 hm2).mono ?_; rintro e w8 ⟨v8, rfl, hown8, hb8⟩; have hS8 := below_next hb7d hb8; have hW8 : Below w.heap.size w w8 := below_next hbw7 hS8; rw [HTS.out] at hown8; obtain ⟨a8, c8, hv8, -, -, -, hr8, -⟩ := hown8.val; have hcv8 := conv_rd hr8 xs0.length c8 HL.out; rw [← HL.out] at hv8; clear hb8 hown8; subst hv8) | (go_at_call 19; refine (spoils_n _ _ _ c3 ts HL.out w8 ((hos7.below hS8).base (Nat.zero_le _)) (by omega) (Nat.zero_le _)).mono ?_; rintro e w9 ⟨rfl, hg9⟩; have hW9 : Below w.heap.size w w9 := hW8.grown hg9 hW8.size hwg3; have hoa9 := (hoa7.below hS8).grown hg9 (.inr (apart_B (fun q hq => (hblk3 q hq).1) hgl)); have hon9 := (hown7.below hS8).grown hg9 (apart_B3 (fun q hq => Nat.le_trans hz36 (hblk7 q hq).1) hblk3)) | (go_at_call 17; refine (stays_n _ _ c1 (xorL 21 xs0 ++ marksL) (by rw [len_marksB, xorL_len]) a7 _ c7 (xorL 21 xs0) (xorL_len _ _).symm w9 (Rd.of_ownB hoa9) (Rd.of_ownB hon9) (by omega) rfl).mono ?_; rintro e w10 ⟨rfl, hw10⟩; have hw10' := hw10.symm; subst hw10')
      go_wp2_with fail
      refine hK.out _ _ (by first | exact hbw7.drew | assumption) ?_
      clear hK K
      intro hHeld2
      clear hHeld
      have hHeld := hHeld2
      clear hHeld2
      try simp only [Act.put, List.setIfInBounds_toArray, List.set_cons_zero, List.set_cons_succ]
      refine take_at (i := 11) 50 (v := ?_) rfl rfl (by kernel_rfl) (by kernel_rfl) (by kernel_rfl) (fun _ _ _ h => h) (by rfl) ?_ hHeld ?_
      rotate_left
      · (intro w hSw; (try dsimp only at hSw); go_simp; try with_reducible rfl)
      simp only [Act.put, List.setIfInBounds_toArray, List.set_cons_zero, List.set_cons_succ]
      refine take_at (i := 12) 51 (v := ?_) rfl rfl (by kernel_rfl) (by kernel_rfl) (by kernel_rfl) (fun _ _ _ h => h) (by rfl) ?_ hHeld ?_
      rotate_left
      · (intro w hSw; (try dsimp only at hSw); go_simp; try with_reducible rfl)
      simp only [Act.put, List.setIfInBounds_toArray, List.set_cons_zero, List.set_cons_succ]
      refine take_at (i := 13) 52 (v := ?_) rfl rfl (by kernel_rfl) (by kernel_rfl) (by kernel_rfl) (fun _ _ _ h => h) (by rfl) ?_ hHeld ?_
      rotate_left
      · (intro w hSw; (try dsimp only at hSw); go_simp; try with_reducible rfl)
      simp only [Act.put, List.setIfInBounds_toArray, List.set_cons_zero, List.set_cons_succ]
      refine take_at (i := 14) 53 (v := ?_) rfl rfl (by kernel_rfl) (by kernel_rfl) (by kernel_rfl) (fun _ _ _ h => h) (by rfl) ?_ hHeld ?_
      rotate_left
      · (intro w hSw; (try dsimp only at hSw); go_simp; try with_reducible rfl)
      simp only [Act.put, List.setIfInBounds_toArray, List.set_cons_zero, List.set_cons_succ]
      refine take_at (i := 15) 54 (v := ?_) rfl rfl (by kernel_rfl) (by kernel_rfl) (by kernel_rfl) (fun _ _ _ h => h) (by rfl) ?_ hHeld ?_
      rotate_left
      · (intro w hSw; (try dsimp only at hSw); go_simp; try with_reducible rfl)
      simp only [Act.put, List.setIfInBounds_toArray, List.set_cons_zero, List.set_cons_succ]
      refine run_at (i := 16) rfl (by kernel_rfl) (by rfl) (fun K hK => ?_)
      simp only [List.getElem_toArray, List.getElem_cons_zero, List.getElem_cons_succ]
      go_simp
      first | (go_at_call 16; refine (refBurst_n a0 _ cap0 xs0 rfl n1 m2 w7.drew (hr07.below hb7d) HN.out (by omega) ha0 ha1 hm2).mono ?_; rintro e w8 ⟨v8, rfl, hown8, hb8⟩; have hS8 := below_next hb7d hb8; have hW8 : Below w.heap.size w w8 := below_next hbw7 hS8; rw [HTS.out] at hown8; obtain ⟨a8, c8, hv8, -, -, -, hr8, -⟩ := hown8.val; have hcv8 := conv_rd hr8 xs0.length c8 HL.out; rw [← HL.out] at hv8; clear hb8 hown8; subst hv8) | (go_at_call 19; refine (spoils_n _ _ _ c3 ts HL.out w8 ((hos7.below hS8).base (Nat.zero_le _)) (by omega) (Nat.zero_le _)).mono ?_; rintro e w9 ⟨rfl, hg9⟩; have hW9 : Below w.heap.size w w9 := hW8.grown hg9 hW8.size hwg3; have hoa9 := (hoa7.below hS8).grown hg9 (.inr (apart_B (fun q hq => (hblk3 q hq).1) hgl)); have hon9 := (hown7.below hS8).grown hg9 (apart_B3 (fun q hq => Nat.le_trans hz36 (hblk7 q hq).1) hblk3)) | (go_at_call 17; refine (stays_n _ _ c1 (xorL 21 xs0 ++ marksL) (by rw [len_marksB, xorL_len]) a7 _ c7 (xorL 21 xs0) (xorL_len _ _).symm w9 (Rd.of_ownB hoa9) (Rd.of_ownB hon9) (by omega) rfl).mono ?_; rintro e w10 ⟨rfl, hw10⟩; have hw10' := hw10.symm; subst hw10')
      go_wp2_with fail
      refine hK.out _ _ (by first | exact hbw7.drew | assumption) ?_
      clear hK K
      intro hHeld2
      clear hHeld
      have hHeld := hHeld2
      clear hHeld2
      try simp only [Act.put, List.setIfInBounds_toArray, List.set_cons_zero, List.set_cons_succ]
      refine take_at (i := 17) 56 (v := ?_) rfl rfl (by kernel_rfl) (by kernel_rfl) (by kernel_rfl) (fun _ _ _ h => h) (by rfl) ?_ hHeld ?_
      rotate_left
      · (intro w hSw; (try dsimp only at hSw); go_simp; try with_reducible rfl)
      simp only [Act.put, List.setIfInBounds_toArray, List.set_cons_zero, List.set_cons_succ]
      refine take_at (i := 18) 57 (v := ?_) rfl rfl (by kernel_rfl) (by kernel_rfl) (by kernel_rfl) (fun _ _ _ h => h) (by rfl) ?_ hHeld ?_
      rotate_left
      · (intro w hSw; (try dsimp only at hSw); go_simp; try with_reducible rfl)
      simp only [Act.put, List.setIfInBounds_toArray, List.set_cons_zero, List.set_cons_succ]
      refine wpAnyH_done (by kernel_rfl) ?_ _
      refine NoPanic.normal ?_
    rotate_left 1
    refine AllReadyH.cons (o := _) rfl (fun K hK => ?_) AllReadyH.nil
    focus
      rw [if_pos (by rfl)]
      refine val_wp 45 (v := ?_) rfl ?_ ?_
      rotate_left
      · (go_simp; try with_reducible rfl)
      refine hK.out _ _ (by first | exact hbw7.drew | assumption) ?_
      clear hK K
      intro hHeld2
      clear hHeld
      have hHeld := hHeld2
      clear hHeld2
      simp only [Act.put, List.setIfInBounds_toArray, List.set_cons_zero, List.set_cons_succ]
      refine val_at (i := 1) 40 (v := ?_) rfl rfl (by kernel_rfl) (by rfl) ?_ ?_ ?_
      rotate_left
      · (go_simp; try with_reducible rfl)
      · (first | exact hbw7.drew | assumption)
      intro hHeld2
      clear hHeld
      have hHeld := hHeld2
      clear hHeld2
      simp only [Act.put, List.setIfInBounds_toArray, List.set_cons_zero, List.set_cons_succ]
      refine take_at (i := 7) 46 (v := ?_) rfl rfl (by kernel_rfl) (by kernel_rfl) (by kernel_rfl) (fun _ _ _ h => h) (by rfl) ?_ hHeld ?_
      rotate_left
      · (intro w hSw; (try dsimp only at hSw); go_simp; try with_reducible rfl)
      simp only [Act.put, List.setIfInBounds_toArray, List.set_cons_zero, List.set_cons_succ]
      refine take_at (i := 8) 47 (v := ?_) rfl rfl (by kernel_rfl) (by kernel_rfl) (by kernel_rfl) (fun _ _ _ h => h) (by rfl) ?_ hHeld ?_
      rotate_left
      · (intro w hSw; (try dsimp only at hSw); go_simp; try with_reducible rfl)
      simp only [Act.put, List.setIfInBounds_toArray, List.set_cons_zero, List.set_cons_succ]
      refine take_at (i := 9) 48 (v := ?_) rfl rfl (by kernel_rfl) (by kernel_rfl) (by kernel_rfl) (fun _ _ _ h => h) (by rfl) ?_ hHeld ?_
      rotate_left
      · (intro w hSw; (try dsimp only at hSw); go_simp; try with_reducible rfl)
      simp only [Act.put, List.setIfInBounds_toArray, List.set_cons_zero, List.set_cons_succ]
      refine run_at (i := 10) rfl (by kernel_rfl) (by rfl) (fun K hK => ?_)
      simp only [List.getElem_toArray, List.getElem_cons_zero, List.getElem_cons_succ]
      go_simp
      first | (go_at_call 16; refine (refBurst_n a0 _ cap0 xs0 rfl n1 m2 w7.drew (hr07.below hb7d) HN.out (by omega) ha0 ha1 hm2).mono ?_; rintro e w8 ⟨v8, rfl, hown8, hb8⟩; have hS8 := below_next hb7d hb8; have hW8 : Below w.heap.size w w8 := below_next hbw7 hS8; rw [HTS.out] at hown8; obtain ⟨a8, c8, hv8, -, -, -, hr8, -⟩ := hown8.val; have hcv8 := conv_rd hr8 xs0.length c8 HL.out; rw [← HL.out] at hv8; clear hb8 hown8; subst hv8) | (go_at_call 19; refine (spoils_n _ _ _ c3 ts HL.out w8 ((hos7.below hS8).base (Nat.zero_le _)) (by omega) (Nat.zero_le _)).mono ?_; rintro e w9 ⟨rfl, hg9⟩; have hW9 : Below w.heap.size w w9 := hW8.grown hg9 hW8.size hwg3; have hoa9 := (hoa7.below hS8).grown hg9 (.inr (apart_B (fun q hq => (hblk3 q hq).1) hgl)); have hon9 := (hown7.below hS8).grown hg9 (apart_B3 (fun q hq => Nat.le_trans hz36 (hblk7 q hq).1) hblk3)) | (go_at_call 17; refine (stays_n _ _ c1 (xorL 21 xs0 ++ marksL) (by rw [len_marksB, xorL_len]) a7 _ c7 (xorL 21 xs0) (xorL_len _ _).symm w9 (Rd.of_ownB hoa9) (Rd.of_ownB hon9) (by omega) rfl).mono ?_; rintro e w10 ⟨rfl, hw10⟩; have hw10' := hw10.symm; subst hw10')
      go_wp2_with fail
      refine hK.out _ _ (by first | exact hbw7.drew | assumption) ?_
      clear hK K
      intro hHeld2
      clear hHeld
      have hHeld := hHeld2
      clear hHeld2
      try simp only [Act.put, List.setIfInBounds_toArray, List.set_cons_zero, List.set_cons_succ]
      refine take_at (i := 11) 50 (v := ?_) rfl rfl (by kernel_rfl) (by kernel_rfl) (by kernel_rfl) (fun _ _ _ h => h) (by rfl) ?_ hHeld ?_
      rotate_left
      · (intro w hSw; (try dsimp only at hSw); go_simp; try with_reducible rfl)
      simp only [Act.put, List.setIfInBounds_toArray, List.set_cons_zero, List.set_cons_succ]
      refine take_at (i := 12) 51 (v := ?_) rfl rfl (by kernel_rfl) (by kernel_rfl) (by kernel_rfl) (fun _ _ _ h => h) (by rfl) ?_ hHeld ?_
      rotate_left
      · (intro w hSw; (try dsimp only at hSw); go_simp; try with_reducible rfl)
      simp only [Act.put, List.setIfInBounds_toArray, List.set_cons_zero, List.set_cons_succ]
      refine take_at (i := 13) 52 (v := ?_) rfl rfl (by kernel_rfl) (by kernel_rfl) (by kernel_rfl) (fun _ _ _ h => h) (by rfl) ?_ hHeld ?_
      rotate_left
      · (intro w hSw; (try dsimp only at hSw); go_simp; try with_reducible rfl)
      simp only [Act.put, List.setIfInBounds_toArray, List.set_cons_zero, List.set_cons_succ]
      refine take_at (i := 14) 53 (v := ?_) rfl rfl (by kernel_rfl) (by kernel_rfl) (by kernel_rfl) (fun _ _ _ h => h) (by rfl) ?_ hHeld ?_
      rotate_left
      · (intro w hSw; (try dsimp only at hSw); go_simp; try with_reducible rfl)
      simp only [Act.put, List.setIfInBounds_toArray, List.set_cons_zero, List.set_cons_succ]
      refine take_at (i := 15) 54 (v := ?_) rfl rfl (by kernel_rfl) (by kernel_rfl) (by kernel_rfl) (fun _ _ _ h => h) (by rfl) ?_ hHeld ?_
      rotate_left
      · (intro w hSw; (try dsimp only at hSw); go_simp; try with_reducible rfl)
      simp only [Act.put, List.setIfInBounds_toArray, List.set_cons_zero, List.set_cons_succ]
      refine run_at (i := 16) rfl (by kernel_rfl) (by rfl) (fun K hK => ?_)
      simp only [List.getElem_toArray, List.getElem_cons_zero, List.getElem_cons_succ]
      go_simp
      first | (go_at_call 16; refine (refBurst_n a0 _ cap0 xs0 rfl n1 m2 w7.drew (hr07.below hb7d) HN.out (by omega) ha0 ha1 hm2).mono ?_; rintro e w8 ⟨v8, rfl, hown8, hb8⟩; have hS8 := below_next hb7d hb8; have hW8 : Below w.heap.size w w8 := below_next hbw7 hS8; rw [HTS.out] at hown8; obtain ⟨a8, c8, hv8, -, -, -, hr8, -⟩ := hown8.val; have hcv8 := conv_rd hr8 xs0.length c8 HL.out; rw [← HL.out] at hv8; clear hb8 hown8; subst hv8) | (go_at_call 19; refine (spoils_n _ _ _ c3 ts HL.out w8 ((hos7.below hS8).base (Nat.zero_le _)) (by omega) (Nat.zero_le _)).mono ?_; rintro e w9 ⟨rfl, hg9⟩; have hW9 : Below w.heap.size w w9 := hW8.grown hg9 hW8.size hwg3; have hoa9 := (hoa7.below hS8).grown hg9 (.inr (apart_B (fun q hq => (hblk3 q hq).1) hgl)); have hon9 := (hown7.below hS8).grown hg9 (apart_B3 (fun q hq => Nat.le_trans hz36 (hblk7 q hq).1) hblk3)) | (go_at_call 17; refine (stays_n _ _ c1 (xorL 21 xs0 ++ marksL) (by rw [len_marksB, xorL_len]) a7 _ c7 (xorL 21 xs0) (xorL_len _ _).symm w9 (Rd.of_ownB hoa9) (Rd.of_ownB hon9) (by omega) rfl).mono ?_; rintro e w10 ⟨rfl, hw10⟩; have hw10' := hw10.symm; subst hw10')
      go_wp2_with fail
      refine hK.out _ _ (by first | exact hbw7.drew | assumption) ?_
      clear hK K
      intro hHeld2
      clear hHeld
      have hHeld := hHeld2
      clear hHeld2
      try simp only [Act.put, List.setIfInBounds_toArray, List.set_cons_zero, List.set_cons_succ]
      refine take_at (i := 17) 56 (v := ?_) rfl rfl (by kernel_rfl) (by kernel_rfl) (by kernel_rfl) (fun _ _ _ h => h) (by rfl) ?_ hHeld ?_
      rotate_left
      · (intro w hSw; (try dsimp only at hSw); go_simp; try with_reducible rfl)
      simp only [Act.put, List.setIfInBounds_toArray, List.set_cons_zero, List.set_cons_succ]
      refine take_at (i := 18) 57 (v := ?_) rfl rfl (by kernel_rfl) (by kernel_rfl) (by kernel_rfl) (fun _ _ _ h => h) (by rfl) ?_ hHeld ?_
      rotate_left
      · (intro w hSw; (try dsimp only at hSw); go_simp; try with_reducible rfl)
      simp only [Act.put, List.setIfInBounds_toArray, List.set_cons_zero, List.set_cons_succ]
      refine wpAnyH_done (by kernel_rfl) ?_ _
      refine NoPanic.normal ?_
  all_goals
    have hrax : Rd w9 (some ⟨g, 0, none⟩) (xorL 21 xs0) := by
      have h := (Rd.of_ownB hoa9).take (xorL 21 xs0).length
      rwa [List.take_left' rfl] at h
    have hrnx : Rd w9 a7 (xorL 21 xs0) := Rd.of_ownB hon9
    have HXL : Hid (xs0.length = (xorL 21 xs0).length) := (xorL_len 21 xs0).symm
    clear hoa9 hon9 hoa7 hown7 hos7 hcs hcv8 hr8 hr7 hg9
    go_wp2_with fail
    refine wp_region_noPanic ?_
    refine wp_region_held_drew (S := (fun u => Below w9.heap.size w9 u)) (by kernel_rfl) (by first | exact (Below.refl _ _).drew | assumption) (fun hHeld => ?_)
    refine take_at (i := 0) 58 (v := ?_) rfl rfl (by kernel_rfl) (by kernel_rfl) (by kernel_rfl) (fun _ _ _ h => h) (by rfl) ?_ hHeld ?_
    rotate_left
    · (intro w hSw; (try dsimp only at hSw); go_simp; try with_reducible rfl)
    simp only [Act.put, List.setIfInBounds_toArray, List.set_cons_zero, List.set_cons_succ]
    refine take_at (i := 1) 59 (v := ?_) rfl rfl (by kernel_rfl) (by kernel_rfl) (by kernel_rfl) (fun _ _ _ h => h) (by rfl) ?_ hHeld ?_
    rotate_left
    · (intro w hSw; (try dsimp only at hSw); go_simp; try with_reducible rfl)
    simp only [Act.put, List.setIfInBounds_toArray, List.set_cons_zero, List.set_cons_succ]
    refine take_at (i := 2) 60 (v := ?_) rfl rfl (by kernel_rfl) (by kernel_rfl) (by kernel_rfl) (fun _ _ _ h => h) (by rfl) ?_ hHeld ?_
    rotate_left
    · (intro w hSw; (try dsimp only at hSw); go_simp; try with_reducible rfl)
    simp only [Act.put, List.setIfInBounds_toArray, List.set_cons_zero, List.set_cons_succ]
    refine take_at (i := 3) 61 (v := ?_) rfl rfl (by kernel_rfl) (by kernel_rfl) (by kernel_rfl) (fun _ _ _ h => h) (by rfl) ?_ hHeld ?_
    rotate_left
    · (intro w hSw; (try dsimp only at hSw); go_simp; try with_reducible rfl)
    simp only [Act.put, List.setIfInBounds_toArray, List.set_cons_zero, List.set_cons_succ]
    refine take_at (i := 4) 62 (v := ?_) rfl rfl (by kernel_rfl) (by kernel_rfl) (by kernel_rfl) (fun _ _ _ h => h) (by rfl) ?_ hHeld ?_
    rotate_left
    · (intro w hSw; (try dsimp only at hSw); go_simp; try with_reducible rfl)
    simp only [Act.put, List.setIfInBounds_toArray, List.set_cons_zero, List.set_cons_succ]
    refine take_at (i := 5) 63 (v := ?_) rfl rfl (by kernel_rfl) (by kernel_rfl) (by kernel_rfl) (fun _ _ _ h => h) (by rfl) ?_ hHeld ?_
    rotate_left
    · (intro w hSw; (try dsimp only at hSw); go_simp; try with_reducible rfl)
    simp only [Act.put, List.setIfInBounds_toArray, List.set_cons_zero, List.set_cons_succ]
    refine take_at (i := 8) 66 (v := ?_) rfl rfl (by kernel_rfl) (by kernel_rfl) (by kernel_rfl) (fun _ _ _ h => h) (by rfl) ?_ hHeld ?_
    rotate_left
    · (intro w hSw; (try dsimp only at hSw); go_simp; try with_reducible rfl)
    simp only [Act.put, List.setIfInBounds_toArray, List.set_cons_zero, List.set_cons_succ]
    refine take_at (i := 9) 67 (v := ?_) rfl rfl (by kernel_rfl) (by kernel_rfl) (by kernel_rfl) (fun _ _ _ h => h) (by rfl) ?_ hHeld ?_
    rotate_left
    · (intro w hSw; (try dsimp only at hSw); go_simp; try with_reducible rfl)
    simp only [Act.put, List.setIfInBounds_toArray, List.set_cons_zero, List.set_cons_succ]
    refine take_at (i := 10) 68 (v := ?_) rfl rfl (by kernel_rfl) (by kernel_rfl) (by kernel_rfl) (fun _ _ _ h => h) (by rfl) ?_ hHeld ?_
    rotate_left
    · (intro w hSw; (try dsimp only at hSw); go_simp; try with_reducible rfl)
    simp only [Act.put, List.setIfInBounds_toArray, List.set_cons_zero, List.set_cons_succ]
    refine run_at (i := 6) rfl (by kernel_rfl) (by rfl) (fun K hK => ?_)
    simp only [List.getElem_toArray, List.getElem_cons_zero, List.getElem_cons_succ]
    go_simp
    first | (go_at_call 13; refine (burst_n _ _ c1 (xorL 21 xs0) HXL.out n1 m2 _ (hrax.below (by first | exact (Below.refl _ _).drew | assumption)) (fun h => by cases h) (by omega) ha0 ha1 hm2).mono ?_; rintro e wc ⟨vc, rfl, hownc, hbc⟩; have hSc := below_next (B := w9) (by first | exact (Below.refl _ _).drew | assumption) hbc; obtain ⟨ac, cc, hvc, -, -, -, hrc, -⟩ := hownc.val; rw [← HL2.out] at hvc; subst hvc; have hcvc := fun (u : World) (hu : Below wc.heap.size wc u) => conv_rd (hrc.below hu) xs0.length cc HL2.out; have hcvc0 := conv_rd hrc xs0.length cc HL2.out) | (go_at_call 16; refine (refBurst_n _ _ c7 (xorL 21 xs0) HXL.out n1 m2 _ (hrnx.below (by first | exact (Below.refl _ _).drew | assumption)) HN7.out (by omega) ha0 ha1 hm2).mono ?_; rintro e wd ⟨vd, rfl, hownd, hbd⟩; have hSd := below_next (B := w9) (by first | exact (Below.refl _ _).drew | assumption) hbd; obtain ⟨ad, cd, hvd, -, -, -, hrd, -⟩ := hownd.val; rw [← HL2.out] at hvd; subst hvd; have hcvd0 := conv_rd hrd xs0.length cd HL2.out)
    go_wp2_with fail
    refine hK.out _ _ (by first | exact (Below.refl _ _).drew | assumption) ?_
    clear hK K
    intro hHeld2
    clear hHeld
    have hHeld := hHeld2
    clear hHeld2
    try simp only [Act.put, List.setIfInBounds_toArray, List.set_cons_zero, List.set_cons_succ]
    refine wpAnyH_ready (rs := [7, 11]) (by kernel_rfl) (by simp) ?_
    refine AllReadyH.cons (o := _) rfl (fun K hK => ?_) ?_
    focus
      rw [if_pos (by rfl)]
      refine val_wp 65 (v := ?_) rfl ?_ ?_
      rotate_left
      · (go_simp; try with_reducible rfl)
      refine hK.out _ _ (by first | exact (Below.refl _ _).drew | assumption) ?_
      clear hK K
      intro hHeld2
      clear hHeld
      have hHeld := hHeld2
      clear hHeld2
      simp only [Act.put, List.setIfInBounds_toArray, List.set_cons_zero, List.set_cons_succ]
      refine run_at (i := 11) rfl (by kernel_rfl) (by rfl) (fun K hK => ?_)
      simp only [List.getElem_toArray, List.getElem_cons_zero, List.getElem_cons_succ]
      go_simp
      first | (go_at_call 13; refine (burst_n _ _ c1 (xorL 21 xs0) HXL.out n1 m2 _ (hrax.below (by first | exact (Below.refl _ _).drew | assumption)) (fun h => by cases h) (by omega) ha0 ha1 hm2).mono ?_; rintro e wc ⟨vc, rfl, hownc, hbc⟩; have hSc := below_next (B := w9) (by first | exact (Below.refl _ _).drew | assumption) hbc; obtain ⟨ac, cc, hvc, -, -, -, hrc, -⟩ := hownc.val; rw [← HL2.out] at hvc; subst hvc; have hcvc := fun (u : World) (hu : Below wc.heap.size wc u) => conv_rd (hrc.below hu) xs0.length cc HL2.out; have hcvc0 := conv_rd hrc xs0.length cc HL2.out) | (go_at_call 16; refine (refBurst_n _ _ c7 (xorL 21 xs0) HXL.out n1 m2 _ (hrnx.below (by first | exact (Below.refl _ _).drew | assumption)) HN7.out (by omega) ha0 ha1 hm2).mono ?_; rintro e wd ⟨vd, rfl, hownd, hbd⟩; have hSd := below_next (B := w9) (by first | exact (Below.refl _ _).drew | assumption) hbd; obtain ⟨ad, cd, hvd, -, -, -, hrd, -⟩ := hownd.val; rw [← HL2.out] at hvd; subst hvd; have hcvd0 := conv_rd hrd xs0.length cd HL2.out)
      go_wp2_with fail
      refine hK.out _ _ (by first | exact (Below.refl _ _).drew | assumption) ?_
      clear hK K
      intro hHeld2
      clear hHeld
      have hHeld := hHeld2
      clear hHeld2
      try simp only [Act.put, List.setIfInBounds_toArray, List.set_cons_zero, List.set_cons_succ]
      refine val_at (i := 12) 70 (v := ?_) rfl rfl (by kernel_rfl) (by rfl) ?_ ?_ ?_
      rotate_left
      · (go_simp; try with_reducible rfl)
      · (first | exact (Below.refl _ _).drew | assumption)
      intro hHeld2
      clear hHeld
      have hHeld := hHeld2
      clear hHeld2
      simp only [Act.put, List.setIfInBounds_toArray, List.set_cons_zero, List.set_cons_succ]
      refine take_at (i := 13) 71 (v := ?_) rfl rfl (by kernel_rfl) (by kernel_rfl) (by kernel_rfl) (fun _ _ _ h => h) (by rfl) ?_ hHeld ?_
      rotate_left
      · (intro w hSw; (try dsimp only at hSw); go_simp; try with_reducible rfl)
      simp only [Act.put, List.setIfInBounds_toArray, List.set_cons_zero, List.set_cons_succ]
      refine take_at (i := 14) 6 (v := ?_) rfl rfl (by kernel_rfl) (by kernel_rfl) (by kernel_rfl) (fun _ _ _ h => h) (by rfl) ?_ hHeld ?_
      rotate_left
      · (intro w hSw; (try dsimp only at hSw); go_simp; try with_reducible rfl)
      simp only [Act.put, List.setIfInBounds_toArray, List.set_cons_zero, List.set_cons_succ]
      refine wpAnyH_done (by kernel_rfl) ?_ _
      refine NoPanic.normal ?_
    rotate_left 1
    refine AllReadyH.cons (o := _) rfl (fun K hK => ?_) AllReadyH.nil
    focus
      rw [if_pos (by rfl)]
      simp only [List.getElem_toArray, List.getElem_cons_zero, List.getElem_cons_succ]
      go_simp
      first | (go_at_call 13; refine (burst_n _ _ c1 (xorL 21 xs0) HXL.out n1 m2 _ (hrax.below (by first | exact (Below.refl _ _).drew | assumption)) (fun h => by cases h) (by omega) ha0 ha1 hm2).mono ?_; rintro e wc ⟨vc, rfl, hownc, hbc⟩; have hSc := below_next (B := w9) (by first | exact (Below.refl _ _).drew | assumption) hbc; obtain ⟨ac, cc, hvc, -, -, -, hrc, -⟩ := hownc.val; rw [← HL2.out] at hvc; subst hvc; have hcvc := fun (u : World) (hu : Below wc.heap.size wc u) => conv_rd (hrc.below hu) xs0.length cc HL2.out; have hcvc0 := conv_rd hrc xs0.length cc HL2.out) | (go_at_call 16; refine (refBurst_n _ _ c7 (xorL 21 xs0) HXL.out n1 m2 _ (hrnx.below (by first | exact (Below.refl _ _).drew | assumption)) HN7.out (by omega) ha0 ha1 hm2).mono ?_; rintro e wd ⟨vd, rfl, hownd, hbd⟩; have hSd := below_next (B := w9) (by first | exact (Below.refl _ _).drew | assumption) hbd; obtain ⟨ad, cd, hvd, -, -, -, hrd, -⟩ := hownd.val; rw [← HL2.out] at hvd; subst hvd; have hcvd0 := conv_rd hrd xs0.length cd HL2.out)
      go_wp2_with fail
      refine hK.out _ _ (by first | exact (Below.refl _ _).drew | assumption) ?_
      clear hK K
      intro hHeld2
      clear hHeld
      have hHeld := hHeld2
      clear hHeld2
      try simp only [Act.put, List.setIfInBounds_toArray, List.set_cons_zero, List.set_cons_succ]
      refine wpAnyH_ready (rs := [7, 12]) (by kernel_rfl) (by simp) ?_
      refine AllReadyH.cons (o := _) rfl (fun K hK => ?_) ?_
      focus
        rw [if_pos (by rfl)]
        refine val_wp 65 (v := ?_) rfl ?_ ?_
        rotate_left
        · (go_simp; try with_reducible rfl)
        refine hK.out _ _ (by first | exact (Below.refl _ _).drew | assumption) ?_
        clear hK K
        intro hHeld2
        clear hHeld
        have hHeld := hHeld2
        clear hHeld2
        simp only [Act.put, List.setIfInBounds_toArray, List.set_cons_zero, List.set_cons_succ]
        refine val_at (i := 12) 70 (v := ?_) rfl rfl (by kernel_rfl) (by rfl) ?_ ?_ ?_
        rotate_left
        · (go_simp; try with_reducible rfl)
        · (first | exact (Below.refl _ _).drew | assumption)
        intro hHeld2
        clear hHeld
        have hHeld := hHeld2
        clear hHeld2
        simp only [Act.put, List.setIfInBounds_toArray, List.set_cons_zero, List.set_cons_succ]
        refine take_at (i := 13) 71 (v := ?_) rfl rfl (by kernel_rfl) (by kernel_rfl) (by kernel_rfl) (fun _ _ _ h => h) (by rfl) ?_ hHeld ?_
        rotate_left
        · (intro w hSw; (try dsimp only at hSw); go_simp; try with_reducible rfl)
        simp only [Act.put, List.setIfInBounds_toArray, List.set_cons_zero, List.set_cons_succ]
        refine take_at (i := 14) 6 (v := ?_) rfl rfl (by kernel_rfl) (by kernel_rfl) (by kernel_rfl) (fun _ _ _ h => h) (by rfl) ?_ hHeld ?_
        rotate_left
        · (intro w hSw; (try dsimp only at hSw); go_simp; try with_reducible rfl)
        simp only [Act.put, List.setIfInBounds_toArray, List.set_cons_zero, List.set_cons_succ]
        refine wpAnyH_done (by kernel_rfl) ?_ _
        refine NoPanic.normal ?_
      rotate_left 1
      refine AllReadyH.cons (o := _) rfl (fun K hK => ?_) AllReadyH.nil
      focus
        rw [if_pos (by rfl)]
        refine val_wp 70 (v := ?_) rfl ?_ ?_
        rotate_left
        · (go_simp; try with_reducible rfl)
        refine hK.out _ _ (by first | exact (Below.refl _ _).drew | assumption) ?_
        clear hK K
        intro hHeld2
        clear hHeld
        have hHeld := hHeld2
        clear hHeld2
        simp only [Act.put, List.setIfInBounds_toArray, List.set_cons_zero, List.set_cons_succ]
        refine val_at (i := 7) 65 (v := ?_) rfl rfl (by kernel_rfl) (by rfl) ?_ ?_ ?_
        rotate_left
        · (go_simp; try with_reducible rfl)
        · (first | exact (Below.refl _ _).drew | assumption)
        intro hHeld2
        clear hHeld
        have hHeld := hHeld2
        clear hHeld2
        simp only [Act.put, List.setIfInBounds_toArray, List.set_cons_zero, List.set_cons_succ]
        refine take_at (i := 13) 71 (v := ?_) rfl rfl (by kernel_rfl) (by kernel_rfl) (by kernel_rfl) (fun _ _ _ h => h) (by rfl) ?_ hHeld ?_
        rotate_left
        · (intro w hSw; (try dsimp only at hSw); go_simp; try with_reducible rfl)
        simp only [Act.put, List.setIfInBounds_toArray, List.set_cons_zero, List.set_cons_succ]
        refine take_at (i := 14) 6 (v := ?_) rfl rfl (by kernel_rfl) (by kernel_rfl) (by kernel_rfl) (fun _ _ _ h => h) (by rfl) ?_ hHeld ?_
        rotate_left
        · (intro w hSw; (try dsimp only at hSw); go_simp; try with_reducible rfl)
        simp only [Act.put, List.setIfInBounds_toArray, List.set_cons_zero, List.set_cons_succ]
        refine wpAnyH_done (by kernel_rfl) ?_ _
        refine NoPanic.normal ?_
    all_goals
      go_wp2
      go_ret
      exact ⟨rfl, below_next hW9 hSd⟩
end Go.Proofs.YtinphflminaijabDoor
