import Derived.Test.YtinphflminaijacReads
import Derived.Test.YtinphflminaijacOpenOp
namespace Go.Proofs.Ytinphflminaijac
set_option linter.unusedVariables false
set_option linter.unusedSimpArgs false
open Go.RowKit
theorem len_marks (xs : List UInt8) : (xs ++ marksL).length = xs.length + 8 := by simp [marksL]
theorem Rd.of_own {w : World} {B : Nat} {ao : Option Addr} {n cap : Nat} {xs : List UInt8} (h : Own w B (.slice ao n cap) xs) : Rd w ao xs := by
  obtain ⟨a, c, hv, -, -, -, hr, -⟩ := h.val
  simp only [Value.slice.injEq] at hv
  rw [hv.1]
  exact hr
theorem Both.end {W w : World} {p q : Nat} {D : Option Nat} {ao : Option Addr} {cap : Nat} {xs : List UInt8} {pl : Nat} {f : Int} (h : Both W w p q D ao cap xs pl f) : ∃ a c, w.cell? ⟨q, 0, none⟩ = some (.slice a (xs.length - pl) c) ∧ w.cell? ⟨q, 1, none⟩ = some (.int .i64 f) := by
  obtain ⟨a, c, hd⟩ := h.d
  exact ⟨a, c, by have := hd.c0; rwa [List.length_drop] at this, hd.c1⟩
set_option maxRecDepth 20000 in
set_option maxHeartbeats 3200000 in
theorem octetReads_walk (a0 : Option Addr) (cap0 : Nat) (xs0 : List UInt8) (a1 : Option Addr) (len1 cap1 : Nat) (w : World) (hr0 : Rd w a0 xs0) (hl0 : xs0.length ≤ cap0) (hc0 : cap0 ≤ 140737488351232) (hn0 : a0 = none → cap0 = 0) (ho1 : RdOps w a1 len1) (hl1 : len1 ≤ cap1) (hc1 : cap1 ≤ 281474976710656) :
    Calls Try.prog 3 #[.slice a0 xs0.length cap0, .slice a1 len1 cap1] w fun e w' => e = .returned (.bool true) ∧ Below w.heap.size w w' := by
  have hx : xs0.length + 64 ≤ 140737488355328 := by omega
  have HN : Hid (a0 = none → cap0 = 0) := hn0
  have HX : Hid (xs0.length + 64 ≤ 140737488355328) := hx
  have hlen1 : len1 ≤ 281474976710656 := by omega
  clear hn0 hc0
  go_enter Try.func3, Try.ntmps3
  go_wp2_with fail
  refine (lent_any a0 cap0 xs0 w hr0 HN.out (by omega)).mono ?_
  rintro e w1 ⟨v1, rfl, hown1, hb1⟩
  obtain ⟨g, c1, rfl, hlc1, -, hgB, hgl⟩ := own_head hown1 (by rw [len_marks]; omega)
  rw [len_marks] at hlc1 hown1 ⊢
  have hra : Rd w1 (some ⟨g, 0, none⟩) xs0 := by
    have h := (Rd.of_own hown1).take xs0.length
    rwa [List.take_left' rfl] at h
  have hc1 : (xs0.length : Int) ≤ (c1 : Int) := by omega
  have hc1a : ¬ c1 = xs0.length := by omega
  have hc1b : xs0.length ≤ c1 := by omega
  go_wp2_with fail
  refine (new_r _ _ c1 xs0 rfl w1 hra (fun h => by cases h) (by omega)).mono ?_
  rintro e w2 ⟨p, ao, cap, rfl, hr2, hb2, hp2, hao2⟩
  have hb02 : Below w.heap.size w w2 := below_next hb1 hb2
  have hp2w : p < w2.heap.size := World.block_lt_of_cell? w2 _ hr2.c0
  go_wp2_with fail
  refine (new_d a0 cap0 xs0 w2 (hr0.below hb02) HN.out (by omega)).mono ?_
  rintro e w3 ⟨q, D, a3, c3, rfl, hd3, hb3, hq3, hD3⟩
  have hb03 : Below w.heap.size w w3 := below_next hb02 hb3
  have hz1 := hb1.size
  have hz2 := hb2.size
  have hB3 : Both w w3 p q D ao cap xs0 0 0 := ⟨hr2.below hb3, ⟨a3, c3, hd3⟩, hb03, by omega, by omega, by omega, fun hD => by have := hD3 _ hD; omega, fun a ha => by have := hao2 a ha; omega, fun a ha => (hao2 a ha).2, fun d hd => (hD3 d hd).2⟩
  have hown3 := (hown1.below hb2).below hb3
  go_wp2_with fail
  refine (stays_n _ _ c1 (xs0 ++ marksL) (len_marks _).symm a0 _ cap0 xs0 rfl w3 (Rd.of_own hown3) (hr0.below hb03) (by omega) rfl).mono ?_
  rintro e w4 ⟨rfl, hw4⟩
  have hw4' := hw4.symm
  subst hw4'
  go_wp2_with fail
  refine (turned_any _ g c1 xs0 w3 hown3 (by omega) hlc1).mono ?_
  rintro e w5 ⟨v5, rfl, -, -, hg5⟩
  have hB5 : Both w w5 p q D ao cap xs0 0 0 := hB3.spoil hg5 (fun g' hg' => by cases hg'; exact ⟨by omega, by omega, fun hD => by have := hD3 _ hD; omega, hgB, fun a ha => by have := hao2 a ha; omega⟩)
  have HPQ : Hid (p < q) := by unfold Hid; omega
  clear hra hown1 hown3 hB3 hd3 hr2 hc1a hc1b hc1 hao2 hD3 hg5 hlc1 hr0
  go_wp2
  go_loopw [8] (fun i wr => ∃ k : Nat, k ≤ len1 ∧ i = .int .i64 k ∧ ∃ pl f, Both w wr p q D ao cap xs0 pl f) (fun i _ => len1 - (intOf i).toNat)
  case atStart => exact ⟨0, Nat.zero_le _, rfl, 0, 0, hB5⟩
  case round =>
    obtain ⟨k, hk, rfl, pl, f, hB⟩ := hrel
    clear hB5
    by_cases hlt : k < len1
    · obtain ⟨b, o, rfl, hop⟩ := ho1 (by omega)
      obtain ⟨kk, ii, mm, hk0, hk1, hk2, hii, hmm⟩ := hop k hlt
      have HI : Hid (ii ≤ 9223372036854775807) := hii
      have hkA : ∀ u, Below w.heap.size w u → u.cell? ⟨b, o + k * 3, none⟩ = some (.int .i64 kk) := fun u hu => (hu.cell (World.block_lt_of_cell? w _ hk0)).trans hk0
      have hkB : ∀ u, Below w.heap.size w u → u.cell? ⟨b, o + k * 3 + 1, none⟩ = some (.int .u64 mm) := fun u hu => (hu.cell (World.block_lt_of_cell? w _ hk1)).trans hk1
      have hkC : ∀ u, Below w.heap.size w u → u.cell? ⟨b, o + k * 3 + 2, none⟩ = some (.int .i64 ii) := fun u hu => (hu.cell (World.block_lt_of_cell? w _ hk2)).trans hk2
      have hBd : Both w wr.drew p q D ao cap xs0 pl f := hB.below (Below.refl _ _).drew
      have hbd := hBd.bel
      clear hii hmm hop hk0 hk1 hk2
      go_wp2_with fail
      refine wp_region_noPanic ?_
      refine wp_region_held_drew (S := (fun u => Below w.heap.size w u)) (by kernel_rfl) (by first | exact hbd | assumption) (fun hHeld => ?_)
      refine take_at (i := 0) 34 (v := ?_) rfl rfl (by kernel_rfl) (by kernel_rfl) (by kernel_rfl) (fun _ _ _ h => h) (by rfl) ?_ hHeld ?_
      rotate_left
      · (intro w hSw; (try dsimp only at hSw); go_simp; try with_reducible rfl)
      simp only [Act.put, List.setIfInBounds_toArray, List.set_cons_zero, List.set_cons_succ]
      refine take_at (i := 1) 35 (v := ?_) rfl rfl (by kernel_rfl) (by kernel_rfl) (by kernel_rfl) (fun _ _ _ h => h) (by rfl) ?_ hHeld ?_
      rotate_left
      · (intro w hSw; (try dsimp only at hSw); go_simp; try with_reducible rfl)
      simp only [Act.put, List.setIfInBounds_toArray, List.set_cons_zero, List.set_cons_succ]
      refine take_at (i := 2) 36 (v := ?_) rfl rfl (by kernel_rfl) (by kernel_rfl) (by kernel_rfl) (fun _ _ _ h => h) (by rfl) ?_ hHeld ?_
      rotate_left
      · (intro w hSw; (try dsimp only at hSw); go_simp; try with_reducible rfl)
      simp only [Act.put, List.setIfInBounds_toArray, List.set_cons_zero, List.set_cons_succ]
      refine take_at (i := 3) 37 (v := ?_) rfl rfl (by kernel_rfl) (by kernel_rfl) (by kernel_rfl) (fun _ _ _ h => h) (by rfl) ?_ hHeld ?_
      rotate_left
      · (intro w hSw; (try dsimp only at hSw); go_simp; try with_reducible rfl)
      simp only [Act.put, List.setIfInBounds_toArray, List.set_cons_zero, List.set_cons_succ]
      refine take_at (i := 4) 38 (v := ?_) rfl rfl (by kernel_rfl) (by kernel_rfl) (by kernel_rfl) (fun _ _ _ h => h) (by rfl) ?_ hHeld ?_
      rotate_left
      · (intro w hSw; (try dsimp only at hSw); go_simp; try with_reducible rfl)
      simp only [Act.put, List.setIfInBounds_toArray, List.set_cons_zero, List.set_cons_succ]
      refine take_at (i := 5) 39 (v := ?_) rfl rfl (by kernel_rfl) (by kernel_rfl) (by kernel_rfl) (fun _ _ _ h => h) (by rfl) ?_ hHeld ?_
      rotate_left
      · (intro w hSw; (try dsimp only at hSw); go_simp; try with_reducible rfl)
      simp only [Act.put, List.setIfInBounds_toArray, List.set_cons_zero, List.set_cons_succ]
      refine run_at (i := 6) rfl (by kernel_rfl) (by rfl) (fun K hK => ?_)
      simp only [List.getElem_toArray, List.getElem_cons_zero, List.getElem_cons_succ]
      go_simp
      first | (go_at_call 9; refine (reads_any w _ p q D ao cap xs0 pl f kk ii mm hBd HI.out HX.out).mono ?_; rintro e w7 ⟨rfl, pl7, f7, hB7⟩; have hb7 := hB7.bel; obtain ⟨a7, c7, k70, k71⟩ := hB7.end) | (go_at_call 10; refine (left_r w7 hB7.r).mono ?_; rintro e w8 ⟨rfl, q8, hw8⟩; have hB8 : Both w w8 p q D ao cap xs0 pl7 f7 := (by rw [hw8]; exact hB7.below (below_drewN (Below.refl _ _) q8)); have hb8 := hB8.bel; have k80 : w8.cell? ⟨q, 0, none⟩ = some (.slice a7 (xs0.length - pl7) c7) := (by rw [hw8]; simpa using k70); have k81 : w8.cell? ⟨q, 1, none⟩ = some (.int .i64 f7) := (by rw [hw8]; simpa using k71); clear hw8) | (go_at_call 12; refine (err_r w8 hB8.r).mono ?_; rintro e w9 ⟨rfl, hw9⟩; have hw9' := hw9.symm; subst hw9') | (go_at_call 11; refine (num_any _ w8).mono ?_; rintro e w10 ⟨rfl, hw10⟩; have hw10' := hw10.symm; subst hw10')
      go_wp2_with fail
      refine hK.out _ _ (by first | exact hbd | assumption) ?_
      clear hK K
      intro hHeld2
      clear hHeld
      have hHeld := hHeld2
      clear hHeld2
      try simp only [Act.put, List.setIfInBounds_toArray, List.set_cons_zero, List.set_cons_succ]
      refine take_at (i := 7) 41 (v := ?_) rfl rfl (by kernel_rfl) (by kernel_rfl) (by kernel_rfl) (fun _ _ _ h => h) (by rfl) ?_ hHeld ?_
      rotate_left
      · (intro w hSw; (try dsimp only at hSw); go_simp; try with_reducible rfl)
      simp only [Act.put, List.setIfInBounds_toArray, List.set_cons_zero, List.set_cons_succ]
      refine take_at (i := 8) 42 (v := ?_) rfl rfl (by kernel_rfl) (by kernel_rfl) (by kernel_rfl) (fun _ _ _ h => h) (by rfl) ?_ hHeld ?_
      rotate_left
      · (intro w hSw; (try dsimp only at hSw); go_simp; try with_reducible rfl)
      simp only [Act.put, List.setIfInBounds_toArray, List.set_cons_zero, List.set_cons_succ]
      refine take_at (i := 9) 43 (v := ?_) rfl rfl (by kernel_rfl) (by kernel_rfl) (by kernel_rfl) (fun _ _ _ h => h) (by rfl) ?_ hHeld ?_
      rotate_left
      · (intro w hSw; (try dsimp only at hSw); go_simp; try with_reducible rfl)
      simp only [Act.put, List.setIfInBounds_toArray, List.set_cons_zero, List.set_cons_succ]
      refine take_at (i := 11) 45 (v := ?_) rfl rfl (by kernel_rfl) (by kernel_rfl) (by kernel_rfl) (fun _ _ _ h => h) (by rfl) ?_ hHeld ?_
      rotate_left
      · (intro w hSw; (try dsimp only at hSw); go_simp; try with_reducible rfl)
      simp only [Act.put, List.setIfInBounds_toArray, List.set_cons_zero, List.set_cons_succ]
      refine take_at (i := 12) 46 (v := ?_) rfl rfl (by kernel_rfl) (by kernel_rfl) (by kernel_rfl) (fun _ _ _ h => h) (by rfl) ?_ hHeld ?_
      rotate_left
      · (intro w hSw; (try dsimp only at hSw); go_simp; try with_reducible rfl)
      simp only [Act.put, List.setIfInBounds_toArray, List.set_cons_zero, List.set_cons_succ]
      refine take_at (i := 13) 47 (v := ?_) rfl rfl (by kernel_rfl) (by kernel_rfl) (by kernel_rfl) (fun _ _ _ h => h) (by rfl) ?_ hHeld ?_
      rotate_left
      · (intro w hSw; (try dsimp only at hSw); go_simp; try with_reducible rfl)
      simp only [Act.put, List.setIfInBounds_toArray, List.set_cons_zero, List.set_cons_succ]
      refine wpAnyH_ready (rs := [10, 14]) (by kernel_rfl) (by simp) ?_
      refine AllReadyH.cons (o := _) rfl (fun K hK => ?_) ?_
      focus
        rw [if_pos (by rfl)]
        simp only [List.getElem_toArray, List.getElem_cons_zero, List.getElem_cons_succ]
        go_simp
        first | (go_at_call 9; refine (reads_any w _ p q D ao cap xs0 pl f kk ii mm hBd HI.out HX.out).mono ?_; rintro e w7 ⟨rfl, pl7, f7, hB7⟩; have hb7 := hB7.bel; obtain ⟨a7, c7, k70, k71⟩ := hB7.end) | (go_at_call 10; refine (left_r w7 hB7.r).mono ?_; rintro e w8 ⟨rfl, q8, hw8⟩; have hB8 : Both w w8 p q D ao cap xs0 pl7 f7 := (by rw [hw8]; exact hB7.below (below_drewN (Below.refl _ _) q8)); have hb8 := hB8.bel; have k80 : w8.cell? ⟨q, 0, none⟩ = some (.slice a7 (xs0.length - pl7) c7) := (by rw [hw8]; simpa using k70); have k81 : w8.cell? ⟨q, 1, none⟩ = some (.int .i64 f7) := (by rw [hw8]; simpa using k71); clear hw8) | (go_at_call 12; refine (err_r w8 hB8.r).mono ?_; rintro e w9 ⟨rfl, hw9⟩; have hw9' := hw9.symm; subst hw9') | (go_at_call 11; refine (num_any _ w8).mono ?_; rintro e w10 ⟨rfl, hw10⟩; have hw10' := hw10.symm; subst hw10')
        go_wp2_with fail
        refine hK.out _ _ (by first | exact hbd | assumption) ?_
        clear hK K
        intro hHeld2
        clear hHeld
        have hHeld := hHeld2
        clear hHeld2
        try simp only [Act.put, List.setIfInBounds_toArray, List.set_cons_zero, List.set_cons_succ]
        refine val_at (i := 14) 48 (v := ?_) rfl rfl (by kernel_rfl) (by rfl) ?_ ?_ ?_
        rotate_left
        · (go_simp; try with_reducible rfl)
        · (first | exact hbd | assumption)
        intro hHeld2
        clear hHeld
        have hHeld := hHeld2
        clear hHeld2
        simp only [Act.put, List.setIfInBounds_toArray, List.set_cons_zero, List.set_cons_succ]
        refine take_at (i := 15) 49 (v := ?_) rfl rfl (by kernel_rfl) (by kernel_rfl) (by kernel_rfl) (fun _ _ _ h => h) (by rfl) ?_ hHeld ?_
        rotate_left
        · (intro w hSw; (try dsimp only at hSw); go_simp; try with_reducible rfl)
        simp only [Act.put, List.setIfInBounds_toArray, List.set_cons_zero, List.set_cons_succ]
        refine take_at (i := 16) 50 (v := ?_) rfl rfl (by kernel_rfl) (by kernel_rfl) (by kernel_rfl) (fun _ _ _ h => h) (by rfl) ?_ hHeld ?_
        rotate_left
        · (intro w hSw; (try dsimp only at hSw); go_simp; try with_reducible rfl)
        simp only [Act.put, List.setIfInBounds_toArray, List.set_cons_zero, List.set_cons_succ]
        refine take_at (i := 17) 51 (v := ?_) rfl rfl (by kernel_rfl) (by kernel_rfl) (by kernel_rfl) (fun _ _ _ h => h) (by rfl) ?_ hHeld ?_
        rotate_left
        · (intro w hSw; (try dsimp only at hSw); go_simp; try with_reducible rfl)
        simp only [Act.put, List.setIfInBounds_toArray, List.set_cons_zero, List.set_cons_succ]
        refine take_at (i := 18) 52 (v := ?_) rfl rfl (by kernel_rfl) (by kernel_rfl) (by kernel_rfl) (fun _ _ _ h => h) (by rfl) ?_ hHeld ?_
        rotate_left
        · (intro w hSw; (try dsimp only at hSw); go_simp; try with_reducible rfl)
        simp only [Act.put, List.setIfInBounds_toArray, List.set_cons_zero, List.set_cons_succ]
        refine take_at (i := 19) 53 (v := ?_) rfl rfl (by kernel_rfl) (by kernel_rfl) (by kernel_rfl) (fun _ _ _ h => h) (by rfl) ?_ hHeld ?_
        rotate_left
        · (intro w hSw; (try dsimp only at hSw); go_simp; try with_reducible rfl)
        simp only [Act.put, List.setIfInBounds_toArray, List.set_cons_zero, List.set_cons_succ]
        refine take_at (i := 22) 56 (v := ?_) rfl rfl (by kernel_rfl) (by kernel_rfl) (by kernel_rfl) (fun _ _ _ h => h) (by rfl) ?_ hHeld ?_
        rotate_left
        · (intro w hSw; (try dsimp only at hSw); go_simp; try with_reducible rfl)
        simp only [Act.put, List.setIfInBounds_toArray, List.set_cons_zero, List.set_cons_succ]
        refine take_at (i := 23) 57 (v := ?_) rfl rfl (by kernel_rfl) (by kernel_rfl) (by kernel_rfl) (fun _ _ _ h => h) (by rfl) ?_ hHeld ?_
        rotate_left
        · (intro w hSw; (try dsimp only at hSw); go_simp; try with_reducible rfl)
        simp only [Act.put, List.setIfInBounds_toArray, List.set_cons_zero, List.set_cons_succ]
        refine take_at (i := 24) 58 (v := ?_) rfl rfl (by kernel_rfl) (by kernel_rfl) (by kernel_rfl) (fun _ _ _ h => h) (by rfl) ?_ hHeld ?_
        rotate_left
        · (intro w hSw; (try dsimp only at hSw); go_simp; try with_reducible rfl)
        simp only [Act.put, List.setIfInBounds_toArray, List.set_cons_zero, List.set_cons_succ]
        refine wpAnyH_ready (rs := [20, 25]) (by kernel_rfl) (by simp) ?_
        refine AllReadyH.cons (o := _) rfl (fun K hK => ?_) ?_
        focus
          rw [if_pos (by rfl)]
          simp only [List.getElem_toArray, List.getElem_cons_zero, List.getElem_cons_succ]
          go_simp
          first | (go_at_call 9; refine (reads_any w _ p q D ao cap xs0 pl f kk ii mm hBd HI.out HX.out).mono ?_; rintro e w7 ⟨rfl, pl7, f7, hB7⟩; have hb7 := hB7.bel; obtain ⟨a7, c7, k70, k71⟩ := hB7.end) | (go_at_call 10; refine (left_r w7 hB7.r).mono ?_; rintro e w8 ⟨rfl, q8, hw8⟩; have hB8 : Both w w8 p q D ao cap xs0 pl7 f7 := (by rw [hw8]; exact hB7.below (below_drewN (Below.refl _ _) q8)); have hb8 := hB8.bel; have k80 : w8.cell? ⟨q, 0, none⟩ = some (.slice a7 (xs0.length - pl7) c7) := (by rw [hw8]; simpa using k70); have k81 : w8.cell? ⟨q, 1, none⟩ = some (.int .i64 f7) := (by rw [hw8]; simpa using k71); clear hw8) | (go_at_call 12; refine (err_r w8 hB8.r).mono ?_; rintro e w9 ⟨rfl, hw9⟩; have hw9' := hw9.symm; subst hw9') | (go_at_call 11; refine (num_any _ w8).mono ?_; rintro e w10 ⟨rfl, hw10⟩; have hw10' := hw10.symm; subst hw10')
          go_wp2_with fail
          refine hK.out _ _ (by first | exact hbd | assumption) ?_
          clear hK K
          intro hHeld2
          clear hHeld
          have hHeld := hHeld2
          clear hHeld2
          try simp only [Act.put, List.setIfInBounds_toArray, List.set_cons_zero, List.set_cons_succ]
          refine wpAnyH_ready (rs := [21, 25]) (by kernel_rfl) (by simp) ?_
          refine AllReadyH.cons (o := _) rfl (fun K hK => ?_) ?_
          focus
            rw [if_pos (by rfl)]
            simp only [List.getElem_toArray, List.getElem_cons_zero, List.getElem_cons_succ]
            go_simp
            first | (go_at_call 9; refine (reads_any w _ p q D ao cap xs0 pl f kk ii mm hBd HI.out HX.out).mono ?_; rintro e w7 ⟨rfl, pl7, f7, hB7⟩; have hb7 := hB7.bel; obtain ⟨a7, c7, k70, k71⟩ := hB7.end) | (go_at_call 10; refine (left_r w7 hB7.r).mono ?_; rintro e w8 ⟨rfl, q8, hw8⟩; have hB8 : Both w w8 p q D ao cap xs0 pl7 f7 := (by rw [hw8]; exact hB7.below (below_drewN (Below.refl _ _) q8)); have hb8 := hB8.bel; have k80 : w8.cell? ⟨q, 0, none⟩ = some (.slice a7 (xs0.length - pl7) c7) := (by rw [hw8]; simpa using k70); have k81 : w8.cell? ⟨q, 1, none⟩ = some (.int .i64 f7) := (by rw [hw8]; simpa using k71); clear hw8) | (go_at_call 12; refine (err_r w8 hB8.r).mono ?_; rintro e w9 ⟨rfl, hw9⟩; have hw9' := hw9.symm; subst hw9') | (go_at_call 11; refine (num_any _ w8).mono ?_; rintro e w10 ⟨rfl, hw10⟩; have hw10' := hw10.symm; subst hw10')
            go_wp2_with fail
            refine hK.out _ _ (by first | exact hbd | assumption) ?_
            clear hK K
            intro hHeld2
            clear hHeld
            have hHeld := hHeld2
            clear hHeld2
            try simp only [Act.put, List.setIfInBounds_toArray, List.set_cons_zero, List.set_cons_succ]
            refine val_at (i := 25) 59 (v := ?_) rfl rfl (by kernel_rfl) (by rfl) ?_ ?_ ?_
            rotate_left
            · (go_simp; try with_reducible rfl)
            · (first | exact hbd | assumption)
            intro hHeld2
            clear hHeld
            have hHeld := hHeld2
            clear hHeld2
            simp only [Act.put, List.setIfInBounds_toArray, List.set_cons_zero, List.set_cons_succ]
            refine take_at (i := 26) 60 (v := ?_) rfl rfl (by kernel_rfl) (by kernel_rfl) (by kernel_rfl) (fun _ _ _ h => h) (by rfl) ?_ hHeld ?_
            rotate_left
            · (intro w hSw; (try dsimp only at hSw); go_simp; try with_reducible rfl)
            simp only [Act.put, List.setIfInBounds_toArray, List.set_cons_zero, List.set_cons_succ]
            refine take_at (i := 27) 61 (v := ?_) rfl rfl (by kernel_rfl) (by kernel_rfl) (by kernel_rfl) (fun _ _ _ h => h) (by rfl) ?_ hHeld ?_
            rotate_left
            · (intro w hSw; (try dsimp only at hSw); go_simp; try with_reducible rfl)
            simp only [Act.put, List.setIfInBounds_toArray, List.set_cons_zero, List.set_cons_succ]
            refine wpAnyH_done (by kernel_rfl) ?_ _
            refine NoPanic.normal ?_
          rotate_left 1
          refine AllReadyH.cons (o := _) rfl (fun K hK => ?_) AllReadyH.nil
          focus
            rw [if_pos (by rfl)]
            refine val_wp 59 (v := ?_) rfl ?_ ?_
            rotate_left
            · (go_simp; try with_reducible rfl)
            refine hK.out _ _ (by first | exact hbd | assumption) ?_
            clear hK K
            intro hHeld2
            clear hHeld
            have hHeld := hHeld2
            clear hHeld2
            simp only [Act.put, List.setIfInBounds_toArray, List.set_cons_zero, List.set_cons_succ]
            refine run_at (i := 21) rfl (by kernel_rfl) (by rfl) (fun K hK => ?_)
            simp only [List.getElem_toArray, List.getElem_cons_zero, List.getElem_cons_succ]
            go_simp
            first | (go_at_call 9; refine (reads_any w _ p q D ao cap xs0 pl f kk ii mm hBd HI.out HX.out).mono ?_; rintro e w7 ⟨rfl, pl7, f7, hB7⟩; have hb7 := hB7.bel; obtain ⟨a7, c7, k70, k71⟩ := hB7.end) | (go_at_call 10; refine (left_r w7 hB7.r).mono ?_; rintro e w8 ⟨rfl, q8, hw8⟩; have hB8 : Both w w8 p q D ao cap xs0 pl7 f7 := (by rw [hw8]; exact hB7.below (below_drewN (Below.refl _ _) q8)); have hb8 := hB8.bel; have k80 : w8.cell? ⟨q, 0, none⟩ = some (.slice a7 (xs0.length - pl7) c7) := (by rw [hw8]; simpa using k70); have k81 : w8.cell? ⟨q, 1, none⟩ = some (.int .i64 f7) := (by rw [hw8]; simpa using k71); clear hw8) | (go_at_call 12; refine (err_r w8 hB8.r).mono ?_; rintro e w9 ⟨rfl, hw9⟩; have hw9' := hw9.symm; subst hw9') | (go_at_call 11; refine (num_any _ w8).mono ?_; rintro e w10 ⟨rfl, hw10⟩; have hw10' := hw10.symm; subst hw10')
            go_wp2_with fail
            refine hK.out _ _ (by first | exact hbd | assumption) ?_
            clear hK K
            intro hHeld2
            clear hHeld
            have hHeld := hHeld2
            clear hHeld2
            try simp only [Act.put, List.setIfInBounds_toArray, List.set_cons_zero, List.set_cons_succ]
            refine take_at (i := 26) 60 (v := ?_) rfl rfl (by kernel_rfl) (by kernel_rfl) (by kernel_rfl) (fun _ _ _ h => h) (by rfl) ?_ hHeld ?_
            rotate_left
            · (intro w hSw; (try dsimp only at hSw); go_simp; try with_reducible rfl)
            simp only [Act.put, List.setIfInBounds_toArray, List.set_cons_zero, List.set_cons_succ]
            refine take_at (i := 27) 61 (v := ?_) rfl rfl (by kernel_rfl) (by kernel_rfl) (by kernel_rfl) (fun _ _ _ h => h) (by rfl) ?_ hHeld ?_
            rotate_left
            · (intro w hSw; (try dsimp only at hSw); go_simp; try with_reducible rfl)
            simp only [Act.put, List.setIfInBounds_toArray, List.set_cons_zero, List.set_cons_succ]
            refine wpAnyH_done (by kernel_rfl) ?_ _
            refine NoPanic.normal ?_
        rotate_left 2
        refine AllReadyH.cons (o := _) rfl (fun K hK => ?_) AllReadyH.nil
        focus
          rw [if_pos (by rfl)]
          refine val_wp 59 (v := ?_) rfl ?_ ?_
          rotate_left
          · (go_simp; try with_reducible rfl)
          refine hK.out _ _ (by first | exact hbd | assumption) ?_
          clear hK K
          intro hHeld2
          clear hHeld
          have hHeld := hHeld2
          clear hHeld2
          simp only [Act.put, List.setIfInBounds_toArray, List.set_cons_zero, List.set_cons_succ]
          refine run_at (i := 20) rfl (by kernel_rfl) (by rfl) (fun K hK => ?_)
          simp only [List.getElem_toArray, List.getElem_cons_zero, List.getElem_cons_succ]
          go_simp
          first | (go_at_call 9; refine (reads_any w _ p q D ao cap xs0 pl f kk ii mm hBd HI.out HX.out).mono ?_; rintro e w7 ⟨rfl, pl7, f7, hB7⟩; have hb7 := hB7.bel; obtain ⟨a7, c7, k70, k71⟩ := hB7.end) | (go_at_call 10; refine (left_r w7 hB7.r).mono ?_; rintro e w8 ⟨rfl, q8, hw8⟩; have hB8 : Both w w8 p q D ao cap xs0 pl7 f7 := (by rw [hw8]; exact hB7.below (below_drewN (Below.refl _ _) q8)); have hb8 := hB8.bel; have k80 : w8.cell? ⟨q, 0, none⟩ = some (.slice a7 (xs0.length - pl7) c7) := (by rw [hw8]; simpa using k70); have k81 : w8.cell? ⟨q, 1, none⟩ = some (.int .i64 f7) := (by rw [hw8]; simpa using k71); clear hw8) | (go_at_call 12; refine (err_r w8 hB8.r).mono ?_; rintro e w9 ⟨rfl, hw9⟩; have hw9' := hw9.symm; subst hw9') | (go_at_call 11; refine (num_any _ w8).mono ?_; rintro e w10 ⟨rfl, hw10⟩; have hw10' := hw10.symm; subst hw10')
          go_wp2_with fail
          refine hK.out _ _ (by first | exact hbd | assumption) ?_
          clear hK K
          intro hHeld2
          clear hHeld
          have hHeld := hHeld2
          clear hHeld2
          try simp only [Act.put, List.setIfInBounds_toArray, List.set_cons_zero, List.set_cons_succ]
          refine run_at (i := 21) rfl (by kernel_rfl) (by rfl) (fun K hK => ?_)
          simp only [List.getElem_toArray, List.getElem_cons_zero, List.getElem_cons_succ]
          go_simp
          first | (go_at_call 9; refine (reads_any w _ p q D ao cap xs0 pl f kk ii mm hBd HI.out HX.out).mono ?_; rintro e w7 ⟨rfl, pl7, f7, hB7⟩; have hb7 := hB7.bel; obtain ⟨a7, c7, k70, k71⟩ := hB7.end) | (go_at_call 10; refine (left_r w7 hB7.r).mono ?_; rintro e w8 ⟨rfl, q8, hw8⟩; have hB8 : Both w w8 p q D ao cap xs0 pl7 f7 := (by rw [hw8]; exact hB7.below (below_drewN (Below.refl _ _) q8)); have hb8 := hB8.bel; have k80 : w8.cell? ⟨q, 0, none⟩ = some (.slice a7 (xs0.length - pl7) c7) := (by rw [hw8]; simpa using k70); have k81 : w8.cell? ⟨q, 1, none⟩ = some (.int .i64 f7) := (by rw [hw8]; simpa using k71); clear hw8) | (go_at_call 12; refine (err_r w8 hB8.r).mono ?_; rintro e w9 ⟨rfl, hw9⟩; have hw9' := hw9.symm; subst hw9') | (go_at_call 11; refine (num_any _ w8).mono ?_; rintro e w10 ⟨rfl, hw10⟩; have hw10' := hw10.symm; subst hw10')
          go_wp2_with fail
          refine hK.out _ _ (by first | exact hbd | assumption) ?_
          clear hK K
          intro hHeld2
          clear hHeld
          have hHeld := hHeld2
          clear hHeld2
          try simp only [Act.put, List.setIfInBounds_toArray, List.set_cons_zero, List.set_cons_succ]
          refine take_at (i := 26) 60 (v := ?_) rfl rfl (by kernel_rfl) (by kernel_rfl) (by kernel_rfl) (fun _ _ _ h => h) (by rfl) ?_ hHeld ?_
          rotate_left
          · (intro w hSw; (try dsimp only at hSw); go_simp; try with_reducible rfl)
          simp only [Act.put, List.setIfInBounds_toArray, List.set_cons_zero, List.set_cons_succ]
          refine take_at (i := 27) 61 (v := ?_) rfl rfl (by kernel_rfl) (by kernel_rfl) (by kernel_rfl) (fun _ _ _ h => h) (by rfl) ?_ hHeld ?_
          rotate_left
          · (intro w hSw; (try dsimp only at hSw); go_simp; try with_reducible rfl)
          simp only [Act.put, List.setIfInBounds_toArray, List.set_cons_zero, List.set_cons_succ]
          refine wpAnyH_done (by kernel_rfl) ?_ _
          refine NoPanic.normal ?_
      rotate_left 3
      refine AllReadyH.cons (o := _) rfl (fun K hK => ?_) AllReadyH.nil
      focus
        rw [if_pos (by rfl)]
        refine val_wp 48 (v := ?_) rfl ?_ ?_
        rotate_left
        · (go_simp; try with_reducible rfl)
        refine hK.out _ _ (by first | exact hbd | assumption) ?_
        clear hK K
        intro hHeld2
        clear hHeld
        have hHeld := hHeld2
        clear hHeld2
        simp only [Act.put, List.setIfInBounds_toArray, List.set_cons_zero, List.set_cons_succ]
        refine take_at (i := 15) 49 (v := ?_) rfl rfl (by kernel_rfl) (by kernel_rfl) (by kernel_rfl) (fun _ _ _ h => h) (by rfl) ?_ hHeld ?_
        rotate_left
        · (intro w hSw; (try dsimp only at hSw); go_simp; try with_reducible rfl)
        simp only [Act.put, List.setIfInBounds_toArray, List.set_cons_zero, List.set_cons_succ]
        refine run_at (i := 10) rfl (by kernel_rfl) (by rfl) (fun K hK => ?_)
        simp only [List.getElem_toArray, List.getElem_cons_zero, List.getElem_cons_succ]
        go_simp
        first | (go_at_call 9; refine (reads_any w _ p q D ao cap xs0 pl f kk ii mm hBd HI.out HX.out).mono ?_; rintro e w7 ⟨rfl, pl7, f7, hB7⟩; have hb7 := hB7.bel; obtain ⟨a7, c7, k70, k71⟩ := hB7.end) | (go_at_call 10; refine (left_r w7 hB7.r).mono ?_; rintro e w8 ⟨rfl, q8, hw8⟩; have hB8 : Both w w8 p q D ao cap xs0 pl7 f7 := (by rw [hw8]; exact hB7.below (below_drewN (Below.refl _ _) q8)); have hb8 := hB8.bel; have k80 : w8.cell? ⟨q, 0, none⟩ = some (.slice a7 (xs0.length - pl7) c7) := (by rw [hw8]; simpa using k70); have k81 : w8.cell? ⟨q, 1, none⟩ = some (.int .i64 f7) := (by rw [hw8]; simpa using k71); clear hw8) | (go_at_call 12; refine (err_r w8 hB8.r).mono ?_; rintro e w9 ⟨rfl, hw9⟩; have hw9' := hw9.symm; subst hw9') | (go_at_call 11; refine (num_any _ w8).mono ?_; rintro e w10 ⟨rfl, hw10⟩; have hw10' := hw10.symm; subst hw10')
        go_wp2_with fail
        refine hK.out _ _ (by first | exact hbd | assumption) ?_
        clear hK K
        intro hHeld2
        clear hHeld
        have hHeld := hHeld2
        clear hHeld2
        try simp only [Act.put, List.setIfInBounds_toArray, List.set_cons_zero, List.set_cons_succ]
        refine take_at (i := 16) 50 (v := ?_) rfl rfl (by kernel_rfl) (by kernel_rfl) (by kernel_rfl) (fun _ _ _ h => h) (by rfl) ?_ hHeld ?_
        rotate_left
        · (intro w hSw; (try dsimp only at hSw); go_simp; try with_reducible rfl)
        simp only [Act.put, List.setIfInBounds_toArray, List.set_cons_zero, List.set_cons_succ]
        refine take_at (i := 17) 51 (v := ?_) rfl rfl (by kernel_rfl) (by kernel_rfl) (by kernel_rfl) (fun _ _ _ h => h) (by rfl) ?_ hHeld ?_
        rotate_left
        · (intro w hSw; (try dsimp only at hSw); go_simp; try with_reducible rfl)
        simp only [Act.put, List.setIfInBounds_toArray, List.set_cons_zero, List.set_cons_succ]
        refine take_at (i := 18) 52 (v := ?_) rfl rfl (by kernel_rfl) (by kernel_rfl) (by kernel_rfl) (fun _ _ _ h => h) (by rfl) ?_ hHeld ?_
        rotate_left
        · (intro w hSw; (try dsimp only at hSw); go_simp; try with_reducible rfl)
        simp only [Act.put, List.setIfInBounds_toArray, List.set_cons_zero, List.set_cons_succ]
        refine take_at (i := 19) 53 (v := ?_) rfl rfl (by kernel_rfl) (by kernel_rfl) (by kernel_rfl) (fun _ _ _ h => h) (by rfl) ?_ hHeld ?_
        rotate_left
        · (intro w hSw; (try dsimp only at hSw); go_simp; try with_reducible rfl)
        simp only [Act.put, List.setIfInBounds_toArray, List.set_cons_zero, List.set_cons_succ]
        refine take_at (i := 22) 56 (v := ?_) rfl rfl (by kernel_rfl) (by kernel_rfl) (by kernel_rfl) (fun _ _ _ h => h) (by rfl) ?_ hHeld ?_
        rotate_left
        · (intro w hSw; (try dsimp only at hSw); go_simp; try with_reducible rfl)
        simp only [Act.put, List.setIfInBounds_toArray, List.set_cons_zero, List.set_cons_succ]
        refine take_at (i := 23) 57 (v := ?_) rfl rfl (by kernel_rfl) (by kernel_rfl) (by kernel_rfl) (fun _ _ _ h => h) (by rfl) ?_ hHeld ?_
        rotate_left
        · (intro w hSw; (try dsimp only at hSw); go_simp; try with_reducible rfl)
        simp only [Act.put, List.setIfInBounds_toArray, List.set_cons_zero, List.set_cons_succ]
        refine take_at (i := 24) 58 (v := ?_) rfl rfl (by kernel_rfl) (by kernel_rfl) (by kernel_rfl) (fun _ _ _ h => h) (by rfl) ?_ hHeld ?_
        rotate_left
        · (intro w hSw; (try dsimp only at hSw); go_simp; try with_reducible rfl)
        simp only [Act.put, List.setIfInBounds_toArray, List.set_cons_zero, List.set_cons_succ]
        refine wpAnyH_ready (rs := [20, 25]) (by kernel_rfl) (by simp) ?_
        refine AllReadyH.cons (o := _) rfl (fun K hK => ?_) ?_
        focus
          rw [if_pos (by rfl)]
          simp only [List.getElem_toArray, List.getElem_cons_zero, List.getElem_cons_succ]
          go_simp
          first | (go_at_call 9; refine (reads_any w _ p q D ao cap xs0 pl f kk ii mm hBd HI.out HX.out).mono ?_; rintro e w7 ⟨rfl, pl7, f7, hB7⟩; have hb7 := hB7.bel; obtain ⟨a7, c7, k70, k71⟩ := hB7.end) | (go_at_call 10; refine (left_r w7 hB7.r).mono ?_; rintro e w8 ⟨rfl, q8, hw8⟩; have hB8 : Both w w8 p q D ao cap xs0 pl7 f7 := (by rw [hw8]; exact hB7.below (below_drewN (Below.refl _ _) q8)); have hb8 := hB8.bel; have k80 : w8.cell? ⟨q, 0, none⟩ = some (.slice a7 (xs0.length - pl7) c7) := (by rw [hw8]; simpa using k70); have k81 : w8.cell? ⟨q, 1, none⟩ = some (.int .i64 f7) := (by rw [hw8]; simpa using k71); clear hw8) | (go_at_call 12; refine (err_r w8 hB8.r).mono ?_; rintro e w9 ⟨rfl, hw9⟩; have hw9' := hw9.symm; subst hw9') | (go_at_call 11; refine (num_any _ w8).mono ?_; rintro e w10 ⟨rfl, hw10⟩; have hw10' := hw10.symm; subst hw10')
          go_wp2_with fail
          refine hK.out _ _ (by first | exact hbd | assumption) ?_
          clear hK K
          intro hHeld2
          clear hHeld
          have hHeld := hHeld2
          clear hHeld2
          try simp only [Act.put, List.setIfInBounds_toArray, List.set_cons_zero, List.set_cons_succ]
          refine wpAnyH_ready (rs := [21, 25]) (by kernel_rfl) (by simp) ?_
          refine AllReadyH.cons (o := _) rfl (fun K hK => ?_) ?_
          focus
            rw [if_pos (by rfl)]
            simp only [List.getElem_toArray, List.getElem_cons_zero, List.getElem_cons_succ]
            go_simp
            first | (go_at_call 9; refine (reads_any w _ p q D ao cap xs0 pl f kk ii mm hBd HI.out HX.out).mono ?_; rintro e w7 ⟨rfl, pl7, f7, hB7⟩; have hb7 := hB7.bel; obtain ⟨a7, c7, k70, k71⟩ := hB7.end) | (go_at_call 10; refine (left_r w7 hB7.r).mono ?_; rintro e w8 ⟨rfl, q8, hw8⟩; have hB8 : Both w w8 p q D ao cap xs0 pl7 f7 := (by rw [hw8]; exact hB7.below (below_drewN (Below.refl _ _) q8)); have hb8 := hB8.bel; have k80 : w8.cell? ⟨q, 0, none⟩ = some (.slice a7 (xs0.length - pl7) c7) := (by rw [hw8]; simpa using k70); have k81 : w8.cell? ⟨q, 1, none⟩ = some (.int .i64 f7) := (by rw [hw8]; simpa using k71); clear hw8) | (go_at_call 12; refine (err_r w8 hB8.r).mono ?_; rintro e w9 ⟨rfl, hw9⟩; have hw9' := hw9.symm; subst hw9') | (go_at_call 11; refine (num_any _ w8).mono ?_; rintro e w10 ⟨rfl, hw10⟩; have hw10' := hw10.symm; subst hw10')
            go_wp2_with fail
            refine hK.out _ _ (by first | exact hbd | assumption) ?_
            clear hK K
            intro hHeld2
            clear hHeld
            have hHeld := hHeld2
            clear hHeld2
            try simp only [Act.put, List.setIfInBounds_toArray, List.set_cons_zero, List.set_cons_succ]
            refine val_at (i := 25) 59 (v := ?_) rfl rfl (by kernel_rfl) (by rfl) ?_ ?_ ?_
            rotate_left
            · (go_simp; try with_reducible rfl)
            · (first | exact hbd | assumption)
            intro hHeld2
            clear hHeld
            have hHeld := hHeld2
            clear hHeld2
            simp only [Act.put, List.setIfInBounds_toArray, List.set_cons_zero, List.set_cons_succ]
            refine take_at (i := 26) 60 (v := ?_) rfl rfl (by kernel_rfl) (by kernel_rfl) (by kernel_rfl) (fun _ _ _ h => h) (by rfl) ?_ hHeld ?_
            rotate_left
            · (intro w hSw; (try dsimp only at hSw); go_simp; try with_reducible rfl)
            simp only [Act.put, List.setIfInBounds_toArray, List.set_cons_zero, List.set_cons_succ]
            refine take_at (i := 27) 61 (v := ?_) rfl rfl (by kernel_rfl) (by kernel_rfl) (by kernel_rfl) (fun _ _ _ h => h) (by rfl) ?_ hHeld ?_
            rotate_left
            · (intro w hSw; (try dsimp only at hSw); go_simp; try with_reducible rfl)
            simp only [Act.put, List.setIfInBounds_toArray, List.set_cons_zero, List.set_cons_succ]
            refine wpAnyH_done (by kernel_rfl) ?_ _
            refine NoPanic.normal ?_
          rotate_left 1
          refine AllReadyH.cons (o := _) rfl (fun K hK => ?_) AllReadyH.nil
          focus
            rw [if_pos (by rfl)]
            refine val_wp 59 (v := ?_) rfl ?_ ?_
            rotate_left
            · (go_simp; try with_reducible rfl)
            refine hK.out _ _ (by first | exact hbd | assumption) ?_
            clear hK K
            intro hHeld2
            clear hHeld
            have hHeld := hHeld2
            clear hHeld2
            simp only [Act.put, List.setIfInBounds_toArray, List.set_cons_zero, List.set_cons_succ]
            refine run_at (i := 21) rfl (by kernel_rfl) (by rfl) (fun K hK => ?_)
            simp only [List.getElem_toArray, List.getElem_cons_zero, List.getElem_cons_succ]
            go_simp
            first | (go_at_call 9; refine (reads_any w _ p q D ao cap xs0 pl f kk ii mm hBd HI.out HX.out).mono ?_; rintro e w7 ⟨rfl, pl7, f7, hB7⟩; have hb7 := hB7.bel; obtain ⟨a7, c7, k70, k71⟩ := hB7.end) | (go_at_call 10; refine (left_r w7 hB7.r).mono ?_; rintro e w8 ⟨rfl, q8, hw8⟩; have hB8 : Both w w8 p q D ao cap xs0 pl7 f7 := (by rw [hw8]; exact hB7.below (below_drewN (Below.refl _ _) q8)); have hb8 := hB8.bel; have k80 : w8.cell? ⟨q, 0, none⟩ = some (.slice a7 (xs0.length - pl7) c7) := (by rw [hw8]; simpa using k70); have k81 : w8.cell? ⟨q, 1, none⟩ = some (.int .i64 f7) := (by rw [hw8]; simpa using k71); clear hw8) | (go_at_call 12; refine (err_r w8 hB8.r).mono ?_; rintro e w9 ⟨rfl, hw9⟩; have hw9' := hw9.symm; subst hw9') | (go_at_call 11; refine (num_any _ w8).mono ?_; rintro e w10 ⟨rfl, hw10⟩; have hw10' := hw10.symm; subst hw10')
            go_wp2_with fail
            refine hK.out _ _ (by first | exact hbd | assumption) ?_
            clear hK K
            intro hHeld2
            clear hHeld
            have hHeld := hHeld2
            clear hHeld2
            try simp only [Act.put, List.setIfInBounds_toArray, List.set_cons_zero, List.set_cons_succ]
            refine take_at (i := 26) 60 (v := ?_) rfl rfl (by kernel_rfl) (by kernel_rfl) (by kernel_rfl) (fun _ _ _ h => h) (by rfl) ?_ hHeld ?_
            rotate_left
            · (intro w hSw; (try dsimp only at hSw); go_simp; try with_reducible rfl)
            simp only [Act.put, List.setIfInBounds_toArray, List.set_cons_zero, List.set_cons_succ]
            refine take_at (i := 27) 61 (v := ?_) rfl rfl (by kernel_rfl) (by kernel_rfl) (by kernel_rfl) (fun _ _ _ h => h) (by rfl) ?_ hHeld ?_
            rotate_left
            · (intro w hSw; (try dsimp only at hSw); go_simp; try with_reducible rfl)
            simp only [Act.put, List.setIfInBounds_toArray, List.set_cons_zero, List.set_cons_succ]
            refine wpAnyH_done (by kernel_rfl) ?_ _
            refine NoPanic.normal ?_
        rotate_left 2
        refine AllReadyH.cons (o := _) rfl (fun K hK => ?_) AllReadyH.nil
        focus
          rw [if_pos (by rfl)]
          refine val_wp 59 (v := ?_) rfl ?_ ?_
          rotate_left
          · (go_simp; try with_reducible rfl)
          refine hK.out _ _ (by first | exact hbd | assumption) ?_
          clear hK K
          intro hHeld2
          clear hHeld
          have hHeld := hHeld2
          clear hHeld2
          simp only [Act.put, List.setIfInBounds_toArray, List.set_cons_zero, List.set_cons_succ]
          refine run_at (i := 20) rfl (by kernel_rfl) (by rfl) (fun K hK => ?_)
          simp only [List.getElem_toArray, List.getElem_cons_zero, List.getElem_cons_succ]
          go_simp
          first | (go_at_call 9; refine (reads_any w _ p q D ao cap xs0 pl f kk ii mm hBd HI.out HX.out).mono ?_; rintro e w7 ⟨rfl, pl7, f7, hB7⟩; have hb7 := hB7.bel; obtain ⟨a7, c7, k70, k71⟩ := hB7.end) | (go_at_call 10; refine (left_r w7 hB7.r).mono ?_; rintro e w8 ⟨rfl, q8, hw8⟩; have hB8 : Both w w8 p q D ao cap xs0 pl7 f7 := (by rw [hw8]; exact hB7.below (below_drewN (Below.refl _ _) q8)); have hb8 := hB8.bel; have k80 : w8.cell? ⟨q, 0, none⟩ = some (.slice a7 (xs0.length - pl7) c7) := (by rw [hw8]; simpa using k70); have k81 : w8.cell? ⟨q, 1, none⟩ = some (.int .i64 f7) := (by rw [hw8]; simpa using k71); clear hw8) | (go_at_call 12; refine (err_r w8 hB8.r).mono ?_; rintro e w9 ⟨rfl, hw9⟩; have hw9' := hw9.symm; subst hw9') | (go_at_call 11; refine (num_any _ w8).mono ?_; rintro e w10 ⟨rfl, hw10⟩; have hw10' := hw10.symm; subst hw10')
          go_wp2_with fail
          refine hK.out _ _ (by first | exact hbd | assumption) ?_
          clear hK K
          intro hHeld2
          clear hHeld
          have hHeld := hHeld2
          clear hHeld2
          try simp only [Act.put, List.setIfInBounds_toArray, List.set_cons_zero, List.set_cons_succ]
          refine run_at (i := 21) rfl (by kernel_rfl) (by rfl) (fun K hK => ?_)
          simp only [List.getElem_toArray, List.getElem_cons_zero, List.getElem_cons_succ]
          go_simp
          first | (go_at_call 9; refine (reads_any w _ p q D ao cap xs0 pl f kk ii mm hBd HI.out HX.out).mono ?_; rintro e w7 ⟨rfl, pl7, f7, hB7⟩; have hb7 := hB7.bel; obtain ⟨a7, c7, k70, k71⟩ := hB7.end) | (go_at_call 10; refine (left_r w7 hB7.r).mono ?_; rintro e w8 ⟨rfl, q8, hw8⟩; have hB8 : Both w w8 p q D ao cap xs0 pl7 f7 := (by rw [hw8]; exact hB7.below (below_drewN (Below.refl _ _) q8)); have hb8 := hB8.bel; have k80 : w8.cell? ⟨q, 0, none⟩ = some (.slice a7 (xs0.length - pl7) c7) := (by rw [hw8]; simpa using k70); have k81 : w8.cell? ⟨q, 1, none⟩ = some (.int .i64 f7) := (by rw [hw8]; simpa using k71); clear hw8) | (go_at_call 12; refine (err_r w8 hB8.r).mono ?_; rintro e w9 ⟨rfl, hw9⟩; have hw9' := hw9.symm; subst hw9') | (go_at_call 11; refine (num_any _ w8).mono ?_; rintro e w10 ⟨rfl, hw10⟩; have hw10' := hw10.symm; subst hw10')
          go_wp2_with fail
          refine hK.out _ _ (by first | exact hbd | assumption) ?_
          clear hK K
          intro hHeld2
          clear hHeld
          have hHeld := hHeld2
          clear hHeld2
          try simp only [Act.put, List.setIfInBounds_toArray, List.set_cons_zero, List.set_cons_succ]
          refine take_at (i := 26) 60 (v := ?_) rfl rfl (by kernel_rfl) (by kernel_rfl) (by kernel_rfl) (fun _ _ _ h => h) (by rfl) ?_ hHeld ?_
          rotate_left
          · (intro w hSw; (try dsimp only at hSw); go_simp; try with_reducible rfl)
          simp only [Act.put, List.setIfInBounds_toArray, List.set_cons_zero, List.set_cons_succ]
          refine take_at (i := 27) 61 (v := ?_) rfl rfl (by kernel_rfl) (by kernel_rfl) (by kernel_rfl) (fun _ _ _ h => h) (by rfl) ?_ hHeld ?_
          rotate_left
          · (intro w hSw; (try dsimp only at hSw); go_simp; try with_reducible rfl)
          simp only [Act.put, List.setIfInBounds_toArray, List.set_cons_zero, List.set_cons_succ]
          refine wpAnyH_done (by kernel_rfl) ?_ _
          refine NoPanic.normal ?_
      all_goals
        go_wp2
        go_roundw
        case rel => exact ⟨k + 1, by omega, by go_num, pl7, f7, hB8⟩
        case measure => simp [intOf]; omega
    · have hBd : Both w wr.drew p q D ao cap xs0 pl f := hB.below (Below.refl _ _).drew
      have hbd := hBd.bel
      obtain ⟨a7, c7, k70, k71⟩ := hBd.end
      go_wp2_with fail
      refine wp_region_noPanic ?_
      refine wp_region_held_drew (S := (fun u => Below w.heap.size w u)) (by kernel_rfl) (by first | exact hbd | assumption) (fun hHeld => ?_)
      refine take_at (i := 0) 62 (v := ?_) rfl rfl (by kernel_rfl) (by kernel_rfl) (by kernel_rfl) (fun _ _ _ h => h) (by rfl) ?_ hHeld ?_
      rotate_left
      · (intro w hSw; (try dsimp only at hSw); go_simp; try with_reducible rfl)
      simp only [Act.put, List.setIfInBounds_toArray, List.set_cons_zero, List.set_cons_succ]
      refine take_at (i := 2) 64 (v := ?_) rfl rfl (by kernel_rfl) (by kernel_rfl) (by kernel_rfl) (fun _ _ _ h => h) (by rfl) ?_ hHeld ?_
      rotate_left
      · (intro w hSw; (try dsimp only at hSw); go_simp; try with_reducible rfl)
      simp only [Act.put, List.setIfInBounds_toArray, List.set_cons_zero, List.set_cons_succ]
      refine take_at (i := 3) 65 (v := ?_) rfl rfl (by kernel_rfl) (by kernel_rfl) (by kernel_rfl) (fun _ _ _ h => h) (by rfl) ?_ hHeld ?_
      rotate_left
      · (intro w hSw; (try dsimp only at hSw); go_simp; try with_reducible rfl)
      simp only [Act.put, List.setIfInBounds_toArray, List.set_cons_zero, List.set_cons_succ]
      refine take_at (i := 4) 66 (v := ?_) rfl rfl (by kernel_rfl) (by kernel_rfl) (by kernel_rfl) (fun _ _ _ h => h) (by rfl) ?_ hHeld ?_
      rotate_left
      · (intro w hSw; (try dsimp only at hSw); go_simp; try with_reducible rfl)
      simp only [Act.put, List.setIfInBounds_toArray, List.set_cons_zero, List.set_cons_succ]
      refine wpAnyH_ready (rs := [1, 5]) (by kernel_rfl) (by simp) ?_
      refine AllReadyH.cons (o := _) rfl (fun K hK => ?_) ?_
      focus
        rw [if_pos (by rfl)]
        simp only [List.getElem_toArray, List.getElem_cons_zero, List.getElem_cons_succ]
        go_simp
        first | (go_at_call 10; refine (left_r _ hBd.r).mono ?_; rintro e w8 ⟨rfl, q8, hw8⟩; have hB8 : Both w w8 p q D ao cap xs0 pl f := (by rw [hw8]; exact hBd.below (below_drewN (Below.refl _ _) q8)); have hb8 := hB8.bel; have k80 : w8.cell? ⟨q, 0, none⟩ = some (.slice a7 (xs0.length - pl) c7) := (by rw [hw8]; simpa using k70); have k81 : w8.cell? ⟨q, 1, none⟩ = some (.int .i64 f) := (by rw [hw8]; simpa using k71); clear hw8) | (go_at_call 12; refine (err_r w8 hB8.r).mono ?_; rintro e w9 ⟨rfl, hw9⟩; have hw9' := hw9.symm; subst hw9') | (go_at_call 11; refine (num_any _ w8).mono ?_; rintro e w10 ⟨rfl, hw10⟩; have hw10' := hw10.symm; subst hw10')
        go_wp2_with fail
        refine hK.out _ _ (by first | exact hbd | assumption) ?_
        clear hK K
        intro hHeld2
        clear hHeld
        have hHeld := hHeld2
        clear hHeld2
        try simp only [Act.put, List.setIfInBounds_toArray, List.set_cons_zero, List.set_cons_succ]
        refine val_at (i := 5) 67 (v := ?_) rfl rfl (by kernel_rfl) (by rfl) ?_ ?_ ?_
        rotate_left
        · (go_simp; try with_reducible rfl)
        · (first | exact hbd | assumption)
        intro hHeld2
        clear hHeld
        have hHeld := hHeld2
        clear hHeld2
        simp only [Act.put, List.setIfInBounds_toArray, List.set_cons_zero, List.set_cons_succ]
        refine take_at (i := 6) 68 (v := ?_) rfl rfl (by kernel_rfl) (by kernel_rfl) (by kernel_rfl) (fun _ _ _ h => h) (by rfl) ?_ hHeld ?_
        rotate_left
        · (intro w hSw; (try dsimp only at hSw); go_simp; try with_reducible rfl)
        simp only [Act.put, List.setIfInBounds_toArray, List.set_cons_zero, List.set_cons_succ]
        refine take_at (i := 7) 69 (v := ?_) rfl rfl (by kernel_rfl) (by kernel_rfl) (by kernel_rfl) (fun _ _ _ h => h) (by rfl) ?_ hHeld ?_
        rotate_left
        · (intro w hSw; (try dsimp only at hSw); go_simp; try with_reducible rfl)
        simp only [Act.put, List.setIfInBounds_toArray, List.set_cons_zero, List.set_cons_succ]
        refine take_at (i := 8) 70 (v := ?_) rfl rfl (by kernel_rfl) (by kernel_rfl) (by kernel_rfl) (fun _ _ _ h => h) (by rfl) ?_ hHeld ?_
        rotate_left
        · (intro w hSw; (try dsimp only at hSw); go_simp; try with_reducible rfl)
        simp only [Act.put, List.setIfInBounds_toArray, List.set_cons_zero, List.set_cons_succ]
        refine take_at (i := 9) 71 (v := ?_) rfl rfl (by kernel_rfl) (by kernel_rfl) (by kernel_rfl) (fun _ _ _ h => h) (by rfl) ?_ hHeld ?_
        rotate_left
        · (intro w hSw; (try dsimp only at hSw); go_simp; try with_reducible rfl)
        simp only [Act.put, List.setIfInBounds_toArray, List.set_cons_zero, List.set_cons_succ]
        refine take_at (i := 12) 74 (v := ?_) rfl rfl (by kernel_rfl) (by kernel_rfl) (by kernel_rfl) (fun _ _ _ h => h) (by rfl) ?_ hHeld ?_
        rotate_left
        · (intro w hSw; (try dsimp only at hSw); go_simp; try with_reducible rfl)
        simp only [Act.put, List.setIfInBounds_toArray, List.set_cons_zero, List.set_cons_succ]
        refine take_at (i := 13) 75 (v := ?_) rfl rfl (by kernel_rfl) (by kernel_rfl) (by kernel_rfl) (fun _ _ _ h => h) (by rfl) ?_ hHeld ?_
        rotate_left
        · (intro w hSw; (try dsimp only at hSw); go_simp; try with_reducible rfl)
        simp only [Act.put, List.setIfInBounds_toArray, List.set_cons_zero, List.set_cons_succ]
        refine take_at (i := 14) 76 (v := ?_) rfl rfl (by kernel_rfl) (by kernel_rfl) (by kernel_rfl) (fun _ _ _ h => h) (by rfl) ?_ hHeld ?_
        rotate_left
        · (intro w hSw; (try dsimp only at hSw); go_simp; try with_reducible rfl)
        simp only [Act.put, List.setIfInBounds_toArray, List.set_cons_zero, List.set_cons_succ]
        refine wpAnyH_ready (rs := [10, 15]) (by kernel_rfl) (by simp) ?_
        refine AllReadyH.cons (o := _) rfl (fun K hK => ?_) ?_
        focus
          rw [if_pos (by rfl)]
          simp only [List.getElem_toArray, List.getElem_cons_zero, List.getElem_cons_succ]
          go_simp
          first | (go_at_call 10; refine (left_r _ hBd.r).mono ?_; rintro e w8 ⟨rfl, q8, hw8⟩; have hB8 : Both w w8 p q D ao cap xs0 pl f := (by rw [hw8]; exact hBd.below (below_drewN (Below.refl _ _) q8)); have hb8 := hB8.bel; have k80 : w8.cell? ⟨q, 0, none⟩ = some (.slice a7 (xs0.length - pl) c7) := (by rw [hw8]; simpa using k70); have k81 : w8.cell? ⟨q, 1, none⟩ = some (.int .i64 f) := (by rw [hw8]; simpa using k71); clear hw8) | (go_at_call 12; refine (err_r w8 hB8.r).mono ?_; rintro e w9 ⟨rfl, hw9⟩; have hw9' := hw9.symm; subst hw9') | (go_at_call 11; refine (num_any _ w8).mono ?_; rintro e w10 ⟨rfl, hw10⟩; have hw10' := hw10.symm; subst hw10')
          go_wp2_with fail
          refine hK.out _ _ (by first | exact hbd | assumption) ?_
          clear hK K
          intro hHeld2
          clear hHeld
          have hHeld := hHeld2
          clear hHeld2
          try simp only [Act.put, List.setIfInBounds_toArray, List.set_cons_zero, List.set_cons_succ]
          refine wpAnyH_ready (rs := [11, 15]) (by kernel_rfl) (by simp) ?_
          refine AllReadyH.cons (o := _) rfl (fun K hK => ?_) ?_
          focus
            rw [if_pos (by rfl)]
            simp only [List.getElem_toArray, List.getElem_cons_zero, List.getElem_cons_succ]
            go_simp
            first | (go_at_call 10; refine (left_r _ hBd.r).mono ?_; rintro e w8 ⟨rfl, q8, hw8⟩; have hB8 : Both w w8 p q D ao cap xs0 pl f := (by rw [hw8]; exact hBd.below (below_drewN (Below.refl _ _) q8)); have hb8 := hB8.bel; have k80 : w8.cell? ⟨q, 0, none⟩ = some (.slice a7 (xs0.length - pl) c7) := (by rw [hw8]; simpa using k70); have k81 : w8.cell? ⟨q, 1, none⟩ = some (.int .i64 f) := (by rw [hw8]; simpa using k71); clear hw8) | (go_at_call 12; refine (err_r w8 hB8.r).mono ?_; rintro e w9 ⟨rfl, hw9⟩; have hw9' := hw9.symm; subst hw9') | (go_at_call 11; refine (num_any _ w8).mono ?_; rintro e w10 ⟨rfl, hw10⟩; have hw10' := hw10.symm; subst hw10')
            go_wp2_with fail
            refine hK.out _ _ (by first | exact hbd | assumption) ?_
            clear hK K
            intro hHeld2
            clear hHeld
            have hHeld := hHeld2
            clear hHeld2
            try simp only [Act.put, List.setIfInBounds_toArray, List.set_cons_zero, List.set_cons_succ]
            refine val_at (i := 15) 77 (v := ?_) rfl rfl (by kernel_rfl) (by rfl) ?_ ?_ ?_
            rotate_left
            · (go_simp; try with_reducible rfl)
            · (first | exact hbd | assumption)
            intro hHeld2
            clear hHeld
            have hHeld := hHeld2
            clear hHeld2
            simp only [Act.put, List.setIfInBounds_toArray, List.set_cons_zero, List.set_cons_succ]
            refine take_at (i := 16) 78 (v := ?_) rfl rfl (by kernel_rfl) (by kernel_rfl) (by kernel_rfl) (fun _ _ _ h => h) (by rfl) ?_ hHeld ?_
            rotate_left
            · (intro w hSw; (try dsimp only at hSw); go_simp; try with_reducible rfl)
            simp only [Act.put, List.setIfInBounds_toArray, List.set_cons_zero, List.set_cons_succ]
            refine take_at (i := 17) 79 (v := ?_) rfl rfl (by kernel_rfl) (by kernel_rfl) (by kernel_rfl) (fun _ _ _ h => h) (by rfl) ?_ hHeld ?_
            rotate_left
            · (intro w hSw; (try dsimp only at hSw); go_simp; try with_reducible rfl)
            simp only [Act.put, List.setIfInBounds_toArray, List.set_cons_zero, List.set_cons_succ]
            refine take_at (i := 18) 4 (v := ?_) rfl rfl (by kernel_rfl) (by kernel_rfl) (by kernel_rfl) (fun _ _ _ h => h) (by rfl) ?_ hHeld ?_
            rotate_left
            · (intro w hSw; (try dsimp only at hSw); go_simp; try with_reducible rfl)
            simp only [Act.put, List.setIfInBounds_toArray, List.set_cons_zero, List.set_cons_succ]
            refine wpAnyH_done (by kernel_rfl) ?_ _
            refine NoPanic.normal ?_
          rotate_left 1
          refine AllReadyH.cons (o := _) rfl (fun K hK => ?_) AllReadyH.nil
          focus
            rw [if_pos (by rfl)]
            refine val_wp 77 (v := ?_) rfl ?_ ?_
            rotate_left
            · (go_simp; try with_reducible rfl)
            refine hK.out _ _ (by first | exact hbd | assumption) ?_
            clear hK K
            intro hHeld2
            clear hHeld
            have hHeld := hHeld2
            clear hHeld2
            simp only [Act.put, List.setIfInBounds_toArray, List.set_cons_zero, List.set_cons_succ]
            refine run_at (i := 11) rfl (by kernel_rfl) (by rfl) (fun K hK => ?_)
            simp only [List.getElem_toArray, List.getElem_cons_zero, List.getElem_cons_succ]
            go_simp
            first | (go_at_call 10; refine (left_r _ hBd.r).mono ?_; rintro e w8 ⟨rfl, q8, hw8⟩; have hB8 : Both w w8 p q D ao cap xs0 pl f := (by rw [hw8]; exact hBd.below (below_drewN (Below.refl _ _) q8)); have hb8 := hB8.bel; have k80 : w8.cell? ⟨q, 0, none⟩ = some (.slice a7 (xs0.length - pl) c7) := (by rw [hw8]; simpa using k70); have k81 : w8.cell? ⟨q, 1, none⟩ = some (.int .i64 f) := (by rw [hw8]; simpa using k71); clear hw8) | (go_at_call 12; refine (err_r w8 hB8.r).mono ?_; rintro e w9 ⟨rfl, hw9⟩; have hw9' := hw9.symm; subst hw9') | (go_at_call 11; refine (num_any _ w8).mono ?_; rintro e w10 ⟨rfl, hw10⟩; have hw10' := hw10.symm; subst hw10')
            go_wp2_with fail
            refine hK.out _ _ (by first | exact hbd | assumption) ?_
            clear hK K
            intro hHeld2
            clear hHeld
            have hHeld := hHeld2
            clear hHeld2
            try simp only [Act.put, List.setIfInBounds_toArray, List.set_cons_zero, List.set_cons_succ]
            refine take_at (i := 16) 78 (v := ?_) rfl rfl (by kernel_rfl) (by kernel_rfl) (by kernel_rfl) (fun _ _ _ h => h) (by rfl) ?_ hHeld ?_
            rotate_left
            · (intro w hSw; (try dsimp only at hSw); go_simp; try with_reducible rfl)
            simp only [Act.put, List.setIfInBounds_toArray, List.set_cons_zero, List.set_cons_succ]
            refine take_at (i := 17) 79 (v := ?_) rfl rfl (by kernel_rfl) (by kernel_rfl) (by kernel_rfl) (fun _ _ _ h => h) (by rfl) ?_ hHeld ?_
            rotate_left
            · (intro w hSw; (try dsimp only at hSw); go_simp; try with_reducible rfl)
            simp only [Act.put, List.setIfInBounds_toArray, List.set_cons_zero, List.set_cons_succ]
            refine take_at (i := 18) 4 (v := ?_) rfl rfl (by kernel_rfl) (by kernel_rfl) (by kernel_rfl) (fun _ _ _ h => h) (by rfl) ?_ hHeld ?_
            rotate_left
            · (intro w hSw; (try dsimp only at hSw); go_simp; try with_reducible rfl)
            simp only [Act.put, List.setIfInBounds_toArray, List.set_cons_zero, List.set_cons_succ]
            refine wpAnyH_done (by kernel_rfl) ?_ _
            refine NoPanic.normal ?_
        rotate_left 2
        refine AllReadyH.cons (o := _) rfl (fun K hK => ?_) AllReadyH.nil
        focus
          rw [if_pos (by rfl)]
          refine val_wp 77 (v := ?_) rfl ?_ ?_
          rotate_left
          · (go_simp; try with_reducible rfl)
          refine hK.out _ _ (by first | exact hbd | assumption) ?_
          clear hK K
          intro hHeld2
          clear hHeld
          have hHeld := hHeld2
          clear hHeld2
          simp only [Act.put, List.setIfInBounds_toArray, List.set_cons_zero, List.set_cons_succ]
          refine run_at (i := 10) rfl (by kernel_rfl) (by rfl) (fun K hK => ?_)
          simp only [List.getElem_toArray, List.getElem_cons_zero, List.getElem_cons_succ]
          go_simp
          first | (go_at_call 10; refine (left_r _ hBd.r).mono ?_; rintro e w8 ⟨rfl, q8, hw8⟩; have hB8 : Both w w8 p q D ao cap xs0 pl f := (by rw [hw8]; exact hBd.below (below_drewN (Below.refl _ _) q8)); have hb8 := hB8.bel; have k80 : w8.cell? ⟨q, 0, none⟩ = some (.slice a7 (xs0.length - pl) c7) := (by rw [hw8]; simpa using k70); have k81 : w8.cell? ⟨q, 1, none⟩ = some (.int .i64 f) := (by rw [hw8]; simpa using k71); clear hw8) | (go_at_call 12; refine (err_r w8 hB8.r).mono ?_; rintro e w9 ⟨rfl, hw9⟩; have hw9' := hw9.symm; subst hw9') | (go_at_call 11; refine (num_any _ w8).mono ?_; rintro e w10 ⟨rfl, hw10⟩; have hw10' := hw10.symm; subst hw10')
          go_wp2_with fail
          refine hK.out _ _ (by first | exact hbd | assumption) ?_
          clear hK K
          intro hHeld2
          clear hHeld
          have hHeld := hHeld2
          clear hHeld2
          try simp only [Act.put, List.setIfInBounds_toArray, List.set_cons_zero, List.set_cons_succ]
          refine run_at (i := 11) rfl (by kernel_rfl) (by rfl) (fun K hK => ?_)
          simp only [List.getElem_toArray, List.getElem_cons_zero, List.getElem_cons_succ]
          go_simp
          first | (go_at_call 10; refine (left_r _ hBd.r).mono ?_; rintro e w8 ⟨rfl, q8, hw8⟩; have hB8 : Both w w8 p q D ao cap xs0 pl f := (by rw [hw8]; exact hBd.below (below_drewN (Below.refl _ _) q8)); have hb8 := hB8.bel; have k80 : w8.cell? ⟨q, 0, none⟩ = some (.slice a7 (xs0.length - pl) c7) := (by rw [hw8]; simpa using k70); have k81 : w8.cell? ⟨q, 1, none⟩ = some (.int .i64 f) := (by rw [hw8]; simpa using k71); clear hw8) | (go_at_call 12; refine (err_r w8 hB8.r).mono ?_; rintro e w9 ⟨rfl, hw9⟩; have hw9' := hw9.symm; subst hw9') | (go_at_call 11; refine (num_any _ w8).mono ?_; rintro e w10 ⟨rfl, hw10⟩; have hw10' := hw10.symm; subst hw10')
          go_wp2_with fail
          refine hK.out _ _ (by first | exact hbd | assumption) ?_
          clear hK K
          intro hHeld2
          clear hHeld
          have hHeld := hHeld2
          clear hHeld2
          try simp only [Act.put, List.setIfInBounds_toArray, List.set_cons_zero, List.set_cons_succ]
          refine take_at (i := 16) 78 (v := ?_) rfl rfl (by kernel_rfl) (by kernel_rfl) (by kernel_rfl) (fun _ _ _ h => h) (by rfl) ?_ hHeld ?_
          rotate_left
          · (intro w hSw; (try dsimp only at hSw); go_simp; try with_reducible rfl)
          simp only [Act.put, List.setIfInBounds_toArray, List.set_cons_zero, List.set_cons_succ]
          refine take_at (i := 17) 79 (v := ?_) rfl rfl (by kernel_rfl) (by kernel_rfl) (by kernel_rfl) (fun _ _ _ h => h) (by rfl) ?_ hHeld ?_
          rotate_left
          · (intro w hSw; (try dsimp only at hSw); go_simp; try with_reducible rfl)
          simp only [Act.put, List.setIfInBounds_toArray, List.set_cons_zero, List.set_cons_succ]
          refine take_at (i := 18) 4 (v := ?_) rfl rfl (by kernel_rfl) (by kernel_rfl) (by kernel_rfl) (fun _ _ _ h => h) (by rfl) ?_ hHeld ?_
          rotate_left
          · (intro w hSw; (try dsimp only at hSw); go_simp; try with_reducible rfl)
          simp only [Act.put, List.setIfInBounds_toArray, List.set_cons_zero, List.set_cons_succ]
          refine wpAnyH_done (by kernel_rfl) ?_ _
          refine NoPanic.normal ?_
      rotate_left 3
      refine AllReadyH.cons (o := _) rfl (fun K hK => ?_) AllReadyH.nil
      focus
        rw [if_pos (by rfl)]
        refine val_wp 67 (v := ?_) rfl ?_ ?_
        rotate_left
        · (go_simp; try with_reducible rfl)
        refine hK.out _ _ (by first | exact hbd | assumption) ?_
        clear hK K
        intro hHeld2
        clear hHeld
        have hHeld := hHeld2
        clear hHeld2
        simp only [Act.put, List.setIfInBounds_toArray, List.set_cons_zero, List.set_cons_succ]
        refine take_at (i := 6) 68 (v := ?_) rfl rfl (by kernel_rfl) (by kernel_rfl) (by kernel_rfl) (fun _ _ _ h => h) (by rfl) ?_ hHeld ?_
        rotate_left
        · (intro w hSw; (try dsimp only at hSw); go_simp; try with_reducible rfl)
        simp only [Act.put, List.setIfInBounds_toArray, List.set_cons_zero, List.set_cons_succ]
        refine run_at (i := 1) rfl (by kernel_rfl) (by rfl) (fun K hK => ?_)
        simp only [List.getElem_toArray, List.getElem_cons_zero, List.getElem_cons_succ]
        go_simp
        first | (go_at_call 10; refine (left_r _ hBd.r).mono ?_; rintro e w8 ⟨rfl, q8, hw8⟩; have hB8 : Both w w8 p q D ao cap xs0 pl f := (by rw [hw8]; exact hBd.below (below_drewN (Below.refl _ _) q8)); have hb8 := hB8.bel; have k80 : w8.cell? ⟨q, 0, none⟩ = some (.slice a7 (xs0.length - pl) c7) := (by rw [hw8]; simpa using k70); have k81 : w8.cell? ⟨q, 1, none⟩ = some (.int .i64 f) := (by rw [hw8]; simpa using k71); clear hw8) | (go_at_call 12; refine (err_r w8 hB8.r).mono ?_; rintro e w9 ⟨rfl, hw9⟩; have hw9' := hw9.symm; subst hw9') | (go_at_call 11; refine (num_any _ w8).mono ?_; rintro e w10 ⟨rfl, hw10⟩; have hw10' := hw10.symm; subst hw10')
        go_wp2_with fail
        refine hK.out _ _ (by first | exact hbd | assumption) ?_
        clear hK K
        intro hHeld2
        clear hHeld
        have hHeld := hHeld2
        clear hHeld2
        try simp only [Act.put, List.setIfInBounds_toArray, List.set_cons_zero, List.set_cons_succ]
        refine take_at (i := 7) 69 (v := ?_) rfl rfl (by kernel_rfl) (by kernel_rfl) (by kernel_rfl) (fun _ _ _ h => h) (by rfl) ?_ hHeld ?_
        rotate_left
        · (intro w hSw; (try dsimp only at hSw); go_simp; try with_reducible rfl)
        simp only [Act.put, List.setIfInBounds_toArray, List.set_cons_zero, List.set_cons_succ]
        refine take_at (i := 8) 70 (v := ?_) rfl rfl (by kernel_rfl) (by kernel_rfl) (by kernel_rfl) (fun _ _ _ h => h) (by rfl) ?_ hHeld ?_
        rotate_left
        · (intro w hSw; (try dsimp only at hSw); go_simp; try with_reducible rfl)
        simp only [Act.put, List.setIfInBounds_toArray, List.set_cons_zero, List.set_cons_succ]
        refine take_at (i := 9) 71 (v := ?_) rfl rfl (by kernel_rfl) (by kernel_rfl) (by kernel_rfl) (fun _ _ _ h => h) (by rfl) ?_ hHeld ?_
        rotate_left
        · (intro w hSw; (try dsimp only at hSw); go_simp; try with_reducible rfl)
        simp only [Act.put, List.setIfInBounds_toArray, List.set_cons_zero, List.set_cons_succ]
        refine take_at (i := 12) 74 (v := ?_) rfl rfl (by kernel_rfl) (by kernel_rfl) (by kernel_rfl) (fun _ _ _ h => h) (by rfl) ?_ hHeld ?_
        rotate_left
        · (intro w hSw; (try dsimp only at hSw); go_simp; try with_reducible rfl)
        simp only [Act.put, List.setIfInBounds_toArray, List.set_cons_zero, List.set_cons_succ]
        refine take_at (i := 13) 75 (v := ?_) rfl rfl (by kernel_rfl) (by kernel_rfl) (by kernel_rfl) (fun _ _ _ h => h) (by rfl) ?_ hHeld ?_
        rotate_left
        · (intro w hSw; (try dsimp only at hSw); go_simp; try with_reducible rfl)
        simp only [Act.put, List.setIfInBounds_toArray, List.set_cons_zero, List.set_cons_succ]
        refine take_at (i := 14) 76 (v := ?_) rfl rfl (by kernel_rfl) (by kernel_rfl) (by kernel_rfl) (fun _ _ _ h => h) (by rfl) ?_ hHeld ?_
        rotate_left
        · (intro w hSw; (try dsimp only at hSw); go_simp; try with_reducible rfl)
        simp only [Act.put, List.setIfInBounds_toArray, List.set_cons_zero, List.set_cons_succ]
        refine wpAnyH_ready (rs := [10, 15]) (by kernel_rfl) (by simp) ?_
        refine AllReadyH.cons (o := _) rfl (fun K hK => ?_) ?_
        focus
          rw [if_pos (by rfl)]
          simp only [List.getElem_toArray, List.getElem_cons_zero, List.getElem_cons_succ]
          go_simp
          first | (go_at_call 10; refine (left_r _ hBd.r).mono ?_; rintro e w8 ⟨rfl, q8, hw8⟩; have hB8 : Both w w8 p q D ao cap xs0 pl f := (by rw [hw8]; exact hBd.below (below_drewN (Below.refl _ _) q8)); have hb8 := hB8.bel; have k80 : w8.cell? ⟨q, 0, none⟩ = some (.slice a7 (xs0.length - pl) c7) := (by rw [hw8]; simpa using k70); have k81 : w8.cell? ⟨q, 1, none⟩ = some (.int .i64 f) := (by rw [hw8]; simpa using k71); clear hw8) | (go_at_call 12; refine (err_r w8 hB8.r).mono ?_; rintro e w9 ⟨rfl, hw9⟩; have hw9' := hw9.symm; subst hw9') | (go_at_call 11; refine (num_any _ w8).mono ?_; rintro e w10 ⟨rfl, hw10⟩; have hw10' := hw10.symm; subst hw10')
          go_wp2_with fail
          refine hK.out _ _ (by first | exact hbd | assumption) ?_
          clear hK K
          intro hHeld2
          clear hHeld
          have hHeld := hHeld2
          clear hHeld2
          try simp only [Act.put, List.setIfInBounds_toArray, List.set_cons_zero, List.set_cons_succ]
          refine wpAnyH_ready (rs := [11, 15]) (by kernel_rfl) (by simp) ?_
          refine AllReadyH.cons (o := _) rfl (fun K hK => ?_) ?_
          focus
            rw [if_pos (by rfl)]
            simp only [List.getElem_toArray, List.getElem_cons_zero, List.getElem_cons_succ]
            go_simp
            first | (go_at_call 10; refine (left_r _ hBd.r).mono ?_; rintro e w8 ⟨rfl, q8, hw8⟩; have hB8 : Both w w8 p q D ao cap xs0 pl f := (by rw [hw8]; exact hBd.below (below_drewN (Below.refl _ _) q8)); have hb8 := hB8.bel; have k80 : w8.cell? ⟨q, 0, none⟩ = some (.slice a7 (xs0.length - pl) c7) := (by rw [hw8]; simpa using k70); have k81 : w8.cell? ⟨q, 1, none⟩ = some (.int .i64 f) := (by rw [hw8]; simpa using k71); clear hw8) | (go_at_call 12; refine (err_r w8 hB8.r).mono ?_; rintro e w9 ⟨rfl, hw9⟩; have hw9' := hw9.symm; subst hw9') | (go_at_call 11; refine (num_any _ w8).mono ?_; rintro e w10 ⟨rfl, hw10⟩; have hw10' := hw10.symm; subst hw10')
            go_wp2_with fail
            refine hK.out _ _ (by first | exact hbd | assumption) ?_
            clear hK K
            intro hHeld2
            clear hHeld
            have hHeld := hHeld2
            clear hHeld2
            try simp only [Act.put, List.setIfInBounds_toArray, List.set_cons_zero, List.set_cons_succ]
            refine val_at (i := 15) 77 (v := ?_) rfl rfl (by kernel_rfl) (by rfl) ?_ ?_ ?_
            rotate_left
            · (go_simp; try with_reducible rfl)
            · (first | exact hbd | assumption)
            intro hHeld2
            clear hHeld
            have hHeld := hHeld2
            clear hHeld2
            simp only [Act.put, List.setIfInBounds_toArray, List.set_cons_zero, List.set_cons_succ]
            refine take_at (i := 16) 78 (v := ?_) rfl rfl (by kernel_rfl) (by kernel_rfl) (by kernel_rfl) (fun _ _ _ h => h) (by rfl) ?_ hHeld ?_
            rotate_left
            · (intro w hSw; (try dsimp only at hSw); go_simp; try with_reducible rfl)
            simp only [Act.put, List.setIfInBounds_toArray, List.set_cons_zero, List.set_cons_succ]
            refine take_at (i := 17) 79 (v := ?_) rfl rfl (by kernel_rfl) (by kernel_rfl) (by kernel_rfl) (fun _ _ _ h => h) (by rfl) ?_ hHeld ?_
            rotate_left
            · (intro w hSw; (try dsimp only at hSw); go_simp; try with_reducible rfl)
            simp only [Act.put, List.setIfInBounds_toArray, List.set_cons_zero, List.set_cons_succ]
            refine take_at (i := 18) 4 (v := ?_) rfl rfl (by kernel_rfl) (by kernel_rfl) (by kernel_rfl) (fun _ _ _ h => h) (by rfl) ?_ hHeld ?_
            rotate_left
            · (intro w hSw; (try dsimp only at hSw); go_simp; try with_reducible rfl)
            simp only [Act.put, List.setIfInBounds_toArray, List.set_cons_zero, List.set_cons_succ]
            refine wpAnyH_done (by kernel_rfl) ?_ _
            refine NoPanic.normal ?_
          rotate_left 1
          refine AllReadyH.cons (o := _) rfl (fun K hK => ?_) AllReadyH.nil
          focus
            rw [if_pos (by rfl)]
            refine val_wp 77 (v := ?_) rfl ?_ ?_
            rotate_left
            · (go_simp; try with_reducible rfl)
            refine hK.out _ _ (by first | exact hbd | assumption) ?_
            clear hK K
            intro hHeld2
            clear hHeld
            have hHeld := hHeld2
            clear hHeld2
            simp only [Act.put, List.setIfInBounds_toArray, List.set_cons_zero, List.set_cons_succ]
            refine run_at (i := 11) rfl (by kernel_rfl) (by rfl) (fun K hK => ?_)
            simp only [List.getElem_toArray, List.getElem_cons_zero, List.getElem_cons_succ]
            go_simp
            first | (go_at_call 10; refine (left_r _ hBd.r).mono ?_; rintro e w8 ⟨rfl, q8, hw8⟩; have hB8 : Both w w8 p q D ao cap xs0 pl f := (by rw [hw8]; exact hBd.below (below_drewN (Below.refl _ _) q8)); have hb8 := hB8.bel; have k80 : w8.cell? ⟨q, 0, none⟩ = some (.slice a7 (xs0.length - pl) c7) := (by rw [hw8]; simpa using k70); have k81 : w8.cell? ⟨q, 1, none⟩ = some (.int .i64 f) := (by rw [hw8]; simpa using k71); clear hw8) | (go_at_call 12; refine (err_r w8 hB8.r).mono ?_; rintro e w9 ⟨rfl, hw9⟩; have hw9' := hw9.symm; subst hw9') | (go_at_call 11; refine (num_any _ w8).mono ?_; rintro e w10 ⟨rfl, hw10⟩; have hw10' := hw10.symm; subst hw10')
            go_wp2_with fail
            refine hK.out _ _ (by first | exact hbd | assumption) ?_
            clear hK K
            intro hHeld2
            clear hHeld
            have hHeld := hHeld2
            clear hHeld2
            try simp only [Act.put, List.setIfInBounds_toArray, List.set_cons_zero, List.set_cons_succ]
            refine take_at (i := 16) 78 (v := ?_) rfl rfl (by kernel_rfl) (by kernel_rfl) (by kernel_rfl) (fun _ _ _ h => h) (by rfl) ?_ hHeld ?_
            rotate_left
            · (intro w hSw; (try dsimp only at hSw); go_simp; try with_reducible rfl)
            simp only [Act.put, List.setIfInBounds_toArray, List.set_cons_zero, List.set_cons_succ]
            refine take_at (i := 17) 79 (v := ?_) rfl rfl (by kernel_rfl) (by kernel_rfl) (by kernel_rfl) (fun _ _ _ h => h) (by rfl) ?_ hHeld ?_
            rotate_left
            · (intro w hSw; (try dsimp only at hSw); go_simp; try with_reducible rfl)
            simp only [Act.put, List.setIfInBounds_toArray, List.set_cons_zero, List.set_cons_succ]
            refine take_at (i := 18) 4 (v := ?_) rfl rfl (by kernel_rfl) (by kernel_rfl) (by kernel_rfl) (fun _ _ _ h => h) (by rfl) ?_ hHeld ?_
            rotate_left
            · (intro w hSw; (try dsimp only at hSw); go_simp; try with_reducible rfl)
            simp only [Act.put, List.setIfInBounds_toArray, List.set_cons_zero, List.set_cons_succ]
            refine wpAnyH_done (by kernel_rfl) ?_ _
            refine NoPanic.normal ?_
        rotate_left 2
        refine AllReadyH.cons (o := _) rfl (fun K hK => ?_) AllReadyH.nil
        focus
          rw [if_pos (by rfl)]
          refine val_wp 77 (v := ?_) rfl ?_ ?_
          rotate_left
          · (go_simp; try with_reducible rfl)
          refine hK.out _ _ (by first | exact hbd | assumption) ?_
          clear hK K
          intro hHeld2
          clear hHeld
          have hHeld := hHeld2
          clear hHeld2
          simp only [Act.put, List.setIfInBounds_toArray, List.set_cons_zero, List.set_cons_succ]
          refine run_at (i := 10) rfl (by kernel_rfl) (by rfl) (fun K hK => ?_)
          simp only [List.getElem_toArray, List.getElem_cons_zero, List.getElem_cons_succ]
          go_simp
          first | (go_at_call 10; refine (left_r _ hBd.r).mono ?_; rintro e w8 ⟨rfl, q8, hw8⟩; have hB8 : Both w w8 p q D ao cap xs0 pl f := (by rw [hw8]; exact hBd.below (below_drewN (Below.refl _ _) q8)); have hb8 := hB8.bel; have k80 : w8.cell? ⟨q, 0, none⟩ = some (.slice a7 (xs0.length - pl) c7) := (by rw [hw8]; simpa using k70); have k81 : w8.cell? ⟨q, 1, none⟩ = some (.int .i64 f) := (by rw [hw8]; simpa using k71); clear hw8) | (go_at_call 12; refine (err_r w8 hB8.r).mono ?_; rintro e w9 ⟨rfl, hw9⟩; have hw9' := hw9.symm; subst hw9') | (go_at_call 11; refine (num_any _ w8).mono ?_; rintro e w10 ⟨rfl, hw10⟩; have hw10' := hw10.symm; subst hw10')
          go_wp2_with fail
          refine hK.out _ _ (by first | exact hbd | assumption) ?_
          clear hK K
          intro hHeld2
          clear hHeld
          have hHeld := hHeld2
          clear hHeld2
          try simp only [Act.put, List.setIfInBounds_toArray, List.set_cons_zero, List.set_cons_succ]
          refine run_at (i := 11) rfl (by kernel_rfl) (by rfl) (fun K hK => ?_)
          simp only [List.getElem_toArray, List.getElem_cons_zero, List.getElem_cons_succ]
          go_simp
          first | (go_at_call 10; refine (left_r _ hBd.r).mono ?_; rintro e w8 ⟨rfl, q8, hw8⟩; have hB8 : Both w w8 p q D ao cap xs0 pl f := (by rw [hw8]; exact hBd.below (below_drewN (Below.refl _ _) q8)); have hb8 := hB8.bel; have k80 : w8.cell? ⟨q, 0, none⟩ = some (.slice a7 (xs0.length - pl) c7) := (by rw [hw8]; simpa using k70); have k81 : w8.cell? ⟨q, 1, none⟩ = some (.int .i64 f) := (by rw [hw8]; simpa using k71); clear hw8) | (go_at_call 12; refine (err_r w8 hB8.r).mono ?_; rintro e w9 ⟨rfl, hw9⟩; have hw9' := hw9.symm; subst hw9') | (go_at_call 11; refine (num_any _ w8).mono ?_; rintro e w10 ⟨rfl, hw10⟩; have hw10' := hw10.symm; subst hw10')
          go_wp2_with fail
          refine hK.out _ _ (by first | exact hbd | assumption) ?_
          clear hK K
          intro hHeld2
          clear hHeld
          have hHeld := hHeld2
          clear hHeld2
          try simp only [Act.put, List.setIfInBounds_toArray, List.set_cons_zero, List.set_cons_succ]
          refine take_at (i := 16) 78 (v := ?_) rfl rfl (by kernel_rfl) (by kernel_rfl) (by kernel_rfl) (fun _ _ _ h => h) (by rfl) ?_ hHeld ?_
          rotate_left
          · (intro w hSw; (try dsimp only at hSw); go_simp; try with_reducible rfl)
          simp only [Act.put, List.setIfInBounds_toArray, List.set_cons_zero, List.set_cons_succ]
          refine take_at (i := 17) 79 (v := ?_) rfl rfl (by kernel_rfl) (by kernel_rfl) (by kernel_rfl) (fun _ _ _ h => h) (by rfl) ?_ hHeld ?_
          rotate_left
          · (intro w hSw; (try dsimp only at hSw); go_simp; try with_reducible rfl)
          simp only [Act.put, List.setIfInBounds_toArray, List.set_cons_zero, List.set_cons_succ]
          refine take_at (i := 18) 4 (v := ?_) rfl rfl (by kernel_rfl) (by kernel_rfl) (by kernel_rfl) (fun _ _ _ h => h) (by rfl) ?_ hHeld ?_
          rotate_left
          · (intro w hSw; (try dsimp only at hSw); go_simp; try with_reducible rfl)
          simp only [Act.put, List.setIfInBounds_toArray, List.set_cons_zero, List.set_cons_succ]
          refine wpAnyH_done (by kernel_rfl) ?_ _
          refine NoPanic.normal ?_
      all_goals
        go_wp2
        go_ret
        exact ⟨by simp, hb8⟩
end Go.Proofs.Ytinphflminaijac
