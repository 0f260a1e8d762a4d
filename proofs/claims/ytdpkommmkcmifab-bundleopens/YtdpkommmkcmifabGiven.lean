import Derived.Test.YtdpkommmkcmifabGivP
namespace Go.Proofs.Ytdpkommmkcmifab
set_option linter.unusedVariables false
set_option linter.unusedSimpArgs false
open Go.RowKit
set_option maxRecDepth 20000 in
set_option maxHeartbeats 6400000 in
theorem given_any (b : Bun) (ba : Option Addr) (bc : Nat) (pa : Option Addr) (pc : Nat) (w : World) (h : BunR w b ba bc pa pc) :
    Calls Try.prog 19 #[bunV b ba bc pa pc] w fun e w' => ∃ g q, e = .returned (bunV b (some ⟨g, 0, none⟩) (b.bl.length + 2) (some ⟨q, 0, none⟩) (b.py.length + 4)) ∧ GivR w' b g q ∧ Below w.heap.size w w' := by
  unfold bunV
  have hn := h.ok.bn
  obtain ⟨i0, hi, hz0, hz1, hz2⟩ := info_parts infoB
  obtain ⟨M, hM⟩ : ∃ M : Nat, M = b.bl.length + 2 := ⟨_, rfl⟩
  obtain ⟨Z, hZ⟩ : ∃ Z : Array Value, Z = madeCells (Value.cells (.agg #[.int .u64 0, .int .u64 0, .int .u64 0, .slice none 0 0])) (M * 4) := ⟨_, rfl⟩
  have HZ : Hid (Z.size = M * 4) := by unfold Hid; rw [hZ]; exact size_madeCells _ _
  have hmk : ∀ u : World, (Instr.makeSlice 34 (.int .i64 (M : Int)) (.int .i64 (M : Int))).run Try.prog u = .ok (.slice (some ⟨u.heap.size, 0, none⟩) M M) (u.alloc (.cells Z 48)) := fun u => by
    have := run_make (P := Try.prog) u 34 48 i0 _ Try.underlying34 hi hz0 .i64 .i64 (M : Int) (M : Int) (by omega) (Int.le_refl _) (by rw [hz2]; omega) (by omega)
    rw [hz1, Int.toNat_natCast, ← hZ] at this
    exact this
  have HM : Hid (M = b.bl.length + 2) := hM
  have hMw : IntKind.i64.wrap ((b.bl.length : Int) + 2) = (M : Int) := by rw [IntKind.wrap_i64]; omega
  obtain ⟨W0, hW0⟩ : ∃ W0 : World, W0 = (w.alloc (.cells #[.int .u64 b.fl, .int .u64 b.e0, .int .u64 b.e1, .int .u64 b.e2, .int .u64 b.e3, .int .u64 b.e4, .int .u64 b.e5, .int .u64 b.tm, .int .u64 b.sq, .int .u64 b.lf, .slice ba b.bl.length bc, .slice pa b.py.length pc] 57)).alloc (.cells #[.int .u64 0, .int .u64 0, .int .u64 0, .int .u64 0, .int .u64 0, .int .u64 0, .int .u64 0, .int .u64 0, .int .u64 0, .int .u64 0, .slice none 0 0, .slice none 0 0] 36) := ⟨_, rfl⟩
  have hI : W0.heap[w.heap.size]? = some (.cells #[.int .u64 b.fl, .int .u64 b.e0, .int .u64 b.e1, .int .u64 b.e2, .int .u64 b.e3, .int .u64 b.e4, .int .u64 b.e5, .int .u64 b.tm, .int .u64 b.sq, .int .u64 b.lf, .slice ba b.bl.length bc, .slice pa b.py.length pc] 57 (0, 0)) := by rw [hW0]; exact (two_new w _ _).1
  have hR : W0.heap[w.heap.size + 1]? = some (.cells #[.int .u64 0, .int .u64 0, .int .u64 0, .int .u64 0, .int .u64 0, .int .u64 0, .int .u64 0, .int .u64 0, .int .u64 0, .int .u64 0, .slice none 0 0, .slice none 0 0] 36 (0, 0)) := by rw [hW0]; exact (two_new w _ _).2
  have hb0 : Below w.heap.size w W0 := by rw [hW0]; exact al (al (Below.refl _ _) _) _
  obtain ⟨c0, c1, c2, c3, c4, c5, c6, c7, c8, c9, c10, c11⟩ := box12 hI
  have HRp : Hid (Rd W0 pa b.py) := h.rp.below hb0
  have HPl : Hid (b.py.length ≤ 140737488351232) := h.ok.py
  clear hM hZ
  go_enter Try.func19, Try.ntmps19
  go_wp2_with fail
  rw [← hW0]
  have HW0 : Hid _ := hW0
  clear hW0
  refine wp_region_noPanic ?_
  refine wp_region_held_drew (S := (fun u => Below W0.heap.size W0 u)) (by kernel_rfl) (by with_reducible first | assumption | exact (Below.refl _ _).drew | exact al (by assumption) _ | exact (al (Below.refl _ _) _).drew | exact below_set12 (by assumption) (Nat.le_refl _)) (fun hHeld => ?_)
  refine take_at (i := 0) 7 (v := ?_) rfl rfl (by kernel_rfl) (by kernel_rfl) (by kernel_rfl) (fun _ _ _ h => h) (by rfl) ?_ hHeld ?_
  rotate_left
  · (intro w hSw; (try dsimp only at hSw); go_simp; try with_reducible rfl)
  simp only [Act.put, List.setIfInBounds_toArray, List.set_cons_zero, List.set_cons_succ]
  refine take_at (i := 1) 8 (v := ?_) rfl rfl (by kernel_rfl) (by kernel_rfl) (by kernel_rfl) (fun _ _ _ h => h) (by rfl) ?_ hHeld ?_
  rotate_left
  · (intro w hSw; (try dsimp only at hSw); go_simp; try with_reducible rfl)
  simp only [Act.put, List.setIfInBounds_toArray, List.set_cons_zero, List.set_cons_succ]
  refine take_at (i := 2) 9 (v := ?_) rfl rfl (by kernel_rfl) (by kernel_rfl) (by kernel_rfl) (fun _ _ _ h => h) (by rfl) ?_ hHeld ?_
  rotate_left
  · (intro w hSw; (try dsimp only at hSw); go_simp; try with_reducible rfl)
  simp only [Act.put, List.setIfInBounds_toArray, List.set_cons_zero, List.set_cons_succ]
  refine take_at (i := 3) 10 (v := ?_) rfl rfl (by kernel_rfl) (by kernel_rfl) (by kernel_rfl) (fun _ _ _ h => h) (by rfl) ?_ hHeld ?_
  rotate_left
  · (intro w hSw; (try dsimp only at hSw); go_simp; try with_reducible rfl)
  simp only [Act.put, List.setIfInBounds_toArray, List.set_cons_zero, List.set_cons_succ]
  refine take_at (i := 4) 11 (v := ?_) rfl rfl (by kernel_rfl) (by kernel_rfl) (by kernel_rfl) (fun _ _ _ h => h) (by rfl) ?_ hHeld ?_
  rotate_left
  · (intro w hSw; (try dsimp only at hSw); go_simp; try with_reducible rfl)
  simp only [Act.put, List.setIfInBounds_toArray, List.set_cons_zero, List.set_cons_succ]
  refine take_at (i := 5) 12 (v := ?_) rfl rfl (by kernel_rfl) (by kernel_rfl) (by kernel_rfl) (fun _ _ _ h => h) (by rfl) ?_ hHeld ?_
  rotate_left
  · (intro w hSw; (try dsimp only at hSw); go_simp; try with_reducible rfl)
  simp only [Act.put, List.setIfInBounds_toArray, List.set_cons_zero, List.set_cons_succ]
  refine take_at (i := 6) 13 (v := ?_) rfl rfl (by kernel_rfl) (by kernel_rfl) (by kernel_rfl) (fun _ _ _ h => h) (by rfl) ?_ hHeld ?_
  rotate_left
  · (intro w hSw; (try dsimp only at hSw); go_simp; try with_reducible rfl)
  simp only [Act.put, List.setIfInBounds_toArray, List.set_cons_zero, List.set_cons_succ]
  refine take_at (i := 7) 14 (v := ?_) rfl rfl (by kernel_rfl) (by kernel_rfl) (by kernel_rfl) (fun _ _ _ h => h) (by rfl) ?_ hHeld ?_
  rotate_left
  · (intro w hSw; (try dsimp only at hSw); go_simp; try with_reducible rfl)
  simp only [Act.put, List.setIfInBounds_toArray, List.set_cons_zero, List.set_cons_succ]
  refine take_at (i := 8) 15 (v := ?_) rfl rfl (by kernel_rfl) (by kernel_rfl) (by kernel_rfl) (fun _ _ _ h => h) (by rfl) ?_ hHeld ?_
  rotate_left
  · (intro w hSw; (try dsimp only at hSw); go_simp; try with_reducible rfl)
  simp only [Act.put, List.setIfInBounds_toArray, List.set_cons_zero, List.set_cons_succ]
  refine take_at (i := 9) 16 (v := ?_) rfl rfl (by kernel_rfl) (by kernel_rfl) (by kernel_rfl) (fun _ _ _ h => h) (by rfl) ?_ hHeld ?_
  rotate_left
  · (intro w hSw; (try dsimp only at hSw); go_simp; try with_reducible rfl)
  simp only [Act.put, List.setIfInBounds_toArray, List.set_cons_zero, List.set_cons_succ]
  refine take_at (i := 10) 17 (v := ?_) rfl rfl (by kernel_rfl) (by kernel_rfl) (by kernel_rfl) (fun _ _ _ h => h) (by rfl) ?_ hHeld ?_
  rotate_left
  · (intro w hSw; (try dsimp only at hSw); go_simp; try with_reducible rfl)
  simp only [Act.put, List.setIfInBounds_toArray, List.set_cons_zero, List.set_cons_succ]
  refine take_at (i := 11) 18 (v := ?_) rfl rfl (by kernel_rfl) (by kernel_rfl) (by kernel_rfl) (fun _ _ _ h => h) (by rfl) ?_ hHeld ?_
  rotate_left
  · (intro w hSw; (try dsimp only at hSw); go_simp; try with_reducible rfl)
  simp only [Act.put, List.setIfInBounds_toArray, List.set_cons_zero, List.set_cons_succ]
  refine take_at (i := 12) 19 (v := ?_) rfl rfl (by kernel_rfl) (by kernel_rfl) (by kernel_rfl) (fun _ _ _ h => h) (by rfl) ?_ hHeld ?_
  rotate_left
  · (intro w hSw; (try dsimp only at hSw); go_simp; try with_reducible rfl)
  simp only [Act.put, List.setIfInBounds_toArray, List.set_cons_zero, List.set_cons_succ]
  refine take_at (i := 13) 20 (v := ?_) rfl rfl (by kernel_rfl) (by kernel_rfl) (by kernel_rfl) (fun _ _ _ h => h) (by rfl) ?_ hHeld ?_
  rotate_left
  · (intro w hSw; (try dsimp only at hSw); go_simp; try with_reducible rfl)
  simp only [Act.put, List.setIfInBounds_toArray, List.set_cons_zero, List.set_cons_succ]
  refine take_at (i := 14) 21 (v := ?_) rfl rfl (by kernel_rfl) (by kernel_rfl) (by kernel_rfl) (fun _ _ _ h => h) (by rfl) ?_ hHeld ?_
  rotate_left
  · (intro w hSw; (try dsimp only at hSw); go_simp; try with_reducible rfl)
  simp only [Act.put, List.setIfInBounds_toArray, List.set_cons_zero, List.set_cons_succ]
  refine take_at (i := 15) 22 (v := ?_) rfl rfl (by kernel_rfl) (by kernel_rfl) (by kernel_rfl) (fun _ _ _ h => h) (by rfl) ?_ hHeld ?_
  rotate_left
  · (intro w hSw; (try dsimp only at hSw); go_simp; try with_reducible rfl)
  simp only [Act.put, List.setIfInBounds_toArray, List.set_cons_zero, List.set_cons_succ]
  refine take_at (i := 16) 23 (v := ?_) rfl rfl (by kernel_rfl) (by kernel_rfl) (by kernel_rfl) (fun _ _ _ h => h) (by rfl) ?_ hHeld ?_
  rotate_left
  · (intro w hSw; (try dsimp only at hSw); go_simp; try with_reducible rfl)
  simp only [Act.put, List.setIfInBounds_toArray, List.set_cons_zero, List.set_cons_succ]
  refine take_at (i := 17) 24 (v := ?_) rfl rfl (by kernel_rfl) (by kernel_rfl) (by kernel_rfl) (fun _ _ _ h => h) (by rfl) ?_ hHeld ?_
  rotate_left
  · (intro w hSw; (try dsimp only at hSw); go_simp; try with_reducible rfl)
  simp only [Act.put, List.setIfInBounds_toArray, List.set_cons_zero, List.set_cons_succ]
  refine take_at (i := 18) 25 (v := ?_) rfl rfl (by kernel_rfl) (by kernel_rfl) (by kernel_rfl) (fun _ _ _ h => h) (by rfl) ?_ hHeld ?_
  rotate_left
  · (intro w hSw; (try dsimp only at hSw); go_simp; try with_reducible rfl)
  simp only [Act.put, List.setIfInBounds_toArray, List.set_cons_zero, List.set_cons_succ]
  refine take_at (i := 19) 26 (v := ?_) rfl rfl (by kernel_rfl) (by kernel_rfl) (by kernel_rfl) (fun _ _ _ h => h) (by rfl) ?_ hHeld ?_
  rotate_left
  · (intro w hSw; (try dsimp only at hSw); go_simp; try with_reducible rfl)
  simp only [Act.put, List.setIfInBounds_toArray, List.set_cons_zero, List.set_cons_succ]
  refine take_at (i := 20) 27 (v := ?_) rfl rfl (by kernel_rfl) (by kernel_rfl) (by kernel_rfl) (fun _ _ _ h => h) (by rfl) ?_ hHeld ?_
  rotate_left
  · (intro w hSw; (try dsimp only at hSw); go_simp; try with_reducible rfl)
  simp only [Act.put, List.setIfInBounds_toArray, List.set_cons_zero, List.set_cons_succ]
  refine take_at (i := 21) 28 (v := ?_) rfl rfl (by kernel_rfl) (by kernel_rfl) (by kernel_rfl) (fun _ _ _ h => h) (by rfl) ?_ hHeld ?_
  rotate_left
  · (intro w hSw; (try dsimp only at hSw); go_simp; try with_reducible rfl)
  simp only [Act.put, List.setIfInBounds_toArray, List.set_cons_zero, List.set_cons_succ]
  refine take_at (i := 22) 29 (v := ?_) rfl rfl (by kernel_rfl) (by kernel_rfl) (by kernel_rfl) (fun _ _ _ h => h) (by rfl) ?_ hHeld ?_
  rotate_left
  · (intro w hSw; (try dsimp only at hSw); go_simp; try with_reducible rfl)
  simp only [Act.put, List.setIfInBounds_toArray, List.set_cons_zero, List.set_cons_succ]
  refine take_at (i := 23) 30 (v := ?_) rfl rfl (by kernel_rfl) (by kernel_rfl) (by kernel_rfl) (fun _ _ _ h => h) (by rfl) ?_ hHeld ?_
  rotate_left
  · (intro w hSw; (try dsimp only at hSw); go_simp; try with_reducible rfl)
  simp only [Act.put, List.setIfInBounds_toArray, List.set_cons_zero, List.set_cons_succ]
  refine take_at (i := 24) 31 (v := ?_) rfl rfl (by kernel_rfl) (by kernel_rfl) (by kernel_rfl) (fun _ _ _ h => h) (by rfl) ?_ hHeld ?_
  rotate_left
  · (intro w hSw; (try dsimp only at hSw); go_simp; try with_reducible rfl)
  simp only [Act.put, List.setIfInBounds_toArray, List.set_cons_zero, List.set_cons_succ]
  refine take_at (i := 25) 32 (v := ?_) rfl rfl (by kernel_rfl) (by kernel_rfl) (by kernel_rfl) (fun _ _ _ h => h) (by rfl) ?_ hHeld ?_
  rotate_left
  · (intro w hSw; (try dsimp only at hSw); go_simp; try with_reducible rfl)
  simp only [Act.put, List.setIfInBounds_toArray, List.set_cons_zero, List.set_cons_succ]
  refine take_at (i := 26) 33 (v := ?_) rfl rfl (by kernel_rfl) (by kernel_rfl) (by kernel_rfl) (fun _ _ _ h => h) (by rfl) ?_ hHeld ?_
  rotate_left
  · (intro w hSw; (try dsimp only at hSw); go_simp; try with_reducible rfl)
  simp only [Act.put, List.setIfInBounds_toArray, List.set_cons_zero, List.set_cons_succ]
  refine take_at (i := 27) 34 (v := ?_) rfl rfl (by kernel_rfl) (by kernel_rfl) (by kernel_rfl) (fun _ _ _ h => h) (by rfl) ?_ hHeld ?_
  rotate_left
  · (intro w hSw; (try dsimp only at hSw); go_simp; try with_reducible rfl)
  simp only [Act.put, List.setIfInBounds_toArray, List.set_cons_zero, List.set_cons_succ]
  refine take_at (i := 28) 35 (v := ?_) rfl rfl (by kernel_rfl) (by kernel_rfl) (by kernel_rfl) (fun _ _ _ h => h) (by rfl) ?_ hHeld ?_
  rotate_left
  · (intro w hSw; (try dsimp only at hSw); go_simp; try with_reducible rfl)
  simp only [Act.put, List.setIfInBounds_toArray, List.set_cons_zero, List.set_cons_succ]
  refine wpAnyH_ready (rs := [29, 31]) (by kernel_rfl) (by simp) ?_
  refine AllReadyH.cons (o := _) rfl (fun K hK => ?_) ?_
  focus
    rw [if_pos (by rfl)]
    simp only [List.getElem_toArray, List.getElem_cons_zero, List.getElem_cons_succ]
    go_simp
    first | (go_at_call 8; refine (bytes_any pa pc b.py _ (HRp.out.below (by first | exact (Below.refl _ _).drew | assumption)) HPl.out).mono ?_; rintro e w5 ⟨q5, rfl, hq5, hr5, hb5⟩; have hS5 := below_next (B := W0) (by first | exact (Below.refl _ _).drew | assumption) hb5; first | (have hNew := box_on (heap_alloc_new W0 _) (below_next (Below.refl _ _).drew hb5); obtain ⟨n0, n1, n2, n3, n4, n5, n6, n7, n8, n9, n10, n11, f0, f1, f2, f3, f4, f5, f6, f7, f8, f9, f10, f11⟩ := cells12 hNew) | skip)
    go_wp2_with fail
    refine hK.out _ _ (by with_reducible first | assumption | exact (Below.refl _ _).drew | exact al (by assumption) _ | exact (al (Below.refl _ _) _).drew | exact below_set12 (by assumption) (Nat.le_refl _)) ?_
    clear hK K
    intro hHeld2
    clear hHeld
    have hHeld := hHeld2
    clear hHeld2
    try simp only [Act.put, List.setIfInBounds_toArray, List.set_cons_zero, List.set_cons_succ]
    refine take_at (i := 30) 37 (v := ?_) rfl rfl (by kernel_rfl) (by kernel_rfl) (by kernel_rfl) (fun _ _ _ h => h) (by rfl) ?_ hHeld ?_
    rotate_left
    · (intro w hSw; (try dsimp only at hSw); go_simp; try with_reducible rfl)
    simp only [Act.put, List.setIfInBounds_toArray, List.set_cons_zero, List.set_cons_succ]
    refine run_at (i := 31) rfl (by kernel_rfl) (by rfl) (fun K hK => ?_)
    simp only [List.getElem_toArray, List.getElem_cons_zero, List.getElem_cons_succ]
    go_simp
    go_wp2_with fail
    refine hK.out _ _ (by with_reducible first | assumption | exact (Below.refl _ _).drew | exact al (by assumption) _ | exact (al (Below.refl _ _) _).drew | exact below_set12 (by assumption) (Nat.le_refl _)) ?_
    clear hK K
    intro hHeld2
    clear hHeld
    have hHeld := hHeld2
    clear hHeld2
    try simp only [Act.put, List.setIfInBounds_toArray, List.set_cons_zero, List.set_cons_succ]
    refine run_at (i := 32) rfl (by kernel_rfl) (by rfl) (fun K hK => ?_)
    simp only [List.getElem_toArray, List.getElem_cons_zero, List.getElem_cons_succ]
    go_simp
    go_wp2_with fail
    refine hK.out _ _ (by with_reducible first | assumption | exact (Below.refl _ _).drew | exact al (by assumption) _ | exact (al (Below.refl _ _) _).drew | exact below_set12 (by assumption) (Nat.le_refl _)) ?_
    clear hK K
    intro hHeld2
    clear hHeld
    have hHeld := hHeld2
    clear hHeld2
    try simp only [Act.put, List.setIfInBounds_toArray, List.set_cons_zero, List.set_cons_succ]
    refine wpAnyH_done (by kernel_rfl) ?_ _
    refine NoPanic.normal ?_
  rotate_left 1
  refine AllReadyH.cons (o := _) rfl (fun K hK => ?_) AllReadyH.nil
  focus
    rw [if_pos (by rfl)]
    simp only [List.getElem_toArray, List.getElem_cons_zero, List.getElem_cons_succ]
    go_simp
    go_wp2_with fail
    refine hK.out _ _ (by with_reducible first | assumption | exact (Below.refl _ _).drew | exact al (by assumption) _ | exact (al (Below.refl _ _) _).drew | exact below_set12 (by assumption) (Nat.le_refl _)) ?_
    clear hK K
    intro hHeld2
    clear hHeld
    have hHeld := hHeld2
    clear hHeld2
    try simp only [Act.put, List.setIfInBounds_toArray, List.set_cons_zero, List.set_cons_succ]
    refine run_at (i := 29) rfl (by kernel_rfl) (by rfl) (fun K hK => ?_)
    simp only [List.getElem_toArray, List.getElem_cons_zero, List.getElem_cons_succ]
    go_simp
    first | (go_at_call 8; refine (bytes_any pa pc b.py _ (HRp.out.below (by first | exact (Below.refl _ _).drew | assumption)) HPl.out).mono ?_; rintro e w5 ⟨q5, rfl, hq5, hr5, hb5⟩; have hS5 := below_next (B := W0) (by first | exact (Below.refl _ _).drew | assumption) hb5; first | (have hNew := box_on (heap_alloc_new W0 _) (below_next (Below.refl _ _).drew hb5); obtain ⟨n0, n1, n2, n3, n4, n5, n6, n7, n8, n9, n10, n11, f0, f1, f2, f3, f4, f5, f6, f7, f8, f9, f10, f11⟩ := cells12 hNew) | skip)
    go_wp2_with fail
    refine hK.out _ _ (by with_reducible first | assumption | exact (Below.refl _ _).drew | exact al (by assumption) _ | exact (al (Below.refl _ _) _).drew | exact below_set12 (by assumption) (Nat.le_refl _)) ?_
    clear hK K
    intro hHeld2
    clear hHeld
    have hHeld := hHeld2
    clear hHeld2
    try simp only [Act.put, List.setIfInBounds_toArray, List.set_cons_zero, List.set_cons_succ]
    refine take_at (i := 30) 37 (v := ?_) rfl rfl (by kernel_rfl) (by kernel_rfl) (by kernel_rfl) (fun _ _ _ h => h) (by rfl) ?_ hHeld ?_
    rotate_left
    · (intro w hSw; (try dsimp only at hSw); go_simp; try with_reducible rfl)
    simp only [Act.put, List.setIfInBounds_toArray, List.set_cons_zero, List.set_cons_succ]
    refine run_at (i := 32) rfl (by kernel_rfl) (by rfl) (fun K hK => ?_)
    simp only [List.getElem_toArray, List.getElem_cons_zero, List.getElem_cons_succ]
    go_simp
    go_wp2_with fail
    refine hK.out _ _ (by with_reducible first | assumption | exact (Below.refl _ _).drew | exact al (by assumption) _ | exact (al (Below.refl _ _) _).drew | exact below_set12 (by assumption) (Nat.le_refl _)) ?_
    clear hK K
    intro hHeld2
    clear hHeld
    have hHeld := hHeld2
    clear hHeld2
    try simp only [Act.put, List.setIfInBounds_toArray, List.set_cons_zero, List.set_cons_succ]
    refine wpAnyH_done (by kernel_rfl) ?_ _
    refine NoPanic.normal ?_
  all_goals
    have hlt5 : q5 < w5.heap.size := by
      obtain ⟨b5, o5, e5, hc5⟩ := hr5 (by simp [m4])
      have := World.block_lt_of_cell? w5 _ (hc5 0 (by simp [m4]))
      cases e5
      exact this
    first
    | (obtain ⟨W1, hW1⟩ : ∃ W1 : World, W1 = ((((((((((((w5.setCell ⟨W0.heap.size, 0, none⟩ (.int .u64 b.fl)).setCell ⟨W0.heap.size, 1, none⟩ (.int .u64 b.e0)).setCell ⟨W0.heap.size, 2, none⟩ (.int .u64 b.e1)).setCell ⟨W0.heap.size, 3, none⟩ (.int .u64 b.e2)).setCell ⟨W0.heap.size, 4, none⟩ (.int .u64 b.e3)).setCell ⟨W0.heap.size, 5, none⟩ (.int .u64 b.e4)).setCell ⟨W0.heap.size, 6, none⟩ (.int .u64 b.e5)).setCell ⟨W0.heap.size, 7, none⟩ (.int .u64 b.tm)).setCell ⟨W0.heap.size, 8, none⟩ (.int .u64 b.sq)).setCell ⟨W0.heap.size, 9, none⟩ (.int .u64 b.lf)).setCell ⟨W0.heap.size, 10, none⟩ (.slice none 0 0)).setCell ⟨W0.heap.size, 11, none⟩ (.slice (some ⟨q5, 0, none⟩) b.py.length (b.py.length + 4))) := ⟨_, rfl⟩
       obtain ⟨P, hPe⟩ : ∃ P : Nat, P = W0.heap.size := ⟨_, rfl⟩
       have hP : W1.heap[P]? = some (.cells #[.int .u64 b.fl, .int .u64 b.e0, .int .u64 b.e1, .int .u64 b.e2, .int .u64 b.e3, .int .u64 b.e4, .int .u64 b.e5, .int .u64 b.tm, .int .u64 b.sq, .int .u64 b.lf, .slice none 0 0, .slice (some ⟨q5, 0, none⟩) b.py.length (b.py.length + 4)] 36 (0, 0)) := by rw [hW1, hPe]; exact heap_set12 hNew
       have hr1 : Rd W1 (some ⟨q5, 0, none⟩) (b.py ++ m4) := by rw [hW1]; exact hr5.grown gr_set12 (fun a ha => by cases ha; simp at hq5 ⊢; omega)
       have hb1 : Below W0.heap.size W0 W1 := by rw [hW1]; exact below_set12 hS5 (Nat.le_refl _)
       have hPq : P ≠ q5 := by rw [hPe]; simp at hq5; omega
       have hPB : W0.heap.size ≤ P := by omega
       have hqB : W0.heap.size ≤ q5 := by simp at hq5; omega
       rw [← hW1, ← hPe]
       clear hW1 hPe hNew n0 n1 n2 n3 n4 n5 n6 n7 n8 n9 n10 n11 f0 f1 f2 f3 f4 f5 f6 f7 f8 f9 f10 f11)
    | (obtain ⟨W1, hW1⟩ : ∃ W1 : World, W1 = w5.alloc (.cells #[.int .u64 b.fl, .int .u64 b.e0, .int .u64 b.e1, .int .u64 b.e2, .int .u64 b.e3, .int .u64 b.e4, .int .u64 b.e5, .int .u64 b.tm, .int .u64 b.sq, .int .u64 b.lf, .slice none 0 0, .slice (some ⟨q5, 0, none⟩) b.py.length (b.py.length + 4)] 36) := ⟨_, rfl⟩
       obtain ⟨P, hPe⟩ : ∃ P : Nat, P = w5.heap.size := ⟨_, rfl⟩
       have hP : W1.heap[P]? = some (.cells #[.int .u64 b.fl, .int .u64 b.e0, .int .u64 b.e1, .int .u64 b.e2, .int .u64 b.e3, .int .u64 b.e4, .int .u64 b.e5, .int .u64 b.tm, .int .u64 b.sq, .int .u64 b.lf, .slice none 0 0, .slice (some ⟨q5, 0, none⟩) b.py.length (b.py.length + 4)] 36 (0, 0)) := by rw [hW1, hPe]; exact heap_alloc_new w5 _
       have hr1 : Rd W1 (some ⟨q5, 0, none⟩) (b.py ++ m4) := by rw [hW1]; exact hr5.alloc _
       have hb1 : Below W0.heap.size W0 W1 := by rw [hW1]; exact al hS5 _
       have hPq : P ≠ q5 := by omega
       have hPB : W0.heap.size ≤ P := by have := hS5.size; omega
       have hqB : W0.heap.size ≤ q5 := hq5
       rw [← hW1, ← hPe]
       clear hW1 hPe)
    have hI10 := c10 W1 hb1
    have hR1 := box_on hR hb1
    have hbw := below_next hb0 hb1
    clear hS5 hb5 hHeld hr5 hq5 hlt5 w5 c0 c1 c2 c3 c4 c5 c6 c7 c8 c9 c10 c11 hI hR HRp
    have hIs : w.heap.size + 2 ≤ W0.heap.size := by rw [HW0.out]; simp
    obtain ⟨Q, hQe⟩ : ∃ Q : Nat, Q = W1.heap.size := ⟨_, rfl⟩
    obtain ⟨W2, hW2⟩ : ∃ W2 : World, W2 = W1.alloc (.cells Z 48) := ⟨_, rfl⟩
    have hPl : P < W1.heap.size := (Array.getElem?_eq_some_iff.1 hP).1
    have hql : q5 < W1.heap.size := by
      obtain ⟨b5, o5, e5, hc5⟩ := hr1 (by simp [m4])
      have := World.block_lt_of_cell? W1 _ (hc5 0 (by simp [m4]))
      cases e5
      exact this
    go_wp2
    rw [← hQe, ← hW2]
    have hb2 : Below W1.heap.size W1 W2 := by rw [hW2]; exact al (Below.refl _ _) _
    have hQ2 : W2.heap[Q]? = some (.cells Z 48 (0, 0)) := by rw [hW2, hQe]; exact heap_alloc_new _ _
    have HW2 : Hid _ := hW2
    have HQe : Hid (Q = W1.heap.size) := hQe
    have HQl : Hid (Q < W2.heap.size) := (Array.getElem?_eq_some_iff.1 hQ2).1
    have hPQ : ¬ P = Q := by omega
    have hqQ : ¬ q5 = Q := by omega
    have hRQ : ¬ w.heap.size + 1 = Q := by have := hb1.size; omega
    have hRP : ¬ w.heap.size + 1 = P := by omega
    have hwQ : w.heap.size < Q := by have := hb1.size; omega
    clear hW2 hQe
    go_loopw [5] (fun i wr => ∃ (k : Nat) (C : Array Value), k ≤ b.bl.length ∧ i = .int .i64 k ∧ Below w.heap.size w wr ∧ Q < wr.heap.size ∧ wr.cell? ⟨w.heap.size, 10, none⟩ = some (.slice ba b.bl.length bc) ∧ wr.heap[w.heap.size + 1]? = some (.cells #[.int .u64 0, .int .u64 0, .int .u64 0, .int .u64 0, .int .u64 0, .int .u64 0, .int .u64 0, .int .u64 0, .int .u64 0, .int .u64 0, .slice none 0 0, .slice none 0 0] 36 (0, 0)) ∧ wr.heap[P]? = some (.cells #[.int .u64 b.fl, .int .u64 b.e0, .int .u64 b.e1, .int .u64 b.e2, .int .u64 b.e3, .int .u64 b.e4, .int .u64 b.e5, .int .u64 b.tm, .int .u64 b.sq, .int .u64 b.lf, .slice none 0 0, .slice (some ⟨q5, 0, none⟩) b.py.length (b.py.length + 4)] 36 (0, 0)) ∧ Rd wr (some ⟨q5, 0, none⟩) (b.py ++ m4) ∧ wr.heap[Q]? = some (.cells C 48 (0, 0)) ∧ C.size = M * 4 ∧ ∀ j (hj : j < b.bl.length), j < k → BlkG wr Q (j * 4) b.bl[j]) (fun i _ => b.bl.length - (intOf i).toNat)
    case atStart => exact ⟨0, Z, Nat.zero_le _, rfl, below_next hbw hb2, HQl.out, cell_on hb2 hI10, box_on hR1 hb2, box_on hP hb2, hr1.below hb2, hQ2, HZ.out, fun j _ hj => absurd hj (Nat.not_lt_zero j)⟩
    case round =>
      obtain ⟨k, C, hk, rfl, hbel, hQw, hI10, hR1, hP, hr1, hQC, hCs, hG⟩ := hrel
      have HG : Hid (∀ j (hj : j < b.bl.length), j < k → BlkG wr Q (j * 4) b.bl[j]) := hG
      have HCs : Hid (C.size = M * 4) := hCs
      have HQC : Hid (wr.heap[Q]? = some (.cells C 48 (0, 0))) := hQC
      have HR1 : Hid (wr.heap[w.heap.size + 1]? = some (.cells #[.int .u64 0, .int .u64 0, .int .u64 0, .int .u64 0, .int .u64 0, .int .u64 0, .int .u64 0, .int .u64 0, .int .u64 0, .int .u64 0, .slice none 0 0, .slice none 0 0] 36 (0, 0))) := hR1
      have HP : Hid (wr.heap[P]? = some (.cells #[.int .u64 b.fl, .int .u64 b.e0, .int .u64 b.e1, .int .u64 b.e2, .int .u64 b.e3, .int .u64 b.e4, .int .u64 b.e5, .int .u64 b.tm, .int .u64 b.sq, .int .u64 b.lf, .slice none 0 0, .slice (some ⟨q5, 0, none⟩) b.py.length (b.py.length + 4)] 36 (0, 0))) := hP
      clear hG hCs hQC hR1 hP hmk
      by_cases hlt : k < b.bl.length
      · obtain ⟨b1, o1, rfl, hx⟩ := h.rb.at k hlt
        obtain ⟨a, c, c0, c1, c2, c3, hr, -⟩ := hx.below hbel
        have hkM : k < M := by have := HM.out; omega
        obtain ⟨W3, hW3⟩ : ∃ W3 : World, W3 = wr.alloc (.cells #[.int .u64 b.bl[k].t, .int .u64 b.bl[k].n, .int .u64 b.bl[k].f, .slice a b.bl[k].d.length c] 89) := ⟨_, rfl⟩
        have hX3 : W3.heap[wr.heap.size]? = some (.cells #[.int .u64 b.bl[k].t, .int .u64 b.bl[k].n, .int .u64 b.bl[k].f, .slice a b.bl[k].d.length c] 89 (0, 0)) := by rw [hW3]; exact heap_alloc_new _ _
        have hb3 : Below wr.heap.size wr W3 := by rw [hW3]; exact al (Below.refl _ _) _
        obtain ⟨x0, x1, x2, x3⟩ := box4 hX3 (show wr.heap.size ≠ Q by omega)
        have HR3 : Hid (Rd W3 a b.bl[k].d) := hr.below hb3
        have HDl : Hid (b.bl[k].d.length ≤ 140737488351232) := (h.ok.bl _ (List.getElem_mem _)).2.2.2
        have HQ3 : Hid (W3.heap[Q]? = some (.cells C 48 (0, 0))) := box_on HQC.out hb3
        have hself := World.grownBy.refl W3 (some Q)
        go_wp2_with fail
        rw [← hW3]
        clear hW3
        refine wp_region_noPanic ?_
        refine wp_region_held_drew (S := (fun u => W3.grownBy u (some Q))) (by kernel_rfl) (by with_reducible first | assumption | exact gr_drw _ | exact gr_set (gr_set (gr_set (gr_set (by assumption) _ _) _ _) _ _) _ _) (fun hHeld => ?_)
        refine take_at (i := 0) 55 (v := ?_) rfl rfl (by kernel_rfl) (by kernel_rfl) (by kernel_rfl) (fun _ _ _ h => h) (by rfl) ?_ hHeld ?_
        rotate_left
        · (intro w hSw; (try dsimp only at hSw); go_simp; try with_reducible rfl)
        simp only [Act.put, List.setIfInBounds_toArray, List.set_cons_zero, List.set_cons_succ]
        refine take_at (i := 1) 56 (v := ?_) rfl rfl (by kernel_rfl) (by kernel_rfl) (by kernel_rfl) (fun _ _ _ h => h) (by rfl) ?_ hHeld ?_
        rotate_left
        · (intro w hSw; (try dsimp only at hSw); go_simp; try with_reducible rfl)
        simp only [Act.put, List.setIfInBounds_toArray, List.set_cons_zero, List.set_cons_succ]
        refine take_at (i := 2) 57 (v := ?_) rfl rfl (by kernel_rfl) (by kernel_rfl) (by kernel_rfl) (fun _ _ _ h => h) (by rfl) ?_ hHeld ?_
        rotate_left
        · (intro w hSw; (try dsimp only at hSw); go_simp; try with_reducible rfl)
        simp only [Act.put, List.setIfInBounds_toArray, List.set_cons_zero, List.set_cons_succ]
        refine take_at (i := 3) 58 (v := ?_) rfl rfl (by kernel_rfl) (by kernel_rfl) (by kernel_rfl) (fun _ _ _ h => h) (by rfl) ?_ hHeld ?_
        rotate_left
        · (intro w hSw; (try dsimp only at hSw); go_simp; try with_reducible rfl)
        simp only [Act.put, List.setIfInBounds_toArray, List.set_cons_zero, List.set_cons_succ]
        refine take_at (i := 4) 59 (v := ?_) rfl rfl (by kernel_rfl) (by kernel_rfl) (by kernel_rfl) (fun _ _ _ h => h) (by rfl) ?_ hHeld ?_
        rotate_left
        · (intro w hSw; (try dsimp only at hSw); go_simp; try with_reducible rfl)
        simp only [Act.put, List.setIfInBounds_toArray, List.set_cons_zero, List.set_cons_succ]
        refine take_at (i := 5) 60 (v := ?_) rfl rfl (by kernel_rfl) (by kernel_rfl) (by kernel_rfl) (fun _ _ _ h => h) (by rfl) ?_ hHeld ?_
        rotate_left
        · (intro w hSw; (try dsimp only at hSw); go_simp; try with_reducible rfl)
        simp only [Act.put, List.setIfInBounds_toArray, List.set_cons_zero, List.set_cons_succ]
        refine take_at (i := 6) 61 (v := ?_) rfl rfl (by kernel_rfl) (by kernel_rfl) (by kernel_rfl) (fun _ _ _ h => h) (by rfl) ?_ hHeld ?_
        rotate_left
        · (intro w hSw; (try dsimp only at hSw); go_simp; try with_reducible rfl)
        simp only [Act.put, List.setIfInBounds_toArray, List.set_cons_zero, List.set_cons_succ]
        refine take_at (i := 7) 62 (v := ?_) rfl rfl (by kernel_rfl) (by kernel_rfl) (by kernel_rfl) (fun _ _ _ h => h) (by rfl) ?_ hHeld ?_
        rotate_left
        · (intro w hSw; (try dsimp only at hSw); go_simp; try with_reducible rfl)
        simp only [Act.put, List.setIfInBounds_toArray, List.set_cons_zero, List.set_cons_succ]
        refine take_at (i := 8) 63 (v := ?_) rfl rfl (by kernel_rfl) (by kernel_rfl) (by kernel_rfl) (fun _ _ _ h => h) (by rfl) ?_ hHeld ?_
        rotate_left
        · (intro w hSw; (try dsimp only at hSw); go_simp; try with_reducible rfl)
        simp only [Act.put, List.setIfInBounds_toArray, List.set_cons_zero, List.set_cons_succ]
        refine take_at (i := 9) 64 (v := ?_) rfl rfl (by kernel_rfl) (by kernel_rfl) (by kernel_rfl) (fun _ _ _ h => h) (by rfl) ?_ hHeld ?_
        rotate_left
        · (intro w hSw; (try dsimp only at hSw); go_simp; try with_reducible rfl)
        simp only [Act.put, List.setIfInBounds_toArray, List.set_cons_zero, List.set_cons_succ]
        refine run_at (i := 10) rfl (by kernel_rfl) (by rfl) (fun K hK => ?_)
        simp only [List.getElem_toArray, List.getElem_cons_zero, List.getElem_cons_succ]
        go_simp
        first | (go_at_call 8; refine (bytes_any a c b.bl[k].d _ (HR3.out.below (by first | exact (Below.refl _ _).drew | assumption)) HDl.out).mono ?_; rintro e w6 ⟨q6, rfl, hq6, hr6, hb6⟩; have hb36 : Below W3.heap.size W3 w6 := below_next (B := W3) (by first | exact (Below.refl _ _).drew | assumption) hb6; have hS6 : W3.grownBy w6 (some Q) := gr_below (World.grownBy.refl _ _) hb36; obtain ⟨u0, u1, u2, u3, s0, s1, s2, s3, z0, z1, z2, z3⟩ := row4 (box_on HQ3.out hb36) HCs.out hkM)
        go_wp2_with fail
        refine hK.out _ _ (by with_reducible first | assumption | exact gr_drw _ | exact gr_set (gr_set (gr_set (gr_set (by assumption) _ _) _ _) _ _) _ _) ?_
        clear hK K
        intro hHeld2
        clear hHeld
        have hHeld := hHeld2
        clear hHeld2
        try simp only [Act.put, List.setIfInBounds_toArray, List.set_cons_zero, List.set_cons_succ]
        refine take_at (i := 11) 66 (v := ?_) rfl rfl (by kernel_rfl) (by kernel_rfl) (by kernel_rfl) (fun _ _ _ h => h) (by rfl) ?_ hHeld ?_
        rotate_left
        · (intro w hSw; (try dsimp only at hSw); go_simp; try with_reducible rfl)
        simp only [Act.put, List.setIfInBounds_toArray, List.set_cons_zero, List.set_cons_succ]
        refine take_at (i := 12) 67 (v := ?_) rfl rfl (by kernel_rfl) (by kernel_rfl) (by kernel_rfl) (fun _ _ _ h => h) (by rfl) ?_ hHeld ?_
        rotate_left
        · (intro w hSw; (try dsimp only at hSw); go_simp; try with_reducible rfl)
        simp only [Act.put, List.setIfInBounds_toArray, List.set_cons_zero, List.set_cons_succ]
        refine run_at (i := 13) rfl (by kernel_rfl) (by rfl) (fun K hK => ?_)
        simp only [List.getElem_toArray, List.getElem_cons_zero, List.getElem_cons_succ]
        go_simp
        go_wp2_with fail
        refine hK.out _ _ (by with_reducible first | assumption | exact gr_drw _ | exact gr_set (gr_set (gr_set (gr_set (by assumption) _ _) _ _) _ _) _ _) ?_
        clear hK K
        intro hHeld2
        clear hHeld
        have hHeld := hHeld2
        clear hHeld2
        try simp only [Act.put, List.setIfInBounds_toArray, List.set_cons_zero, List.set_cons_succ]
        refine wpAnyH_done (by kernel_rfl) ?_ _
        refine NoPanic.normal ?_
        all_goals
          have hq6' : W3.heap.size ≤ q6 := hq6
          have hQ3l : Q < W3.heap.size := by have := hb3.size; omega
          have HST : Hid _ := blk_set (Q := Q) (k := k) (M := M) b.bl[k] (box_on HQ3.out hb36) HCs.out hkM (show Q < q6 by omega) hr6
          have HB6 : Hid (Below wr.heap.size wr w6) := below_next hb3 hb36
          go_wp2
          go_roundw
          case rel =>
            obtain ⟨⟨C', hC', hCs'⟩, hbk, hoth, hgr⟩ := HST.out
            have hb6' := HB6.out
            have h6l := hb6'.size
            refine ⟨k + 1, C', by omega, by go_num, (below_next hbel hb6').grown hgr (below_next hbel hb6').size (fun j hj => by cases hj; omega), Nat.lt_of_lt_of_le hQw (Nat.le_trans h6l hgr.size), hgr.cell (cell_on hb6' hI10) (by simp; omega), ?_, ?_, (hr1.below hb6').grown hgr (fun a ha => by cases ha; simp; omega), hC', hCs', fun j hj hjk => ?_⟩
            · have h1 := box_on HR1.out hb6'
              exact (hgr.block _ (Array.getElem?_eq_some_iff.1 h1).1 (by simp; omega)).trans h1
            · have h1 := box_on HP.out hb6'
              exact (hgr.block _ (Array.getElem?_eq_some_iff.1 h1).1 (by simp; omega)).trans h1
            · by_cases e : j = k
              · subst e; exact hbk
              · exact hoth j _ e ((HG.out j hj (by omega)).below hb6')
          case measure => simp [intOf]; omega
      · obtain rfl : k = b.bl.length := by omega
        have hMn : b.bl.length < M := by have := HM.out; omega
        have hMn1 : b.bl.length + 1 < M := by have := HM.out; omega
        obtain ⟨K1, hK1⟩ : ∃ K1 : Nat, K1 = b.bl.length + 1 := ⟨_, rfl⟩
        have hK1w : IntKind.i64.wrap ((b.bl.length : Int) + 1) = (K1 : Int) := by rw [IntKind.wrap_i64]; omega
        rw [← hK1] at hMn1
        have hnK : ¬ b.bl.length * 4 + 2 = K1 * 4 + 2 := by omega
        have hnK' : ¬ K1 * 4 + 2 = b.bl.length * 4 + 2 := by omega
        have HK1 : Hid (K1 = b.bl.length + 1) := hK1
        obtain ⟨u0, u1, u2, u3, s0, s1, s2, s3, z0, z1, z2, z3⟩ := row4 HQC.out HCs.out hMn
        obtain ⟨u0', u1', u2', u3', s0', s1', s2', s3', z0', z1', z2', z3'⟩ := row4 HQC.out HCs.out hMn1
        obtain ⟨p0, p1, p2, p3, p4, p5, p6, p7, p8, p9, p10, p11, f0, f1, f2, f3, f4, f5, f6, f7, f8, f9, f10, f11⟩ := cells12 HP.out
        obtain ⟨r0, r1, r2, r3, r4, r5, r6, r7, r8, r9, r10, r11, e0, e1, e2, e3, e4, e5, e6, e7, e8, e9, e10, e11⟩ := cells12 HR1.out
        clear hK1 s0 s1 s3 z0 z1 z3 s0' s1' s3' z0' z1' z3' u0 u1 u3 u0' u1' u3' f0 f1 f2 f3 f4 f5 f6 f7 f8 f9 f11
        have hc1 : (b.bl.length : Int) ≤ (M : Int) := by omega
        have hc1a : ¬ M = b.bl.length := by omega
        have hQP : ¬ Q = P := fun e => hPQ e.symm
        have hQR : ¬ Q = w.heap.size + 1 := fun e => hRQ e.symm
        have hPR : ¬ P = w.heap.size + 1 := fun e => hRP e.symm
        have hwQ' : ¬ w.heap.size = Q := by omega
        have hwP' : ¬ w.heap.size = P := by omega
        go_wp2
        obtain ⟨X1, hX1⟩ : ∃ X1 : World, X1 = ((wr.setCell ⟨Q, b.bl.length * 4 + 2, none⟩ (.int .u64 77)).setCell ⟨Q, K1 * 4 + 2, none⟩ (.int .u64 78)) := ⟨_, rfl⟩
        rw [← hX1]
        obtain ⟨F, hF⟩ : ∃ F : World, F = (((((((((((((X1.setCell ⟨P, 10, none⟩ (.slice (some ⟨Q, 0, none⟩) b.bl.length M)).setCell ⟨w.heap.size + 1, 0, none⟩ (.int .u64 b.fl)).setCell ⟨w.heap.size + 1, 1, none⟩ (.int .u64 b.e0)).setCell ⟨w.heap.size + 1, 2, none⟩ (.int .u64 b.e1)).setCell ⟨w.heap.size + 1, 3, none⟩ (.int .u64 b.e2)).setCell ⟨w.heap.size + 1, 4, none⟩ (.int .u64 b.e3)).setCell ⟨w.heap.size + 1, 5, none⟩ (.int .u64 b.e4)).setCell ⟨w.heap.size + 1, 6, none⟩ (.int .u64 b.e5)).setCell ⟨w.heap.size + 1, 7, none⟩ (.int .u64 b.tm)).setCell ⟨w.heap.size + 1, 8, none⟩ (.int .u64 b.sq)).setCell ⟨w.heap.size + 1, 9, none⟩ (.int .u64 b.lf)).setCell ⟨w.heap.size + 1, 10, none⟩ (.slice (some ⟨Q, 0, none⟩) b.bl.length M)).setCell ⟨w.heap.size + 1, 11, none⟩ (.slice (some ⟨q5, 0, none⟩) b.py.length (b.py.length + 4))) := ⟨_, rfl⟩
        rw [← hF]
        have hfin : F.heap[w.heap.size + 1]? = some (.cells #[.int .u64 b.fl, .int .u64 b.e0, .int .u64 b.e1, .int .u64 b.e2, .int .u64 b.e3, .int .u64 b.e4, .int .u64 b.e5, .int .u64 b.tm, .int .u64 b.sq, .int .u64 b.lf, .slice (some ⟨Q, 0, none⟩) b.bl.length M, .slice (some ⟨q5, 0, none⟩) b.py.length (b.py.length + 4)] 36 (0, 0)) := by
          have hXR : (X1.setCell ⟨P, 10, none⟩ (.slice (some ⟨Q, 0, none⟩) b.bl.length M)).heap[w.heap.size + 1]? = some (.cells #[.int .u64 0, .int .u64 0, .int .u64 0, .int .u64 0, .int .u64 0, .int .u64 0, .int .u64 0, .int .u64 0, .int .u64 0, .int .u64 0, .slice none 0 0, .slice none 0 0] 36 (0, 0)) := by
            rw [hX1, heap_setCell_other _ _ _ _ hRP, heap_setCell_other _ _ _ _ hRQ, heap_setCell_other _ _ _ _ hRQ]
            exact HR1.out
          rw [hF]
          exact heap_set12 hXR
        have hfQ : F.heap[Q]? = X1.heap[Q]? := by
          rw [hF]
          iterate 13 rw [heap_setCell_other _ _ _ _ (by simp; omega)]
        have hfar : ∀ g, g ≠ Q → g ≠ P → g ≠ w.heap.size + 1 → F.heap[g]? = wr.heap[g]? := by
          intro g h1 h2 h3
          rw [hF]
          iterate 13 rw [heap_setCell_other _ _ _ _ (by simp; omega)]
          rw [hX1, heap_setCell_other _ _ _ _ (by simp; omega), heap_setCell_other _ _ _ _ (by simp; omega)]
        have hsz : F.heap.size = wr.heap.size := by rw [hF, hX1]; simp
        have hX77 : X1.cell? ⟨Q, b.bl.length * 4 + 2, none⟩ = some (.int .u64 77) := by
          rw [hX1, World.cell?_setCell_other _ _ _ _ (by simp <;> omega), World.cell?_setCell_same _ _ _ (by rw [s2])]
        have hX78 : X1.cell? ⟨Q, K1 * 4 + 2, none⟩ = some (.int .u64 78) := by
          rw [hX1, World.cell?_setCell_same _ _ _ (by rw [World.cell?_setCell_other _ _ _ _ (by simp <;> omega), s2'])]
        have hXo : ∀ i, i < b.bl.length * 4 → X1.cell? ⟨Q, i, none⟩ = wr.cell? ⟨Q, i, none⟩ := by
          intro i hi
          have := HK1.out
          rw [hX1, World.cell?_setCell_other _ _ _ _ (by simp <;> omega), World.cell?_setCell_other _ _ _ _ (by simp <;> omega)]
        have hFb : Below w.heap.size w F := by rw [hF, hX1]; exact below_set12 (Below.setCell (p := ⟨P, _, none⟩) (Below.setCell (p := ⟨Q, _, none⟩) (Below.setCell (p := ⟨Q, _, none⟩) hbel (Nat.le_of_lt hwQ) _) (Nat.le_of_lt hwQ) _) (show w.heap.size ≤ P by omega) _) (Nat.le_succ _)
        clear hF hX1
        have hPltQ : P < Q := by have := HQe.out; omega
        refine bodyPost_ret (results_cell_row rfl _ _ (w.heap.size + 1) 36 #[.int .u64 b.fl, .int .u64 b.e0, .int .u64 b.e1, .int .u64 b.e2, .int .u64 b.e3, .int .u64 b.e4, .int .u64 b.e5, .int .u64 b.tm, .int .u64 b.sq, .int .u64 b.lf, .slice (some ⟨Q, 0, none⟩) b.bl.length M, .slice (some ⟨q5, 0, none⟩) b.py.length (b.py.length + 4)] (0, 0) _ rfl hfin Try.underlying36 rfl (by kernel_rfl)) rfl ?_
        refine ⟨Q, q5, by rw [HM.out], ⟨hr1.same (hfar q5 (by omega) (by omega) (by omega)), fun j hj => (HG.out j hj hj).move (fun i hi => (cell_same hfQ _).trans (hXo _ (by omega))) (fun g hg => hfar g (by omega) (by omega) (by omega)), (cell_same hfQ _).trans hX77, ?_, h.ok⟩, hFb⟩
        rw [← HK1.out]
        exact (cell_same hfQ _).trans hX78
end Go.Proofs.Ytdpkommmkcmifab
