import Derived.Test.YtdpkommmkcmifaaFind
namespace Go.Proofs.Ytdpkommmkcmifaa
set_option linter.unusedVariables false
set_option linter.unusedSimpArgs false
open Go.RowKit
set_option maxRecDepth 20000 in
set_option maxHeartbeats 1600000 in
theorem kept_t (b : Bun) (ga gp : Nat) (ba : Option Addr) (bc : Nat) (pa : Option Addr) (pc : Nat) (w : World) (h : GivR w b ga gp) (h' : BunR w b ba bc pa pc) :
    Calls Try.prog 13 #[bunV b (some ⟨ga, 0, none⟩) (b.bl.length + 2) (some ⟨gp, 0, none⟩) (b.py.length + 4), bunV b ba bc pa pc] w fun e w' => e = .returned (.bool true) ∧ Below w.heap.size w w' := by
  have hbn := h.ok.bn
  have hlb := h'.lb
  have HT := h.toR
  unfold bunV
  obtain ⟨M, hM⟩ : ∃ M : Nat, M = b.bl.length + 2 := ⟨_, rfl⟩
  rw [← hM] at HT ⊢
  have HM : Hid (M = b.bl.length + 2) := hM
  have hMw : IntKind.i64.wrap ((b.bl.length : Int) + 2) = (M : Int) := by rw [IntKind.wrap_i64]; omega
  have hMn : b.bl.length < M := by omega
  have hMb : M ≤ 2932031007319 := by omega
  obtain ⟨K1, hK1⟩ : ∃ K1 : Nat, K1 = b.bl.length + 1 := ⟨_, rfl⟩
  have hK1w : IntKind.i64.wrap ((b.bl.length : Int) + 1) = (K1 : Int) := by rw [IntKind.wrap_i64]; omega
  have hMn1 : K1 < M := by omega
  have m77 := h.m77
  have m78 := h.m78
  rw [← hK1] at m78
  obtain ⟨W0, hW0⟩ : ∃ W0 : World, W0 = (w.alloc (.cells #[.int .u64 b.fl, .int .u64 b.e0, .int .u64 b.e1, .int .u64 b.e2, .int .u64 b.e3, .int .u64 b.e4, .int .u64 b.e5, .int .u64 b.tm, .int .u64 b.sq, .int .u64 b.lf, .slice (some ⟨ga, 0, none⟩) b.bl.length M, .slice (some ⟨gp, 0, none⟩) b.py.length (b.py.length + 4)] 34)).alloc (.cells #[.int .u64 b.fl, .int .u64 b.e0, .int .u64 b.e1, .int .u64 b.e2, .int .u64 b.e3, .int .u64 b.e4, .int .u64 b.e5, .int .u64 b.tm, .int .u64 b.sq, .int .u64 b.lf, .slice ba b.bl.length bc, .slice pa b.py.length pc] 29) := ⟨_, rfl⟩
  have hI : W0.heap[w.heap.size]? = some (.cells #[.int .u64 b.fl, .int .u64 b.e0, .int .u64 b.e1, .int .u64 b.e2, .int .u64 b.e3, .int .u64 b.e4, .int .u64 b.e5, .int .u64 b.tm, .int .u64 b.sq, .int .u64 b.lf, .slice (some ⟨ga, 0, none⟩) b.bl.length M, .slice (some ⟨gp, 0, none⟩) b.py.length (b.py.length + 4)] 34 (0, 0)) := by rw [hW0]; exact (two_new w _ _).1
  have hR : W0.heap[w.heap.size + 1]? = some (.cells #[.int .u64 b.fl, .int .u64 b.e0, .int .u64 b.e1, .int .u64 b.e2, .int .u64 b.e3, .int .u64 b.e4, .int .u64 b.e5, .int .u64 b.tm, .int .u64 b.sq, .int .u64 b.lf, .slice ba b.bl.length bc, .slice pa b.py.length pc] 29 (0, 0)) := by rw [hW0]; exact (two_new w _ _).2
  have hb0 : Below w.heap.size w W0 := by rw [hW0]; exact al (al (Below.refl _ _) _) _
  obtain ⟨p0, p1, p2, p3, p4, p5, p6, p7, p8, p9, p10, p11, -⟩ := cells12 hI
  obtain ⟨r0, r1, r2, r3, r4, r5, r6, r7, r8, r9, r10, r11, -⟩ := cells12 hR
  have HI : Hid (BunR W0 b (some ⟨ga, 0, none⟩) M (some ⟨gp, 0, none⟩) (b.py.length + 4)) := HT.below hb0
  have HR : Hid (BunR W0 b ba bc pa pc) := h'.below hb0
  have HG : Hid (GivR W0 b ga gp) := h.below hb0
  have HPl : Hid (b.py.length ≤ 140737488351232) := h.ok.py
  have hq1 := cell_on hb0 m77
  have hq2 := cell_on hb0 m78
  have hc1 : (M : Int) ≤ (M : Int) := Int.le_refl _
  clear hM hK1 m77 m78 hI hR HT
  go_enter Try.func13, Try.ntmps13
  go_wp2_with fail
  rw [← hW0]
  clear hW0
  refine (is_t b _ _ _ _ _ _ _ _ W0 HI.out HR.out).mono ?_
  rintro e w1 ⟨rfl, hb1⟩
  have p10' := cell_on hb1 p10
  have p11' := cell_on hb1 p11
  have r10' := cell_on hb1 r10
  have r11' := cell_on hb1 r11
  have hq1' := cell_on hb1 hq1
  have hq2' := cell_on hb1 hq2
  clear p0 p1 p2 p3 p4 p5 p6 p7 p8 p9 r0 r1 r2 r3 r4 r5 r6 r7 r8 r9 p10 p11 r10 r11 hq1 hq2
  go_wp2_with fail
  refine (stays_t gp pa pc b.py w1 (HG.out.rp.below hb1) (HR.out.rp.below hb1) HPl.out).mono ?_
  rintro e w2 ⟨rfl, hb2⟩
  have p10 := cell_on hb2 p10'
  have r10 := cell_on hb2 r10'
  have hq1 := cell_on hb2 hq1'
  have hq2 := cell_on hb2 hq2'
  have HG2 : Hid (GivR w2 b ga gp) := HG.out.below (below_next hb1 hb2)
  have HR2 : Hid (BunR w2 b ba bc pa pc) := HR.out.below (below_next hb1 hb2)
  have hbw2 : Below w.heap.size w w2 := below_next hb0 (below_next hb1 hb2)
  clear p10' p11' r10' r11' hq1' hq2' hb1 hb2 hb0 HI HR HG
  go_wp2
  go_loopw [6] (fun i wr => ∃ k : Nat, k ≤ b.bl.length ∧ i = .int .i64 k ∧ Below w2.heap.size w2 wr) (fun i _ => b.bl.length - (intOf i).toNat)
  case atStart => exact ⟨0, Nat.zero_le _, rfl, Below.refl _ _⟩
  case round =>
    obtain ⟨k, hk, rfl, hbel⟩ := hrel
    have p10r := cell_on hbel p10
    have r10r := cell_on hbel r10
    clear p10 r10 hq1 hq2
    by_cases hlt : k < b.bl.length
    · obtain ⟨g, hg, -, -, -, x3, hr⟩ := (HG2.out.below hbel).bl k hlt
      obtain ⟨b1, o1, rfl, hy⟩ := (HR2.out.below hbel).rb.at k hlt
      obtain ⟨a, c, -, -, -, y3, hr', -⟩ := hy
      have hkM : k < M := by omega
      have HDl : Hid (b.bl[k].d.length ≤ 140737488351232) := (h.ok.bl _ (List.getElem_mem hlt)).2.2.2
      have p10u := fun (u : World) (hu : Below wr.heap.size wr u) => cell_on hu p10r
      have r10u := fun (u : World) (hu : Below wr.heap.size wr u) => cell_on hu r10r
      have x3u := fun (u : World) (hu : Below wr.heap.size wr u) => cell_on hu x3
      have y3u := fun (u : World) (hu : Below wr.heap.size wr u) => cell_on hu y3
      have hself := Below.refl wr.heap.size wr
      go_wp2_with fail
      refine wp_region_noPanic ?_
      refine wp_region_held_drew (S := (fun u => Below wr.heap.size wr u)) (by kernel_rfl) (by first | exact (Below.refl _ _).drew | assumption) (fun hHeld => ?_)
      refine take_at (i := 0) 54 (v := ?_) rfl rfl (by kernel_rfl) (by kernel_rfl) (by kernel_rfl) (fun _ _ _ h => h) (by rfl) ?_ hHeld ?_
      rotate_left
      · (intro w hSw; (try dsimp only at hSw); go_simp; try with_reducible rfl)
      simp only [Act.put, List.setIfInBounds_toArray, List.set_cons_zero, List.set_cons_succ]
      refine take_at (i := 1) 55 (v := ?_) rfl rfl (by kernel_rfl) (by kernel_rfl) (by kernel_rfl) (fun _ _ _ h => h) (by rfl) ?_ hHeld ?_
      rotate_left
      · (intro w hSw; (try dsimp only at hSw); go_simp; try with_reducible rfl)
      simp only [Act.put, List.setIfInBounds_toArray, List.set_cons_zero, List.set_cons_succ]
      refine take_at (i := 2) 56 (v := ?_) rfl rfl (by kernel_rfl) (by kernel_rfl) (by kernel_rfl) (fun _ _ _ h => h) (by rfl) ?_ hHeld ?_
      rotate_left
      · (intro w hSw; (try dsimp only at hSw); go_simp; try with_reducible rfl)
      simp only [Act.put, List.setIfInBounds_toArray, List.set_cons_zero, List.set_cons_succ]
      refine take_at (i := 3) 57 (v := ?_) rfl rfl (by kernel_rfl) (by kernel_rfl) (by kernel_rfl) (fun _ _ _ h => h) (by rfl) ?_ hHeld ?_
      rotate_left
      · (intro w hSw; (try dsimp only at hSw); go_simp; try with_reducible rfl)
      simp only [Act.put, List.setIfInBounds_toArray, List.set_cons_zero, List.set_cons_succ]
      refine take_at (i := 4) 58 (v := ?_) rfl rfl (by kernel_rfl) (by kernel_rfl) (by kernel_rfl) (fun _ _ _ h => h) (by rfl) ?_ hHeld ?_
      rotate_left
      · (intro w hSw; (try dsimp only at hSw); go_simp; try with_reducible rfl)
      simp only [Act.put, List.setIfInBounds_toArray, List.set_cons_zero, List.set_cons_succ]
      refine take_at (i := 5) 59 (v := ?_) rfl rfl (by kernel_rfl) (by kernel_rfl) (by kernel_rfl) (fun _ _ _ h => h) (by rfl) ?_ hHeld ?_
      rotate_left
      · (intro w hSw; (try dsimp only at hSw); go_simp; try with_reducible rfl)
      simp only [Act.put, List.setIfInBounds_toArray, List.set_cons_zero, List.set_cons_succ]
      refine take_at (i := 6) 60 (v := ?_) rfl rfl (by kernel_rfl) (by kernel_rfl) (by kernel_rfl) (fun _ _ _ h => h) (by rfl) ?_ hHeld ?_
      rotate_left
      · (intro w hSw; (try dsimp only at hSw); go_simp; try with_reducible rfl)
      simp only [Act.put, List.setIfInBounds_toArray, List.set_cons_zero, List.set_cons_succ]
      refine take_at (i := 7) 61 (v := ?_) rfl rfl (by kernel_rfl) (by kernel_rfl) (by kernel_rfl) (fun _ _ _ h => h) (by rfl) ?_ hHeld ?_
      rotate_left
      · (intro w hSw; (try dsimp only at hSw); go_simp; try with_reducible rfl)
      simp only [Act.put, List.setIfInBounds_toArray, List.set_cons_zero, List.set_cons_succ]
      refine take_at (i := 8) 62 (v := ?_) rfl rfl (by kernel_rfl) (by kernel_rfl) (by kernel_rfl) (fun _ _ _ h => h) (by rfl) ?_ hHeld ?_
      rotate_left
      · (intro w hSw; (try dsimp only at hSw); go_simp; try with_reducible rfl)
      simp only [Act.put, List.setIfInBounds_toArray, List.set_cons_zero, List.set_cons_succ]
      refine take_at (i := 9) 63 (v := ?_) rfl rfl (by kernel_rfl) (by kernel_rfl) (by kernel_rfl) (fun _ _ _ h => h) (by rfl) ?_ hHeld ?_
      rotate_left
      · (intro w hSw; (try dsimp only at hSw); go_simp; try with_reducible rfl)
      simp only [Act.put, List.setIfInBounds_toArray, List.set_cons_zero, List.set_cons_succ]
      refine take_at (i := 10) 64 (v := ?_) rfl rfl (by kernel_rfl) (by kernel_rfl) (by kernel_rfl) (fun _ _ _ h => h) (by rfl) ?_ hHeld ?_
      rotate_left
      · (intro w hSw; (try dsimp only at hSw); go_simp; try with_reducible rfl)
      simp only [Act.put, List.setIfInBounds_toArray, List.set_cons_zero, List.set_cons_succ]
      refine take_at (i := 11) 65 (v := ?_) rfl rfl (by kernel_rfl) (by kernel_rfl) (by kernel_rfl) (fun _ _ _ h => h) (by rfl) ?_ hHeld ?_
      rotate_left
      · (intro w hSw; (try dsimp only at hSw); go_simp; try with_reducible rfl)
      simp only [Act.put, List.setIfInBounds_toArray, List.set_cons_zero, List.set_cons_succ]
      refine run_at (i := 12) rfl (by kernel_rfl) (by rfl) (fun K hK => ?_)
      simp only [List.getElem_toArray, List.getElem_cons_zero, List.getElem_cons_succ]
      go_simp
      first | (go_at_call 18; refine (stays_t g a c b.bl[k].d _ (hr.below (by first | exact (Below.refl _ _).drew | assumption)) (hr'.below (by first | exact (Below.refl _ _).drew | assumption)) HDl.out).mono ?_; rintro e w5 ⟨rfl, hb5⟩; have hS5 := below_next (B := wr) (by first | exact (Below.refl _ _).drew | assumption) hb5)
      go_wp2_with fail
      refine hK.out _ _ (by first | exact (Below.refl _ _).drew | assumption) ?_
      clear hK K
      intro hHeld2
      clear hHeld
      have hHeld := hHeld2
      clear hHeld2
      try simp only [Act.put, List.setIfInBounds_toArray, List.set_cons_zero, List.set_cons_succ]
      refine take_at (i := 13) 67 (v := ?_) rfl rfl (by kernel_rfl) (by kernel_rfl) (by kernel_rfl) (fun _ _ _ h => h) (by rfl) ?_ hHeld ?_
      rotate_left
      · (intro w hSw; (try dsimp only at hSw); go_simp; try with_reducible rfl)
      simp only [Act.put, List.setIfInBounds_toArray, List.set_cons_zero, List.set_cons_succ]
      refine wpAnyH_done (by kernel_rfl) ?_ _
      refine NoPanic.normal ?_
      all_goals go_wp2
      all_goals go_roundw
      all_goals first | (case rel => exact ⟨k + 1, by omega, by go_num, below_next hbel (by first | assumption | exact hS5)⟩) | (case measure => simp [intOf]; omega)
    · obtain rfl : k = b.bl.length := by omega
      go_wp2
      go_ret
      exact ⟨rfl, below_next hbw2 hbel⟩
end Go.Proofs.Ytdpkommmkcmifaa
