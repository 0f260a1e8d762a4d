import Derived.Test.YtdpkommmkcmifabHopR
namespace Go.Proofs.Ytdpkommmkcmifab
set_option linter.unusedVariables false
set_option linter.unusedSimpArgs false
open Go.RowKit
set_option maxRecDepth 20000 in
set_option maxHeartbeats 1600000 in
theorem agedRef_any (b : Bun) (ba : Option Addr) (bc : Nat) (pa : Option Addr) (pc : Nat) (t : Nat) (w : World) (h : BunR w b ba bc pa pc) (ht : t < 18446744073709551616) :
    Calls Try.prog 27 #[bunV b ba bc pa pc, .int .u64 t] w fun e w' => TurnOut w w' b 7 (ageTurn t) e ∧ Below w.heap.size w w' := by
  unfold bunV
  obtain ⟨W0, hW0⟩ : ∃ W0 : World, W0 = (w.alloc (.cells #[.int .u64 b.fl, .int .u64 b.e0, .int .u64 b.e1, .int .u64 b.e2, .int .u64 b.e3, .int .u64 b.e4, .int .u64 b.e5, .int .u64 b.tm, .int .u64 b.sq, .int .u64 b.lf, .slice ba b.bl.length bc, .slice pa b.py.length pc] 57)).alloc (.cells #[.int .u64 0, .int .u64 0, .int .u64 0, .int .u64 0, .int .u64 0, .int .u64 0, .int .u64 0, .int .u64 0, .int .u64 0, .int .u64 0, .slice none 0 0, .slice none 0 0] 57) := ⟨_, rfl⟩
  have hI : W0.heap[w.heap.size]? = some (.cells #[.int .u64 b.fl, .int .u64 b.e0, .int .u64 b.e1, .int .u64 b.e2, .int .u64 b.e3, .int .u64 b.e4, .int .u64 b.e5, .int .u64 b.tm, .int .u64 b.sq, .int .u64 b.lf, .slice ba b.bl.length bc, .slice pa b.py.length pc] 57 (0, 0)) := by rw [hW0]; exact (two_new w _ _).1
  have hR : W0.heap[w.heap.size + 1]? = some (.cells #[.int .u64 0, .int .u64 0, .int .u64 0, .int .u64 0, .int .u64 0, .int .u64 0, .int .u64 0, .int .u64 0, .int .u64 0, .int .u64 0, .slice none 0 0, .slice none 0 0] 57 (0, 0)) := by rw [hW0]; exact (two_new w _ _).2
  have hb0 : Below w.heap.size w W0 := by rw [hW0]; exact al (al (Below.refl _ _) _) _
  have hIs : w.heap.size + 2 ≤ W0.heap.size := by rw [hW0]; simp
  go_enter Try.func27, Try.ntmps27
  go_wp2_with fail
  rw [← hW0]
  clear hW0
  refine (validRef_any b ba bc pa pc W0 (h.below hb0)).mono ?_
  rintro e w1 ⟨⟨n, rfl, hv⟩, hb1⟩
  have HV : Hid (ValidIs b n) := hv
  clear hv
  have hI1 := box_on hI hb1
  have hR1 := box_on hR hb1
  have hbw := below_next hb0 hb1
  clear hI hR
  obtain ⟨r0, r1, r2, r3, r4, r5, r6, r7, r8, r9, r10, r11, g0, g1, g2, g3, g4, g5, g6, g7, g8, g9, g10, g11⟩ := cells12 hR1
  by_cases h0 : n = 0
  rotate_left
  · go_wp2
    have hfin := heap_set12 (v0 := .int .u64 0) (v1 := .int .u64 0) (v2 := .int .u64 0) (v3 := .int .u64 0) (v4 := .int .u64 0) (v5 := .int .u64 0) (v6 := .int .u64 0) (v7 := .int .u64 0) (v8 := .int .u64 0) (v9 := .int .u64 0) (v10 := .slice none 0 0) (v11 := .slice none 0 0) hR1
    refine bodyPost_ret (results_ct rfl _ _ (w.heap.size + 1) 57 _ (0, 0) _ rfl hfin Try.underlying57 rfl (by kernel_rfl)) rfl ?_
    exact ⟨⟨zeroB, none, 0, none, 0, n, rfl, .inl ⟨HV.out, h0, rfl⟩, zeroB_R _, fun q hq => by cases hq⟩, below_set12 hbw (by simp)⟩

  subst h0
  clear r0 r1 r2 r3 r4 r5 r6 r7 r8 r9 r10 r11 g0 g1 g2 g3 g4 g5 g6 g7 g8 g9 g10 g11
  have HG : Hid (GoodB b) := by
    rcases HV.out with ⟨_, h⟩ | ⟨h, _⟩
    · cases h
    · exact h
  obtain ⟨i0, i1, i2, i3, i4, i5, i6, i7, i8, i9, i10, i11, -⟩ := cells12 hI1
  go_wp2_with fail
  refine (refPlace_any b ba bc pa pc 7 w1 (h.below hbw)).mono ?_
  rintro e w2 ⟨rfl, hb2⟩
  have hbw := below_next hbw hb2
  have hI2 := box_on hI1 hb2
  have hR2 := box_on hR1 hb2
  clear i0 i1 i2 i3 i4 i5 i6 i7 i8 i9 i10 i11 hI1 hR1
  obtain ⟨r0, r1, r2, r3, r4, r5, r6, r7, r8, r9, r10, r11, g0, g1, g2, g3, g4, g5, g6, g7, g8, g9, g10, g11⟩ := cells12 hR2
  rcases placeS_cases b.bl 7 with ⟨hp, -⟩ | ⟨k, hk, hp, htk, -⟩
  · rw [hp]
    go_wp2
    have hfin := heap_set12 (v0 := .int .u64 0) (v1 := .int .u64 0) (v2 := .int .u64 0) (v3 := .int .u64 0) (v4 := .int .u64 0) (v5 := .int .u64 0) (v6 := .int .u64 0) (v7 := .int .u64 0) (v8 := .int .u64 0) (v9 := .int .u64 0) (v10 := .slice none 0 0) (v11 := .slice none 0 0) hR2
    refine bodyPost_ret (results_ct rfl _ _ (w.heap.size + 1) 57 _ (0, 0) _ rfl hfin Try.underlying57 rfl (by kernel_rfl)) rfl ?_
    exact ⟨⟨zeroB, none, 0, none, 0, 4, rfl, .inr (.inl ⟨HV.out, hp, rfl, rfl⟩), zeroB_R _, fun q hq => by cases hq⟩, below_set12 hbw (by simp)⟩

  rw [hp]
  clear r0 r1 r2 r3 r4 r5 r6 r7 r8 r9 r10 r11 g0 g1 g2 g3 g4 g5 g6 g7 g8 g9 g10 g11
  obtain ⟨i0, i1, i2, i3, i4, i5, i6, i7, i8, i9, i10, i11, -⟩ := cells12 hI2
  have HRB : Hid (BunR w2 b ba bc pa pc) := h.below hbw
  have hlb := h.lb
  have hbn := h.ok.bn
  obtain ⟨b1, o1, rfl, hx⟩ := h.rb.at k hk
  obtain ⟨a, c, c0, c1, c2, c3, hr, hlc, hn⟩ := hx.below hbw
  have hd64 : b.bl[k].d.length ≤ 64 := HG.out.bl.data (List.getElem_mem hk)
  have HDS : Hid (dataS b.bl[k].t b.bl[k].d = true) := by
    have := HG.out.bl.2 k hk
    unfold blkS at this
    simp only [Bool.and_eq_true] at this
    exact this.2.2.2
  go_wp2_with fail
  refine (one_d a c b.bl[k].d w2 hr hn (by omega)).mono ?_
  rintro e w3 ⟨rfl, hb3⟩
  obtain ⟨C, hC⟩ : ∃ C, C = (oneS b.bl[k].d).1 := ⟨_, rfl⟩
  have hCa : (ageS b.bl[k].d).1 = C := by rw [hC]; rfl
  have hCl : C ≤ 281474976710655 := by rw [← hCa]; exact rNum_le_m _ _ _
  obtain ⟨M, hM⟩ : ∃ M, M = C + t := ⟨_, rfl⟩
  obtain ⟨r, hr0⟩ : ∃ r, r = 281474976710655 - C := ⟨_, rfl⟩
  have HT : Hid (ageTurn t b.bl[k].d = if r < t then none else some (dgs [M])) := by unfold Hid ageTurn; rw [hM, hr0, hCa]
  have hw1 : IntKind.u64.wrap ((281474976710655 : Int) - (C : Int)) = (r : Int) := by rw [IntKind.wrap_u64]; omega
  rw [← hC]
  clear hC hCa
  obtain ⟨tb, htb⟩ : ∃ tb, tb = (oneS b.bl[k].d).2 := ⟨_, rfl⟩
  rw [← htb]
  clear htb
  have hbw := below_next hbw hb3
  have hI3 := box_on hI2 hb3
  have hR3 := box_on hR2 hb3
  clear i0 i1 i2 i3 i4 i5 i6 i7 i8 i9 i10 i11 hI2 hR2 c0 c1 c2 c3
  by_cases he : r < t
  · have HT2 : Hid (ageTurn t b.bl[k].d = none) := by unfold Hid; rw [HT.out, if_pos he]
    obtain ⟨r0, r1, r2, r3, r4, r5, r6, r7, r8, r9, r10, r11, g0, g1, g2, g3, g4, g5, g6, g7, g8, g9, g10, g11⟩ := cells12 hR3
    clear hM hr0 hCl HT
    go_wp2
    have hfin := heap_set12 (v0 := .int .u64 0) (v1 := .int .u64 0) (v2 := .int .u64 0) (v3 := .int .u64 0) (v4 := .int .u64 0) (v5 := .int .u64 0) (v6 := .int .u64 0) (v7 := .int .u64 0) (v8 := .int .u64 0) (v9 := .int .u64 0) (v10 := .slice none 0 0) (v11 := .slice none 0 0) hR3
    refine bodyPost_ret (results_ct rfl _ _ (w.heap.size + 1) 57 _ (0, 0) _ rfl hfin Try.underlying57 rfl (by kernel_rfl)) rfl ?_
    exact ⟨⟨zeroB, none, 0, none, 0, 6, rfl, .inr (.inr (.inl ⟨HV.out, k, hk, hp, HT2.out, rfl, rfl⟩)), zeroB_R _, fun q hq => by cases hq⟩, below_set12 hbw (by simp)⟩

  have hMl : M ≤ 281474976710655 := by omega
  have hMlt : M < 18446744073709551616 := by omega
  have hw : IntKind.u64.wrap ((C : Int) + (t : Int)) = (M : Int) := by rw [IntKind.wrap_u64]; omega
  have hdg : dgs [M] = dg M := by simp [dgs]
  have HT2 : Hid (ageTurn t b.bl[k].d = some (dg M)) := by unfold Hid; rw [HT.out, if_neg he, hdg]
  have HOK : Hid (dataS b.bl[k].t (dg M) = true) := by
    unfold Hid
    rw [htk]
    exact ageTurn_ok HT2.out
  have HGD : Hid (GoodB (setD b k (dg M))) := HG.out.setD hk HOK.out
  have HML : Hid ((dg M).length ≤ 10 ∧ 1 ≤ (dg M).length) := ⟨(dg_len M (by omega)).2, (dg_len M (by omega)).1⟩
  have hall := box12h hI3 (show w.heap.size ≠ w.heap.size + 1 by omega)
  have u0 := hall 0 _ rfl
  have u1 := hall 1 _ rfl
  have u2 := hall 2 _ rfl
  have u3 := hall 3 _ rfl
  have u4 := hall 4 _ rfl
  have u5 := hall 5 _ rfl
  have u6 := hall 6 _ rfl
  have u7 := hall 7 _ rfl
  have u8 := hall 8 _ rfl
  have u9 := hall 9 _ rfl
  have u10 := hall 10 _ rfl
  have u11 := hall 11 _ rfl
  clear hall hdg HT hM hr0
  have hR3l : w.heap.size + 1 < w3.heap.size := (Array.getElem?_eq_some_iff.1 hR3).1
  have hself := World.grownBy.refl w3 (some (w.heap.size + 1))
  go_wp2_with fail
  refine wp_region_noPanic ?_
  refine wp_region_held_drew (S := (fun u => w3.grownBy u (some (w.heap.size + 1)))) (by kernel_rfl) (by with_reducible first | assumption | exact gr_below (by assumption) (Below.refl _ _).drew) (fun hHeld => ?_)
  refine take_at (i := 0) 36 (v := ?_) rfl rfl (by kernel_rfl) (by kernel_rfl) (by kernel_rfl) (fun _ _ _ h => h) (by rfl) ?_ hHeld ?_
  rotate_left
  · (intro w hSw; (try dsimp only at hSw); go_simp; try with_reducible rfl)
  simp only [Act.put, List.setIfInBounds_toArray, List.set_cons_zero, List.set_cons_succ]
  refine take_at (i := 1) 37 (v := ?_) rfl rfl (by kernel_rfl) (by kernel_rfl) (by kernel_rfl) (fun _ _ _ h => h) (by rfl) ?_ hHeld ?_
  rotate_left
  · (intro w hSw; (try dsimp only at hSw); go_simp; try with_reducible rfl)
  simp only [Act.put, List.setIfInBounds_toArray, List.set_cons_zero, List.set_cons_succ]
  refine take_at (i := 2) 38 (v := ?_) rfl rfl (by kernel_rfl) (by kernel_rfl) (by kernel_rfl) (fun _ _ _ h => h) (by rfl) ?_ hHeld ?_
  rotate_left
  · (intro w hSw; (try dsimp only at hSw); go_simp; try with_reducible rfl)
  simp only [Act.put, List.setIfInBounds_toArray, List.set_cons_zero, List.set_cons_succ]
  refine take_at (i := 3) 39 (v := ?_) rfl rfl (by kernel_rfl) (by kernel_rfl) (by kernel_rfl) (fun _ _ _ h => h) (by rfl) ?_ hHeld ?_
  rotate_left
  · (intro w hSw; (try dsimp only at hSw); go_simp; try with_reducible rfl)
  simp only [Act.put, List.setIfInBounds_toArray, List.set_cons_zero, List.set_cons_succ]
  refine take_at (i := 4) 40 (v := ?_) rfl rfl (by kernel_rfl) (by kernel_rfl) (by kernel_rfl) (fun _ _ _ h => h) (by rfl) ?_ hHeld ?_
  rotate_left
  · (intro w hSw; (try dsimp only at hSw); go_simp; try with_reducible rfl)
  simp only [Act.put, List.setIfInBounds_toArray, List.set_cons_zero, List.set_cons_succ]
  refine run_at (i := 5) rfl (by kernel_rfl) (by rfl) (fun K hK => ?_)
  simp only [List.getElem_toArray, List.getElem_cons_zero, List.getElem_cons_succ]
  go_simp
  first | (go_at_call 49; refine (refDigits_any M _ hMlt).mono ?_; rintro e w5 ⟨v5, rfl, hown5, hb5⟩; obtain ⟨a6, c6, hv6, hc6, -, hn6, hr6, -⟩ := hown5.val; obtain ⟨m6, hm6⟩ : ∃ m6, m6 = (dg M).length := ⟨_, rfl⟩; rw [← hm6] at hv6; subst hv6; have HM6 : Hid (m6 = (dg M).length) := hm6; have HB6 : Hid (Below w3.heap.size w3 w5) := below_next (B := w3) (by first | exact (Below.refl _ _).drew | exact Below.refl _ _) hb5; have hS5 : w3.grownBy w5 (some (w.heap.size + 1)) := gr_below (World.grownBy.refl _ _) HB6.out; have HR6 : Hid _ := hr6; have HC6 : Hid _ := hc6; have HN6 : Hid _ := hn6; have HL6 : Hid ((dg M).length ≤ 64) := (by have h2 := HML.out; unfold Hid; omega); clear hm6 hn6 hr6 hc6 hown5) | (go_at_call 50; refine (with_any b _ bc pa pc k a6 c6 (dg M) _ _ (HRB.out.below (below_next hb3 HB6.out)) hk HR6.out HC6.out HN6.out HL6.out HM6.out).mono ?_; rintro e w7 ⟨⟨o, a, c, p, d, n, rfl, hwo, hO, hfr⟩, hb7⟩; have hb37 : Below w3.heap.size w3 w7 := below_next HB6.out hb7; have hS7 : w3.grownBy w7 (some (w.heap.size + 1)) := gr_below (World.grownBy.refl _ _) hb37; have hR7 := box_on hR3 hb37; obtain ⟨r0, r1, r2, r3, r4, r5, r6, r7, r8, r9, r10, r11, g0, g1, g2, g3, g4, g5, g6, g7, g8, g9, g10, g11⟩ := cells12 hR7; have HWO : Hid _ := hwo; have HO : Hid _ := hO; have HF : Hid _ := hfr; unfold bunV; have hS8 : w3.grownBy ((((((((((((w7.setCell ⟨w.heap.size + 1, 0, none⟩ (.int .u64 o.fl)).setCell ⟨w.heap.size + 1, 1, none⟩ (.int .u64 o.e0)).setCell ⟨w.heap.size + 1, 2, none⟩ (.int .u64 o.e1)).setCell ⟨w.heap.size + 1, 3, none⟩ (.int .u64 o.e2)).setCell ⟨w.heap.size + 1, 4, none⟩ (.int .u64 o.e3)).setCell ⟨w.heap.size + 1, 5, none⟩ (.int .u64 o.e4)).setCell ⟨w.heap.size + 1, 6, none⟩ (.int .u64 o.e5)).setCell ⟨w.heap.size + 1, 7, none⟩ (.int .u64 o.tm)).setCell ⟨w.heap.size + 1, 8, none⟩ (.int .u64 o.sq)).setCell ⟨w.heap.size + 1, 9, none⟩ (.int .u64 o.lf)).setCell ⟨w.heap.size + 1, 10, none⟩ (.slice a o.bl.length c)).setCell ⟨w.heap.size + 1, 11, none⟩ (.slice p o.py.length d)) (some (w.heap.size + 1)) := World.grownBy.trans' hS7 gr_set12; have hR8 := heap_set12 (v0 := .int .u64 o.fl) (v1 := .int .u64 o.e0) (v2 := .int .u64 o.e1) (v3 := .int .u64 o.e2) (v4 := .int .u64 o.e3) (v5 := .int .u64 o.e4) (v6 := .int .u64 o.e5) (v7 := .int .u64 o.tm) (v8 := .int .u64 o.sq) (v9 := .int .u64 o.lf) (v10 := .slice a o.bl.length c) (v11 := .slice p o.py.length d) hR7; have HR7 : Hid _ := hR7; have HR8 : Hid _ := hR8; clear hR7 hR8; clear hwo hO hfr)
  go_wp2_with fail
  refine hK.out _ _ (by with_reducible first | assumption | exact gr_below (by assumption) (Below.refl _ _).drew) ?_
  clear hK K
  intro hHeld2
  clear hHeld
  have hHeld := hHeld2
  clear hHeld2
  try simp only [Act.put, List.setIfInBounds_toArray, List.set_cons_zero, List.set_cons_succ]
  refine run_at (i := 6) rfl (by kernel_rfl) (by rfl) (fun K hK => ?_)
  simp only [List.getElem_toArray, List.getElem_cons_zero, List.getElem_cons_succ]
  go_simp
  first | (go_at_call 49; refine (refDigits_any M _ hMlt).mono ?_; rintro e w5 ⟨v5, rfl, hown5, hb5⟩; obtain ⟨a6, c6, hv6, hc6, -, hn6, hr6, -⟩ := hown5.val; obtain ⟨m6, hm6⟩ : ∃ m6, m6 = (dg M).length := ⟨_, rfl⟩; rw [← hm6] at hv6; subst hv6; have HM6 : Hid (m6 = (dg M).length) := hm6; have HB6 : Hid (Below w3.heap.size w3 w5) := below_next (B := w3) (by first | exact (Below.refl _ _).drew | exact Below.refl _ _) hb5; have hS5 : w3.grownBy w5 (some (w.heap.size + 1)) := gr_below (World.grownBy.refl _ _) HB6.out; have HR6 : Hid _ := hr6; have HC6 : Hid _ := hc6; have HN6 : Hid _ := hn6; have HL6 : Hid ((dg M).length ≤ 64) := (by have h2 := HML.out; unfold Hid; omega); clear hm6 hn6 hr6 hc6 hown5) | (go_at_call 50; refine (with_any b _ bc pa pc k a6 c6 (dg M) _ _ (HRB.out.below (below_next hb3 HB6.out)) hk HR6.out HC6.out HN6.out HL6.out HM6.out).mono ?_; rintro e w7 ⟨⟨o, a, c, p, d, n, rfl, hwo, hO, hfr⟩, hb7⟩; have hb37 : Below w3.heap.size w3 w7 := below_next HB6.out hb7; have hS7 : w3.grownBy w7 (some (w.heap.size + 1)) := gr_below (World.grownBy.refl _ _) hb37; have hR7 := box_on hR3 hb37; obtain ⟨r0, r1, r2, r3, r4, r5, r6, r7, r8, r9, r10, r11, g0, g1, g2, g3, g4, g5, g6, g7, g8, g9, g10, g11⟩ := cells12 hR7; have HWO : Hid _ := hwo; have HO : Hid _ := hO; have HF : Hid _ := hfr; unfold bunV; have hS8 : w3.grownBy ((((((((((((w7.setCell ⟨w.heap.size + 1, 0, none⟩ (.int .u64 o.fl)).setCell ⟨w.heap.size + 1, 1, none⟩ (.int .u64 o.e0)).setCell ⟨w.heap.size + 1, 2, none⟩ (.int .u64 o.e1)).setCell ⟨w.heap.size + 1, 3, none⟩ (.int .u64 o.e2)).setCell ⟨w.heap.size + 1, 4, none⟩ (.int .u64 o.e3)).setCell ⟨w.heap.size + 1, 5, none⟩ (.int .u64 o.e4)).setCell ⟨w.heap.size + 1, 6, none⟩ (.int .u64 o.e5)).setCell ⟨w.heap.size + 1, 7, none⟩ (.int .u64 o.tm)).setCell ⟨w.heap.size + 1, 8, none⟩ (.int .u64 o.sq)).setCell ⟨w.heap.size + 1, 9, none⟩ (.int .u64 o.lf)).setCell ⟨w.heap.size + 1, 10, none⟩ (.slice a o.bl.length c)).setCell ⟨w.heap.size + 1, 11, none⟩ (.slice p o.py.length d)) (some (w.heap.size + 1)) := World.grownBy.trans' hS7 gr_set12; have hR8 := heap_set12 (v0 := .int .u64 o.fl) (v1 := .int .u64 o.e0) (v2 := .int .u64 o.e1) (v3 := .int .u64 o.e2) (v4 := .int .u64 o.e3) (v5 := .int .u64 o.e4) (v6 := .int .u64 o.e5) (v7 := .int .u64 o.tm) (v8 := .int .u64 o.sq) (v9 := .int .u64 o.lf) (v10 := .slice a o.bl.length c) (v11 := .slice p o.py.length d) hR7; have HR7 : Hid _ := hR7; have HR8 : Hid _ := hR8; clear hR7 hR8; clear hwo hO hfr)
  go_wp2_with fail
  refine hK.out _ _ (by with_reducible first | assumption | exact gr_below (by assumption) (Below.refl _ _).drew) ?_
  clear hK K
  intro hHeld2
  clear hHeld
  have hHeld := hHeld2
  clear hHeld2
  try simp only [Act.put, List.setIfInBounds_toArray, List.set_cons_zero, List.set_cons_succ]
  refine take_at (i := 7) 43 (v := ?_) rfl rfl (by kernel_rfl) (by kernel_rfl) (by kernel_rfl) (fun _ _ _ h => h) (by rfl) ?_ hHeld ?_
  rotate_left
  · (intro w hSw; (try dsimp only at hSw); go_simp; try with_reducible rfl)
  simp only [Act.put, List.setIfInBounds_toArray, List.set_cons_zero, List.set_cons_succ]
  refine take_at (i := 8) 44 (v := ?_) rfl rfl (by kernel_rfl) (by kernel_rfl) (by kernel_rfl) (fun _ _ _ h => h) (by rfl) ?_ hHeld ?_
  rotate_left
  · (intro w hSw; (try dsimp only at hSw); go_simp; try with_reducible rfl)
  simp only [Act.put, List.setIfInBounds_toArray, List.set_cons_zero, List.set_cons_succ]
  refine run_at (i := 9) rfl (by kernel_rfl) (by rfl) (fun K hK => ?_)
  simp only [List.getElem_toArray, List.getElem_cons_zero, List.getElem_cons_succ]
  go_simp
  go_wp2_with fail
  refine hK.out _ _ (by with_reducible first | assumption | exact gr_below (by assumption) (Below.refl _ _).drew) ?_
  clear hK K
  intro hHeld2
  clear hHeld
  have hHeld := hHeld2
  clear hHeld2
  try simp only [Act.put, List.setIfInBounds_toArray, List.set_cons_zero, List.set_cons_succ]
  refine take_at (i := 10) 5 (v := ?_) rfl rfl (by kernel_rfl) (by kernel_rfl) (by kernel_rfl) (fun _ _ _ h => h) (by rfl) ?_ hHeld ?_
  rotate_left
  · (intro w hSw; (try dsimp only at hSw); go_simp; try with_reducible rfl)
  simp only [Act.put, List.setIfInBounds_toArray, List.set_cons_zero, List.set_cons_succ]
  refine wpAnyH_done (by kernel_rfl) ?_ _
  refine NoPanic.normal ?_
  clear u0 u1 u2 u3 u4 u5 u6 u7 u8 u9 u10 u11
  go_wp2
  refine bodyPost_ret (results_ct rfl _ _ (w.heap.size + 1) 57 _ (0, 0) _ rfl HR8.out Try.underlying57 rfl (by kernel_rfl)) rfl ?_
  obtain ⟨hfit, hoo⟩ := with_turn HGD.out HWO.out
  have hfr : ∀ q, a = some q → w3.heap.size ≤ q.block := fun q hq => Nat.le_trans HB6.out.size (HF.out q hq)
  have h3w := hbw.size
  exact ⟨⟨o, a, c, p, d, n, rfl, .inr (.inr (.inr ⟨HV.out, k, hk, hp, _, HT2.out, hfit, hoo⟩)), HO.out.far gr_set12 (fun q hq => by have := hfr q hq; omega) (no8 HR7.out), fun q hq => by have := hfr q hq; omega⟩, below_set12 (below_next hbw hb37) (by simp)⟩
end Go.Proofs.Ytdpkommmkcmifab
