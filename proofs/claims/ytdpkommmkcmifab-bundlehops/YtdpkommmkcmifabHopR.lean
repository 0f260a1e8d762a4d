import Derived.Test.YtdpkommmkcmifabHop1
namespace Go.Proofs.Ytdpkommmkcmifab
set_option linter.unusedVariables false
set_option linter.unusedSimpArgs false
open Go.RowKit
theorem box12h {W : World} {g R : Nat} {t : TypeId} {v0 v1 v2 v3 v4 v5 v6 v7 v8 v9 v10 v11 : Value} (h : W.heap[g]? = some (.cells #[v0, v1, v2, v3, v4, v5, v6, v7, v8, v9, v10, v11] t (0, 0))) (hne : g ≠ R) : ∀ i v, #[v0, v1, v2, v3, v4, v5, v6, v7, v8, v9, v10, v11][i]? = some v → ∀ u, W.grownBy u (some R) → u.cell? ⟨g, i, none⟩ = some v := by
  intro i v hi u hu
  rw [cell_of_row u g i _ t _ ((hu.block g (Array.getElem?_eq_some_iff.1 h).1 (by simp; omega)).trans h)]
  exact hi
/-- append(v, x...), at an operation -/
theorem wpo_app {w : World} {o : Oper} {a : Act} {K : Act → World → Prop} {Q : Exit → Act → World → Prop} (s x : Operand)
    (ho : o.op = .call { callee := .builtin .append, args := #[s, x], argTypes := #[25, 25] }) (B : Nat) (v : Value) (xs ys : List UInt8) (ad : Addr) (cap : Nat)
    (hs : a.eval s = v) (hown : Own w B v xs) (hx : a.eval x = .slice (some ad) ys.length cap) (hr : Rd w (some ad) ys)
    (hb : xs.length + ys.length ≤ 140737488355328) (hbase : B ≤ w.heap.size)
    (h : ∀ v' w', Own w' B v' (xs ++ ys) → w.grownBy w' v.ownBlock → K (a.put o.dst v') w') : Oper.wp Try.prog o a w K Q := by
  obtain ⟨i0, hi, hz0, hz1, hz2⟩ := info_parts info5
  refine wp_append_own w s x 25 ho B 5 i0 (.int .u8 0) 1 1 Try.underlying25 hi hz0 hz1 hz2 rfl (by decide) v xs.length (bv xs) hs hown ad ys.length cap (bv ys) hx (by simp [bv_length]) ?_ (bv_one ys) (by simp only [maxLen]; omega) (by omega) hbase ?_
  · intro j u hj
    have hlt : j < ys.length := by
      have := (List.getElem?_eq_some_iff.1 hj).1
      simpa [bv_length] using this
    obtain ⟨b, o, h1, hc⟩ := hr (by omega)
    cases h1
    rw [bv_get ys j hlt] at hj
    rw [Go.WideShapes.add_plain, hc j hlt]
    exact hj
  · intro v' w' h1 h2 _
    exact h v' w' (by unfold Own; rw [bv_append, List.length_append]; exact h1) h2
theorem with_turn {b o : Bun} {n : Int} (hg : GoodB b) (h : (ValidIs b n ∧ n ≠ 0 ∧ o = zeroB) ∨ (ValidIs b 0 ∧ n = 0 ∧ o = b)) : n = fitsS b ∧ o = if n = 0 then b else zeroB := by
  rcases h with ⟨h1, h2, rfl⟩ | ⟨h1, rfl, rfl⟩
  · rcases h1 with ⟨h3, -⟩ | ⟨-, h3⟩
    · exact absurd hg h3
    · exact ⟨h3, by rw [if_neg h2]⟩
  · rcases h1 with ⟨h3, -⟩ | ⟨-, h3⟩
    · exact absurd hg h3
    · exact ⟨h3, by rw [if_pos rfl]⟩
theorem dg_some {w : World} {a : Option Addr} {n : Nat} (h : Rd w a (dg n)) (hn : n < 18446744073709551616) : ∃ q, a = some q := by
  have := (dg_len n hn).1
  obtain ⟨b, o, e, -⟩ := h (by omega)
  exact ⟨_, e⟩
set_option maxRecDepth 20000 in
set_option maxHeartbeats 1600000 in
theorem hopRef_any (b : Bun) (ba : Option Addr) (bc : Nat) (pa : Option Addr) (pc : Nat) (w : World) (h : BunR w b ba bc pa pc) :
    Calls Try.prog 25 #[bunV b ba bc pa pc] w fun e w' => TurnOut w w' b 10 (hopTurn) e ∧ Below w.heap.size w w' := by
  unfold bunV
  obtain ⟨W0, hW0⟩ : ∃ W0 : World, W0 = (w.alloc (.cells #[.int .u64 b.fl, .int .u64 b.e0, .int .u64 b.e1, .int .u64 b.e2, .int .u64 b.e3, .int .u64 b.e4, .int .u64 b.e5, .int .u64 b.tm, .int .u64 b.sq, .int .u64 b.lf, .slice ba b.bl.length bc, .slice pa b.py.length pc] 57)).alloc (.cells #[.int .u64 0, .int .u64 0, .int .u64 0, .int .u64 0, .int .u64 0, .int .u64 0, .int .u64 0, .int .u64 0, .int .u64 0, .int .u64 0, .slice none 0 0, .slice none 0 0] 57) := ⟨_, rfl⟩
  have hI : W0.heap[w.heap.size]? = some (.cells #[.int .u64 b.fl, .int .u64 b.e0, .int .u64 b.e1, .int .u64 b.e2, .int .u64 b.e3, .int .u64 b.e4, .int .u64 b.e5, .int .u64 b.tm, .int .u64 b.sq, .int .u64 b.lf, .slice ba b.bl.length bc, .slice pa b.py.length pc] 57 (0, 0)) := by rw [hW0]; exact (two_new w _ _).1
  have hR : W0.heap[w.heap.size + 1]? = some (.cells #[.int .u64 0, .int .u64 0, .int .u64 0, .int .u64 0, .int .u64 0, .int .u64 0, .int .u64 0, .int .u64 0, .int .u64 0, .int .u64 0, .slice none 0 0, .slice none 0 0] 57 (0, 0)) := by rw [hW0]; exact (two_new w _ _).2
  have hb0 : Below w.heap.size w W0 := by rw [hW0]; exact al (al (Below.refl _ _) _) _
  have hIs : w.heap.size + 2 ≤ W0.heap.size := by rw [hW0]; simp
  go_enter Try.func25, Try.ntmps25
  go_wp2_with fail
  rw [← hW0]
  clear hW0
  refine (validRef_any b ba bc pa pc W0 (h.below hb0)).mono ?_
  rintro e w1 ⟨⟨n, rfl, hv⟩, hb1⟩
  have HV : Hid (ValidIs b n) := hv
  clear hv
  have hI1 := box_on hI hb1
  have hR1 := box_on hR hb1
  have hbw := below_next hb0 hb1
  clear hI hR
  obtain ⟨r0, r1, r2, r3, r4, r5, r6, r7, r8, r9, r10, r11, g0, g1, g2, g3, g4, g5, g6, g7, g8, g9, g10, g11⟩ := cells12 hR1
  by_cases h0 : n = 0
  rotate_left
  · go_wp2
    have hfin := heap_set12 (v0 := .int .u64 0) (v1 := .int .u64 0) (v2 := .int .u64 0) (v3 := .int .u64 0) (v4 := .int .u64 0) (v5 := .int .u64 0) (v6 := .int .u64 0) (v7 := .int .u64 0) (v8 := .int .u64 0) (v9 := .int .u64 0) (v10 := .slice none 0 0) (v11 := .slice none 0 0) hR1
    refine bodyPost_ret (results_ct rfl _ _ (w.heap.size + 1) 57 _ (0, 0) _ rfl hfin Try.underlying57 rfl (by kernel_rfl)) rfl ?_
    exact ⟨⟨zeroB, none, 0, none, 0, n, rfl, .inl ⟨HV.out, h0, rfl⟩, zeroB_R _, fun q hq => by cases hq⟩, below_set12 hbw (by simp)⟩

  subst h0
  clear r0 r1 r2 r3 r4 r5 r6 r7 r8 r9 r10 r11 g0 g1 g2 g3 g4 g5 g6 g7 g8 g9 g10 g11
  have HG : Hid (GoodB b) := by
    rcases HV.out with ⟨_, h⟩ | ⟨h, _⟩
    · cases h
    · exact h
  obtain ⟨i0, i1, i2, i3, i4, i5, i6, i7, i8, i9, i10, i11, -⟩ := cells12 hI1
  go_wp2_with fail
  refine (refPlace_any b ba bc pa pc 10 w1 (h.below hbw)).mono ?_
  rintro e w2 ⟨rfl, hb2⟩
  have hbw := below_next hbw hb2
  have hI2 := box_on hI1 hb2
  have hR2 := box_on hR1 hb2
  clear i0 i1 i2 i3 i4 i5 i6 i7 i8 i9 i10 i11 hI1 hR1
  obtain ⟨r0, r1, r2, r3, r4, r5, r6, r7, r8, r9, r10, r11, g0, g1, g2, g3, g4, g5, g6, g7, g8, g9, g10, g11⟩ := cells12 hR2
  rcases placeS_cases b.bl 10 with ⟨hp, -⟩ | ⟨k, hk, hp, htk, -⟩
  · rw [hp]
    go_wp2
    have hfin := heap_set12 (v0 := .int .u64 0) (v1 := .int .u64 0) (v2 := .int .u64 0) (v3 := .int .u64 0) (v4 := .int .u64 0) (v5 := .int .u64 0) (v6 := .int .u64 0) (v7 := .int .u64 0) (v8 := .int .u64 0) (v9 := .int .u64 0) (v10 := .slice none 0 0) (v11 := .slice none 0 0) hR2
    refine bodyPost_ret (results_ct rfl _ _ (w.heap.size + 1) 57 _ (0, 0) _ rfl hfin Try.underlying57 rfl (by kernel_rfl)) rfl ?_
    exact ⟨⟨zeroB, none, 0, none, 0, 4, rfl, .inr (.inl ⟨HV.out, hp, rfl, rfl⟩), zeroB_R _, fun q hq => by cases hq⟩, below_set12 hbw (by simp)⟩

  rw [hp]
  clear r0 r1 r2 r3 r4 r5 r6 r7 r8 r9 r10 r11 g0 g1 g2 g3 g4 g5 g6 g7 g8 g9 g10 g11
  obtain ⟨i0, i1, i2, i3, i4, i5, i6, i7, i8, i9, i10, i11, -⟩ := cells12 hI2
  have HRB : Hid (BunR w2 b ba bc pa pc) := h.below hbw
  have hlb := h.lb
  have hbn := h.ok.bn
  obtain ⟨b1, o1, rfl, hx⟩ := h.rb.at k hk
  obtain ⟨a, c, c0, c1, c2, c3, hr, hlc, hn⟩ := hx.below hbw
  have hd64 : b.bl[k].d.length ≤ 64 := HG.out.bl.data (List.getElem_mem hk)
  have HDS : Hid (dataS b.bl[k].t b.bl[k].d = true) := by
    have := HG.out.bl.2 k hk
    unfold blkS at this
    simp only [Bool.and_eq_true] at this
    exact this.2.2.2
  have HVL := hop_vals (xs := b.bl[k].d) (by have h1 := HDS.out; rw [htk] at h1; unfold dataS holdsS at h1; simp at h1; exact h1.2)
  obtain ⟨v1, v2, v3, v4, v5⟩ := HVL
  go_wp2_with fail
  refine (two_d a c b.bl[k].d w2 hr hn (by omega)).mono ?_
  rintro e w3 ⟨rfl, hb3⟩
  rw [v4, v5]
  obtain ⟨L, hL⟩ : ∃ L, L = (hopS b.bl[k].d).1 := ⟨_, rfl⟩
  obtain ⟨C, hC⟩ : ∃ C, C = (hopS b.bl[k].d).2.1 := ⟨_, rfl⟩
  obtain ⟨M, hM⟩ : ∃ M, M = C + 1 := ⟨_, rfl⟩
  have HT : Hid (hopTurn b.bl[k].d = if C = L then none else some (dgs [L, M])) := by unfold Hid hopTurn; rw [hM, hL, hC]
  rw [← hL, ← hC]
  rw [← hL] at v1 v2 v3
  rw [← hC] at v3
  have hw : IntKind.u64.wrap ((C : Int) + 1) = (M : Int) := by rw [IntKind.wrap_u64]; omega
  have hM256 : M ≤ 256 := by omega
  clear hL hC hM v4 v5
  have hbw := below_next hbw hb3
  have hI3 := box_on hI2 hb3
  have hR3 := box_on hR2 hb3
  clear i0 i1 i2 i3 i4 i5 i6 i7 i8 i9 i10 i11 hI2 hR2 c0 c1 c2 c3
  obtain ⟨tb, htb⟩ : ∃ tb, tb = (twoS b.bl[k].d).2.2 := ⟨_, rfl⟩
  rw [← htb]
  clear htb
  by_cases he : C = L
  · have HT2 : Hid (hopTurn b.bl[k].d = none) := by unfold Hid; rw [HT.out, if_pos he]
    subst he
    obtain ⟨r0, r1, r2, r3, r4, r5, r6, r7, r8, r9, r10, r11, g0, g1, g2, g3, g4, g5, g6, g7, g8, g9, g10, g11⟩ := cells12 hR3
    go_wp2
    have hfin := heap_set12 (v0 := .int .u64 0) (v1 := .int .u64 0) (v2 := .int .u64 0) (v3 := .int .u64 0) (v4 := .int .u64 0) (v5 := .int .u64 0) (v6 := .int .u64 0) (v7 := .int .u64 0) (v8 := .int .u64 0) (v9 := .int .u64 0) (v10 := .slice none 0 0) (v11 := .slice none 0 0) hR3
    refine bodyPost_ret (results_ct rfl _ _ (w.heap.size + 1) 57 _ (0, 0) _ rfl hfin Try.underlying57 rfl (by kernel_rfl)) rfl ?_
    exact ⟨⟨zeroB, none, 0, none, 0, 6, rfl, .inr (.inr (.inl ⟨HV.out, k, hk, hp, HT2.out, rfl, rfl⟩)), zeroB_R _, fun q hq => by cases hq⟩, below_set12 hbw (by simp)⟩

  have HT2 : Hid (hopTurn b.bl[k].d = some (dgs [L, M])) := by unfold Hid; rw [HT.out, if_neg he]
  go_wp2_with fail
  refine (refDigits_any L w3 (by omega)).mono ?_
  rintro e w4 ⟨v4, rfl, hown4, hb4⟩
  have hdg : dgs [L, M] = dg L ++ dg M := by simp [dgs]
  rw [hdg] at HT2
  have HOK : Hid (dataS b.bl[k].t (dg L ++ dg M) = true) := by
    unfold Hid
    rw [htk]
    have h1 := HDS.out
    rw [htk] at h1
    exact hopTurn_ok h1 HT2.out
  have HGD : Hid (GoodB (setD b k (dg L ++ dg M))) := HG.out.setD hk HOK.out
  have HLL : Hid ((dg L).length ≤ 10 ∧ 1 ≤ (dg L).length) := ⟨(dg_len L (by omega)).2, (dg_len L (by omega)).1⟩
  have HML : Hid ((dg M).length ≤ 10 ∧ 1 ≤ (dg M).length) := ⟨(dg_len M (by omega)).2, (dg_len M (by omega)).1⟩
  have hMlt : M < 18446744073709551616 := by omega
  have hall := box12h hI3 (show w.heap.size ≠ w.heap.size + 1 by omega)
  have u0 := hall 0 _ rfl
  have u1 := hall 1 _ rfl
  have u2 := hall 2 _ rfl
  have u3 := hall 3 _ rfl
  have u4 := hall 4 _ rfl
  have u5 := hall 5 _ rfl
  have u6 := hall 6 _ rfl
  have u7 := hall 7 _ rfl
  have u8 := hall 8 _ rfl
  have u9 := hall 9 _ rfl
  have u10 := hall 10 _ rfl
  have u11 := hall 11 _ rfl
  clear hall hdg HT
  have hR4 := box_on hR3 hb4
  have hS4 : w3.grownBy w4 (some (w.heap.size + 1)) := gr_below (World.grownBy.refl _ _) hb4
  have hR3l : w.heap.size + 1 < w3.heap.size := (Array.getElem?_eq_some_iff.1 hR3).1
  have hbw4 := below_next hbw hb4
  have HO4 : Hid (Own w4 w3.heap.size v4 (dg L)) := hown4
  have HR4 : Hid _ := hR4
  clear hown4 hR4
  go_wp2_with fail
  refine wp_region_noPanic ?_
  refine wp_region_held_drew (S := (fun u => w3.grownBy u (some (w.heap.size + 1)))) (by kernel_rfl) (by with_reducible first | assumption | exact gr_below (by assumption) (Below.refl _ _).drew) (fun hHeld => ?_)
  refine take_at (i := 0) 38 (v := ?_) rfl rfl (by kernel_rfl) (by kernel_rfl) (by kernel_rfl) (fun _ _ _ h => h) (by rfl) ?_ hHeld ?_
  rotate_left
  · (intro w hSw; (try dsimp only at hSw); go_simp; try with_reducible rfl)
  simp only [Act.put, List.setIfInBounds_toArray, List.set_cons_zero, List.set_cons_succ]
  refine take_at (i := 1) 39 (v := ?_) rfl rfl (by kernel_rfl) (by kernel_rfl) (by kernel_rfl) (fun _ _ _ h => h) (by rfl) ?_ hHeld ?_
  rotate_left
  · (intro w hSw; (try dsimp only at hSw); go_simp; try with_reducible rfl)
  simp only [Act.put, List.setIfInBounds_toArray, List.set_cons_zero, List.set_cons_succ]
  refine take_at (i := 2) 40 (v := ?_) rfl rfl (by kernel_rfl) (by kernel_rfl) (by kernel_rfl) (fun _ _ _ h => h) (by rfl) ?_ hHeld ?_
  rotate_left
  · (intro w hSw; (try dsimp only at hSw); go_simp; try with_reducible rfl)
  simp only [Act.put, List.setIfInBounds_toArray, List.set_cons_zero, List.set_cons_succ]
  refine take_at (i := 3) 41 (v := ?_) rfl rfl (by kernel_rfl) (by kernel_rfl) (by kernel_rfl) (fun _ _ _ h => h) (by rfl) ?_ hHeld ?_
  rotate_left
  · (intro w hSw; (try dsimp only at hSw); go_simp; try with_reducible rfl)
  simp only [Act.put, List.setIfInBounds_toArray, List.set_cons_zero, List.set_cons_succ]
  refine take_at (i := 4) 42 (v := ?_) rfl rfl (by kernel_rfl) (by kernel_rfl) (by kernel_rfl) (fun _ _ _ h => h) (by rfl) ?_ hHeld ?_
  rotate_left
  · (intro w hSw; (try dsimp only at hSw); go_simp; try with_reducible rfl)
  simp only [Act.put, List.setIfInBounds_toArray, List.set_cons_zero, List.set_cons_succ]
  refine run_at (i := 5) rfl (by kernel_rfl) (by rfl) (fun K hK => ?_)
  simp only [List.getElem_toArray, List.getElem_cons_zero, List.getElem_cons_succ]
  go_simp
  first | (go_at_call 49; refine (refDigits_any M _ hMlt).mono ?_; rintro e w5 ⟨v5, rfl, hown5, hb5⟩; obtain ⟨a5, c5, rfl, -, -, -, hr5, -⟩ := hown5.val; obtain ⟨q5, rfl⟩ := dg_some hr5 hMlt; have hb45 : Below w4.heap.size w4 w5 := below_next (B := w4) (by first | exact (Below.refl _ _).drew | exact Below.refl _ _) hb5; have HB35 : Hid (Below w3.heap.size w3 w5) := below_next hb4 hb45; have hS5 : w3.grownBy w5 (some (w.heap.size + 1)) := gr_below (World.grownBy.refl _ _) HB35.out; have HO5 : Hid (Own w5 w3.heap.size v4 (dg L)) := HO4.out.below hb45; have HR5 : Hid (Rd w5 (some q5) (dg M)) := hr5; clear hown5 hr5) | (refine wpo_app _ _ rfl w3.heap.size v4 (dg L) (dg M) q5 c5 rfl (Own.below HO5.out (by first | exact (Below.refl _ _).drew | exact Below.refl _ _)) rfl (Rd.below HR5.out (by first | exact (Below.refl _ _).drew | exact Below.refl _ _)) (by have := HLL.out; have := HML.out; omega) (by have := HB35.out.size; simpa using this) ?_; intro v6 w6 hown6 hg6; obtain ⟨a6, c6, hv6, hc6, -, hn6, hr6, -⟩ := Own.val hown6; obtain ⟨m6, hm6⟩ : ∃ m6, m6 = (dg L ++ dg M).length := ⟨_, rfl⟩; rw [← hm6] at hv6; subst hv6; have HM6 : Hid (m6 = (dg L ++ dg M).length) := hm6; have HB6 : Hid (Below w3.heap.size w3 w6) := (below_next HB35.out (by first | exact (Below.refl _ _).drew | exact Below.refl _ _)).grown hg6 (by have := HB35.out.size; simpa using this) (fun q hq => (World.ownsRow.lt HO4.out q hq).1); have hS6 : w3.grownBy w6 (some (w.heap.size + 1)) := gr_below (World.grownBy.refl _ _) HB6.out; have HR6 : Hid _ := hr6; have HC6 : Hid _ := hc6; have HN6 : Hid _ := hn6; have HL6 : Hid ((dg L ++ dg M).length ≤ 64) := (by have h1 := HLL.out; have h2 := HML.out; unfold Hid; rw [List.length_append]; omega); clear hm6 hn6 hr6 hc6 hown6 hg6) | (go_at_call 50; refine (with_any b _ bc pa pc k a6 c6 (dg L ++ dg M) _ _ (HRB.out.below (below_next hb3 HB6.out)) hk HR6.out HC6.out HN6.out HL6.out HM6.out).mono ?_; rintro e w7 ⟨⟨o, a, c, p, d, n, rfl, hwo, hO, hfr⟩, hb7⟩; have hb37 : Below w3.heap.size w3 w7 := below_next HB6.out hb7; have hS7 : w3.grownBy w7 (some (w.heap.size + 1)) := gr_below (World.grownBy.refl _ _) hb37; have hR7 := box_on hR3 hb37; obtain ⟨r0, r1, r2, r3, r4, r5, r6, r7, r8, r9, r10, r11, g0, g1, g2, g3, g4, g5, g6, g7, g8, g9, g10, g11⟩ := cells12 hR7; have HWO : Hid _ := hwo; have HO : Hid _ := hO; have HF : Hid _ := hfr; unfold bunV; have hS8 : w3.grownBy ((((((((((((w7.setCell ⟨w.heap.size + 1, 0, none⟩ (.int .u64 o.fl)).setCell ⟨w.heap.size + 1, 1, none⟩ (.int .u64 o.e0)).setCell ⟨w.heap.size + 1, 2, none⟩ (.int .u64 o.e1)).setCell ⟨w.heap.size + 1, 3, none⟩ (.int .u64 o.e2)).setCell ⟨w.heap.size + 1, 4, none⟩ (.int .u64 o.e3)).setCell ⟨w.heap.size + 1, 5, none⟩ (.int .u64 o.e4)).setCell ⟨w.heap.size + 1, 6, none⟩ (.int .u64 o.e5)).setCell ⟨w.heap.size + 1, 7, none⟩ (.int .u64 o.tm)).setCell ⟨w.heap.size + 1, 8, none⟩ (.int .u64 o.sq)).setCell ⟨w.heap.size + 1, 9, none⟩ (.int .u64 o.lf)).setCell ⟨w.heap.size + 1, 10, none⟩ (.slice a o.bl.length c)).setCell ⟨w.heap.size + 1, 11, none⟩ (.slice p o.py.length d)) (some (w.heap.size + 1)) := World.grownBy.trans' hS7 gr_set12; have hR8 := heap_set12 (v0 := .int .u64 o.fl) (v1 := .int .u64 o.e0) (v2 := .int .u64 o.e1) (v3 := .int .u64 o.e2) (v4 := .int .u64 o.e3) (v5 := .int .u64 o.e4) (v6 := .int .u64 o.e5) (v7 := .int .u64 o.tm) (v8 := .int .u64 o.sq) (v9 := .int .u64 o.lf) (v10 := .slice a o.bl.length c) (v11 := .slice p o.py.length d) hR7; have HR7 : Hid _ := hR7; have HR8 : Hid _ := hR8; clear hR7 hR8; clear hwo hO hfr)
  go_wp2_with fail
  refine hK.out _ _ (by with_reducible first | assumption | exact gr_below (by assumption) (Below.refl _ _).drew) ?_
  clear hK K
  intro hHeld2
  clear hHeld
  have hHeld := hHeld2
  clear hHeld2
  try simp only [Act.put, List.setIfInBounds_toArray, List.set_cons_zero, List.set_cons_succ]
  refine run_at (i := 6) rfl (by kernel_rfl) (by rfl) (fun K hK => ?_)
  simp only [List.getElem_toArray, List.getElem_cons_zero, List.getElem_cons_succ]
  first | (go_at_call 49; refine (refDigits_any M _ hMlt).mono ?_; rintro e w5 ⟨v5, rfl, hown5, hb5⟩; obtain ⟨a5, c5, rfl, -, -, -, hr5, -⟩ := hown5.val; obtain ⟨q5, rfl⟩ := dg_some hr5 hMlt; have hb45 : Below w4.heap.size w4 w5 := below_next (B := w4) (by first | exact (Below.refl _ _).drew | exact Below.refl _ _) hb5; have HB35 : Hid (Below w3.heap.size w3 w5) := below_next hb4 hb45; have hS5 : w3.grownBy w5 (some (w.heap.size + 1)) := gr_below (World.grownBy.refl _ _) HB35.out; have HO5 : Hid (Own w5 w3.heap.size v4 (dg L)) := HO4.out.below hb45; have HR5 : Hid (Rd w5 (some q5) (dg M)) := hr5; clear hown5 hr5) | (refine wpo_app _ _ rfl w3.heap.size v4 (dg L) (dg M) q5 c5 rfl (Own.below HO5.out (by first | exact (Below.refl _ _).drew | exact Below.refl _ _)) rfl (Rd.below HR5.out (by first | exact (Below.refl _ _).drew | exact Below.refl _ _)) (by have := HLL.out; have := HML.out; omega) (by have := HB35.out.size; simpa using this) ?_; intro v6 w6 hown6 hg6; obtain ⟨a6, c6, hv6, hc6, -, hn6, hr6, -⟩ := Own.val hown6; obtain ⟨m6, hm6⟩ : ∃ m6, m6 = (dg L ++ dg M).length := ⟨_, rfl⟩; rw [← hm6] at hv6; subst hv6; have HM6 : Hid (m6 = (dg L ++ dg M).length) := hm6; have HB6 : Hid (Below w3.heap.size w3 w6) := (below_next HB35.out (by first | exact (Below.refl _ _).drew | exact Below.refl _ _)).grown hg6 (by have := HB35.out.size; simpa using this) (fun q hq => (World.ownsRow.lt HO4.out q hq).1); have hS6 : w3.grownBy w6 (some (w.heap.size + 1)) := gr_below (World.grownBy.refl _ _) HB6.out; have HR6 : Hid _ := hr6; have HC6 : Hid _ := hc6; have HN6 : Hid _ := hn6; have HL6 : Hid ((dg L ++ dg M).length ≤ 64) := (by have h1 := HLL.out; have h2 := HML.out; unfold Hid; rw [List.length_append]; omega); clear hm6 hn6 hr6 hc6 hown6 hg6) | (go_at_call 50; refine (with_any b _ bc pa pc k a6 c6 (dg L ++ dg M) _ _ (HRB.out.below (below_next hb3 HB6.out)) hk HR6.out HC6.out HN6.out HL6.out HM6.out).mono ?_; rintro e w7 ⟨⟨o, a, c, p, d, n, rfl, hwo, hO, hfr⟩, hb7⟩; have hb37 : Below w3.heap.size w3 w7 := below_next HB6.out hb7; have hS7 : w3.grownBy w7 (some (w.heap.size + 1)) := gr_below (World.grownBy.refl _ _) hb37; have hR7 := box_on hR3 hb37; obtain ⟨r0, r1, r2, r3, r4, r5, r6, r7, r8, r9, r10, r11, g0, g1, g2, g3, g4, g5, g6, g7, g8, g9, g10, g11⟩ := cells12 hR7; have HWO : Hid _ := hwo; have HO : Hid _ := hO; have HF : Hid _ := hfr; unfold bunV; have hS8 : w3.grownBy ((((((((((((w7.setCell ⟨w.heap.size + 1, 0, none⟩ (.int .u64 o.fl)).setCell ⟨w.heap.size + 1, 1, none⟩ (.int .u64 o.e0)).setCell ⟨w.heap.size + 1, 2, none⟩ (.int .u64 o.e1)).setCell ⟨w.heap.size + 1, 3, none⟩ (.int .u64 o.e2)).setCell ⟨w.heap.size + 1, 4, none⟩ (.int .u64 o.e3)).setCell ⟨w.heap.size + 1, 5, none⟩ (.int .u64 o.e4)).setCell ⟨w.heap.size + 1, 6, none⟩ (.int .u64 o.e5)).setCell ⟨w.heap.size + 1, 7, none⟩ (.int .u64 o.tm)).setCell ⟨w.heap.size + 1, 8, none⟩ (.int .u64 o.sq)).setCell ⟨w.heap.size + 1, 9, none⟩ (.int .u64 o.lf)).setCell ⟨w.heap.size + 1, 10, none⟩ (.slice a o.bl.length c)).setCell ⟨w.heap.size + 1, 11, none⟩ (.slice p o.py.length d)) (some (w.heap.size + 1)) := World.grownBy.trans' hS7 gr_set12; have hR8 := heap_set12 (v0 := .int .u64 o.fl) (v1 := .int .u64 o.e0) (v2 := .int .u64 o.e1) (v3 := .int .u64 o.e2) (v4 := .int .u64 o.e3) (v5 := .int .u64 o.e4) (v6 := .int .u64 o.e5) (v7 := .int .u64 o.tm) (v8 := .int .u64 o.sq) (v9 := .int .u64 o.lf) (v10 := .slice a o.bl.length c) (v11 := .slice p o.py.length d) hR7; have HR7 : Hid _ := hR7; have HR8 : Hid _ := hR8; clear hR7 hR8; clear hwo hO hfr)
  refine hK.out _ _ (by with_reducible first | assumption | exact gr_below (by assumption) (Below.refl _ _).drew) ?_
  clear hK K
  intro hHeld2
  clear hHeld
  have hHeld := hHeld2
  clear hHeld2
  try simp only [Act.put, List.setIfInBounds_toArray, List.set_cons_zero, List.set_cons_succ]
  refine run_at (i := 7) rfl (by kernel_rfl) (by rfl) (fun K hK => ?_)
  simp only [List.getElem_toArray, List.getElem_cons_zero, List.getElem_cons_succ]
  go_simp
  first | (go_at_call 49; refine (refDigits_any M _ hMlt).mono ?_; rintro e w5 ⟨v5, rfl, hown5, hb5⟩; obtain ⟨a5, c5, rfl, -, -, -, hr5, -⟩ := hown5.val; obtain ⟨q5, rfl⟩ := dg_some hr5 hMlt; have hb45 : Below w4.heap.size w4 w5 := below_next (B := w4) (by first | exact (Below.refl _ _).drew | exact Below.refl _ _) hb5; have HB35 : Hid (Below w3.heap.size w3 w5) := below_next hb4 hb45; have hS5 : w3.grownBy w5 (some (w.heap.size + 1)) := gr_below (World.grownBy.refl _ _) HB35.out; have HO5 : Hid (Own w5 w3.heap.size v4 (dg L)) := HO4.out.below hb45; have HR5 : Hid (Rd w5 (some q5) (dg M)) := hr5; clear hown5 hr5) | (refine wpo_app _ _ rfl w3.heap.size v4 (dg L) (dg M) q5 c5 rfl (Own.below HO5.out (by first | exact (Below.refl _ _).drew | exact Below.refl _ _)) rfl (Rd.below HR5.out (by first | exact (Below.refl _ _).drew | exact Below.refl _ _)) (by have := HLL.out; have := HML.out; omega) (by have := HB35.out.size; simpa using this) ?_; intro v6 w6 hown6 hg6; obtain ⟨a6, c6, hv6, hc6, -, hn6, hr6, -⟩ := Own.val hown6; obtain ⟨m6, hm6⟩ : ∃ m6, m6 = (dg L ++ dg M).length := ⟨_, rfl⟩; rw [← hm6] at hv6; subst hv6; have HM6 : Hid (m6 = (dg L ++ dg M).length) := hm6; have HB6 : Hid (Below w3.heap.size w3 w6) := (below_next HB35.out (by first | exact (Below.refl _ _).drew | exact Below.refl _ _)).grown hg6 (by have := HB35.out.size; simpa using this) (fun q hq => (World.ownsRow.lt HO4.out q hq).1); have hS6 : w3.grownBy w6 (some (w.heap.size + 1)) := gr_below (World.grownBy.refl _ _) HB6.out; have HR6 : Hid _ := hr6; have HC6 : Hid _ := hc6; have HN6 : Hid _ := hn6; have HL6 : Hid ((dg L ++ dg M).length ≤ 64) := (by have h1 := HLL.out; have h2 := HML.out; unfold Hid; rw [List.length_append]; omega); clear hm6 hn6 hr6 hc6 hown6 hg6) | (go_at_call 50; refine (with_any b _ bc pa pc k a6 c6 (dg L ++ dg M) _ _ (HRB.out.below (below_next hb3 HB6.out)) hk HR6.out HC6.out HN6.out HL6.out HM6.out).mono ?_; rintro e w7 ⟨⟨o, a, c, p, d, n, rfl, hwo, hO, hfr⟩, hb7⟩; have hb37 : Below w3.heap.size w3 w7 := below_next HB6.out hb7; have hS7 : w3.grownBy w7 (some (w.heap.size + 1)) := gr_below (World.grownBy.refl _ _) hb37; have hR7 := box_on hR3 hb37; obtain ⟨r0, r1, r2, r3, r4, r5, r6, r7, r8, r9, r10, r11, g0, g1, g2, g3, g4, g5, g6, g7, g8, g9, g10, g11⟩ := cells12 hR7; have HWO : Hid _ := hwo; have HO : Hid _ := hO; have HF : Hid _ := hfr; unfold bunV; have hS8 : w3.grownBy ((((((((((((w7.setCell ⟨w.heap.size + 1, 0, none⟩ (.int .u64 o.fl)).setCell ⟨w.heap.size + 1, 1, none⟩ (.int .u64 o.e0)).setCell ⟨w.heap.size + 1, 2, none⟩ (.int .u64 o.e1)).setCell ⟨w.heap.size + 1, 3, none⟩ (.int .u64 o.e2)).setCell ⟨w.heap.size + 1, 4, none⟩ (.int .u64 o.e3)).setCell ⟨w.heap.size + 1, 5, none⟩ (.int .u64 o.e4)).setCell ⟨w.heap.size + 1, 6, none⟩ (.int .u64 o.e5)).setCell ⟨w.heap.size + 1, 7, none⟩ (.int .u64 o.tm)).setCell ⟨w.heap.size + 1, 8, none⟩ (.int .u64 o.sq)).setCell ⟨w.heap.size + 1, 9, none⟩ (.int .u64 o.lf)).setCell ⟨w.heap.size + 1, 10, none⟩ (.slice a o.bl.length c)).setCell ⟨w.heap.size + 1, 11, none⟩ (.slice p o.py.length d)) (some (w.heap.size + 1)) := World.grownBy.trans' hS7 gr_set12; have hR8 := heap_set12 (v0 := .int .u64 o.fl) (v1 := .int .u64 o.e0) (v2 := .int .u64 o.e1) (v3 := .int .u64 o.e2) (v4 := .int .u64 o.e3) (v5 := .int .u64 o.e4) (v6 := .int .u64 o.e5) (v7 := .int .u64 o.tm) (v8 := .int .u64 o.sq) (v9 := .int .u64 o.lf) (v10 := .slice a o.bl.length c) (v11 := .slice p o.py.length d) hR7; have HR7 : Hid _ := hR7; have HR8 : Hid _ := hR8; clear hR7 hR8; clear hwo hO hfr)
  go_wp2_with fail
  refine hK.out _ _ (by with_reducible first | assumption | exact gr_below (by assumption) (Below.refl _ _).drew) ?_
  clear hK K
  intro hHeld2
  clear hHeld
  have hHeld := hHeld2
  clear hHeld2
  try simp only [Act.put, List.setIfInBounds_toArray, List.set_cons_zero, List.set_cons_succ]
  refine take_at (i := 8) 46 (v := ?_) rfl rfl (by kernel_rfl) (by kernel_rfl) (by kernel_rfl) (fun _ _ _ h => h) (by rfl) ?_ hHeld ?_
  rotate_left
  · (intro w hSw; (try dsimp only at hSw); go_simp; try with_reducible rfl)
  simp only [Act.put, List.setIfInBounds_toArray, List.set_cons_zero, List.set_cons_succ]
  refine take_at (i := 9) 47 (v := ?_) rfl rfl (by kernel_rfl) (by kernel_rfl) (by kernel_rfl) (fun _ _ _ h => h) (by rfl) ?_ hHeld ?_
  rotate_left
  · (intro w hSw; (try dsimp only at hSw); go_simp; try with_reducible rfl)
  simp only [Act.put, List.setIfInBounds_toArray, List.set_cons_zero, List.set_cons_succ]
  refine run_at (i := 10) rfl (by kernel_rfl) (by rfl) (fun K hK => ?_)
  simp only [List.getElem_toArray, List.getElem_cons_zero, List.getElem_cons_succ]
  go_simp
  go_wp2_with fail
  refine hK.out _ _ (by with_reducible first | assumption | exact gr_below (by assumption) (Below.refl _ _).drew) ?_
  clear hK K
  intro hHeld2
  clear hHeld
  have hHeld := hHeld2
  clear hHeld2
  try simp only [Act.put, List.setIfInBounds_toArray, List.set_cons_zero, List.set_cons_succ]
  refine take_at (i := 11) 3 (v := ?_) rfl rfl (by kernel_rfl) (by kernel_rfl) (by kernel_rfl) (fun _ _ _ h => h) (by rfl) ?_ hHeld ?_
  rotate_left
  · (intro w hSw; (try dsimp only at hSw); go_simp; try with_reducible rfl)
  simp only [Act.put, List.setIfInBounds_toArray, List.set_cons_zero, List.set_cons_succ]
  refine wpAnyH_done (by kernel_rfl) ?_ _
  refine NoPanic.normal ?_
  clear u0 u1 u2 u3 u4 u5 u6 u7 u8 u9 u10 u11
  go_wp2
  refine bodyPost_ret (results_ct rfl _ _ (w.heap.size + 1) 57 _ (0, 0) _ rfl HR8.out Try.underlying57 rfl (by kernel_rfl)) rfl ?_
  obtain ⟨hfit, hoo⟩ := with_turn HGD.out HWO.out
  have hfr : ∀ q, a = some q → w3.heap.size ≤ q.block := fun q hq => Nat.le_trans HB6.out.size (HF.out q hq)
  have h3w := hbw.size
  exact ⟨⟨o, a, c, p, d, n, rfl, .inr (.inr (.inr ⟨HV.out, k, hk, hp, _, HT2.out, hfit, hoo⟩)), HO.out.far gr_set12 (fun q hq => by have := hfr q hq; omega) (no8 HR7.out), fun q hq => by have := hfr q hq; omega⟩, below_set12 (below_next hbw hb37) (by simp)⟩
end Go.Proofs.Ytdpkommmkcmifab
