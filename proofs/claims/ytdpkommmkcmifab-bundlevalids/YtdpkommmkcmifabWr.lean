import Derived.Test.YtdpkommmkcmifabVal1
namespace Go.Proofs.Ytdpkommmkcmifab
set_option linter.unusedVariables false
set_option linter.unusedSimpArgs false
open Go.RowKit
/-- what stands ahead of block k -/
def pref (b : Bun) (k : Nat) : List UInt8 := [6] ++ dgs [b.fl, b.e0, b.e1, b.e2, b.e3, b.e4, b.e5, b.tm, b.sq, b.lf, b.bl.length] ++ encBlks (b.bl.take k)
theorem pref_snoc (b : Bun) (k : Nat) (h : k < b.bl.length) : pref b (k + 1) = pref b k ++ dgs [b.bl[k].t, b.bl[k].n, b.bl[k].f] ++ (dg b.bl[k].d.length ++ b.bl[k].d) := by
  unfold pref
  rw [encBlks_snoc _ _ h]
  unfold encBlk
  simp only [List.append_assoc]
theorem pref_all (b : Bun) : pref b b.bl.length ++ (dg b.py.length ++ b.py) = encB b := by unfold pref encB; rw [List.take_length]
theorem hdr_lt {b : Bun} (h : b.ok) : ∀ n ∈ [b.fl, b.e0, b.e1, b.e2, b.e3, b.e4, b.e5, b.tm, b.sq, b.lf, b.bl.length], n < 18446744073709551616 := by
  intro n hn
  have hbn := h.bn
  simp only [List.mem_cons, List.not_mem_nil, or_false] at hn
  rcases hn with rfl | rfl | rfl | rfl | rfl | rfl | rfl | rfl | rfl | rfl | rfl
  all_goals first | exact h.fl | exact h.e0 | exact h.e1 | exact h.e2 | exact h.e3 | exact h.e4 | exact h.e5 | exact h.tm | exact h.sq | exact h.lf | omega
theorem pref_len {b : Bun} (h : b.ok) (hg : GoodBlks b.bl) (k : Nat) : (pref b k).length ≤ 1000 := by
  unfold pref
  have h1 := dgs_len [b.fl, b.e0, b.e1, b.e2, b.e3, b.e4, b.e5, b.tm, b.sq, b.lf, b.bl.length] (hdr_lt h)
  have h2 := encBlks_len (b.bl.take k) (fun x hx => ⟨h.bl x (List.mem_of_mem_take hx), hg.data (List.mem_of_mem_take hx)⟩)
  have h3 := hg.1
  simp only [List.length_append, List.length_take] at h2 ⊢
  simp at h1 ⊢
  omega
theorem trip_lt {x : Blk} (h : x.ok) : ∀ n ∈ [x.t, x.n, x.f], n < 18446744073709551616 := by
  intro n hn
  simp only [List.mem_cons, List.not_mem_nil, or_false] at hn
  rcases hn with rfl | rfl | rfl
  all_goals first | exact h.1 | exact h.2.1 | exact h.2.2.1
set_option maxRecDepth 20000 in
set_option maxHeartbeats 3200000 in
theorem written_any (b : Bun) (ba : Option Addr) (bc : Nat) (pa : Option Addr) (pc : Nat) (w : World) (h : BunR w b ba bc pa pc) (hg : GoodB b) :
    Calls Try.prog 36 #[bunV b ba bc pa pc] w fun e w' => ∃ v, e = .returned v ∧ Own w' w.heap.size v (encB b) ∧ Below w.heap.size w w' := by
  have hbn := hg.bl.1
  have hpn := hg.py
  unfold bunV
  obtain ⟨W0, hW0⟩ : ∃ W0 : World, W0 = w.alloc (.cells #[.int .u64 b.fl, .int .u64 b.e0, .int .u64 b.e1, .int .u64 b.e2, .int .u64 b.e3, .int .u64 b.e4, .int .u64 b.e5, .int .u64 b.tm, .int .u64 b.sq, .int .u64 b.lf, .slice ba b.bl.length bc, .slice pa b.py.length pc] 36) := ⟨_, rfl⟩
  have hI : W0.heap[w.heap.size]? = some (.cells #[.int .u64 b.fl, .int .u64 b.e0, .int .u64 b.e1, .int .u64 b.e2, .int .u64 b.e3, .int .u64 b.e4, .int .u64 b.e5, .int .u64 b.tm, .int .u64 b.sq, .int .u64 b.lf, .slice ba b.bl.length bc, .slice pa b.py.length pc] 36 (0, 0)) := by rw [hW0]; exact heap_alloc_new w _
  have hb0 : Below w.heap.size w W0 := by rw [hW0]; exact al (Below.refl _ _) _
  have HS0 : Hid (w.heap.size + 1 = W0.heap.size) := by unfold Hid; rw [hW0]; simp
  have hwl : IntKind.u64.wrap (b.bl.length : Int) = (b.bl.length : Int) := by rw [IntKind.wrap_u64]; omega
  have HG : Hid (GoodB b) := hg
  clear hg
  go_enter Try.func36, Try.ntmps36
  go_wp2_with fail
  rw [← hW0]
  clear hW0
  obtain ⟨W1, hW1⟩ : ∃ W1 : World, W1 = W0.alloc (.cells #[.int .u8 6] 5) := ⟨_, rfl⟩
  rw [← hW1]
  obtain ⟨W2, hW2⟩ : ∃ W2 : World, W2 = W1.alloc (.cells #[.int .u64 b.fl, .int .u64 b.e0, .int .u64 b.e1, .int .u64 b.e2, .int .u64 b.e3, .int .u64 b.e4, .int .u64 b.e5, .int .u64 b.tm, .int .u64 b.sq, .int .u64 b.lf, .int .u64 b.bl.length] 22) := ⟨_, rfl⟩
  rw [← hW2]
  have hb1 : Below W0.heap.size W0 W1 := by rw [hW1]; exact al (Below.refl _ _) _
  have hb2 : Below W1.heap.size W1 W2 := by rw [hW2]; exact al (Below.refl _ _) _
  have hs1 : w.heap.size + 1 + 1 = W1.heap.size := by rw [hW1]; have := HS0.out; simp; omega
  have hU : RdU W2 (some ⟨w.heap.size + 1 + 1, 0, none⟩) [b.fl, b.e0, b.e1, b.e2, b.e3, b.e4, b.e5, b.tm, b.sq, b.lf, b.bl.length] := by rw [hW2]; exact rdu_new W1 _ hs1 _ _ _ _ rfl
  have h6 : Rd W2 (some ⟨w.heap.size + 1, 0, none⟩) [6] := by
    refine Rd.below ?_ hb2
    rw [hW1]
    exact rd_lit W0 _ HS0.out _ _ _ _ rfl
  clear hW1 hW2 hs1
  refine (lay_any _ 1 [6] _ 11 11 [b.fl, b.e0, b.e1, b.e2, b.e3, b.e4, b.e5, b.tm, b.sq, b.lf, b.bl.length] rfl W2 h6 (fun e => by cases e) hU (hdr_lt h.ok) (by simp) (by simp) (by simp)).mono ?_
  rintro e w3 ⟨v3, rfl, hown3, hb3⟩
  obtain ⟨a3, c3, hv3, hlc3, -, hn3, hr3, -⟩ := hown3.val
  obtain ⟨m3, hm3⟩ : ∃ m3, m3 = ([6] ++ dgs [b.fl, b.e0, b.e1, b.e2, b.e3, b.e4, b.e5, b.tm, b.sq, b.lf, b.bl.length]).length := ⟨_, rfl⟩
  rw [← hm3] at hv3
  subst hv3
  have HM3 : Hid (m3 = (pref b 0).length) := by unfold Hid pref; rw [hm3]; simp [encBlks]
  have HO3 : Hid (Own w3 w.heap.size (.slice a3 m3 c3) (pref b 0)) := by
    have h1 := hown3.base (show w.heap.size ≤ W2.heap.size from Nat.le_trans hb0.size (Nat.le_trans hb1.size hb2.size))
    unfold Hid pref
    simpa [encBlks] using h1
  have hI3 := box_on (box_on (box_on hI hb1) hb2) hb3
  obtain ⟨i0, i1, i2, i3, i4, i5, i6, i7, i8, i9, i10, i11, -⟩ := cells12 hI3
  have hbw3 := below_next hb0 (below_next hb1 (below_next hb2 hb3))
  clear hm3 hn3 hr3 hown3 hI hI3 hb1 hb2 hb3 hlc3 h6 hU
  go_wp2
  go_loopw [3, 44] (fun v i wr => ∃ (k : Nat) (a : Option Addr) (c n : Nat), k ≤ b.bl.length ∧ i = .int .i64 k ∧ v = .slice a n c ∧ Hid (n = (pref b k).length) ∧ Hid (Own wr w.heap.size (.slice a n c) (pref b k)) ∧ Below w3.heap.size w3 wr) (fun _ i _ => b.bl.length - (intOf i).toNat)
  case atStart => exact ⟨0, a3, c3, m3, Nat.zero_le _, rfl, rfl, HM3, HO3, Below.refl _ _⟩
  case round =>
    obtain ⟨k, a, c, n, hk, rfl, rfl, HL, HO, hbel⟩ := hrel
    have hbw := below_next hbw3 hbel
    have i11r := cell_on hbel i11
    clear i0 i1 i2 i3 i4 i5 i6 i7 i8 i9 i10 i11
    by_cases hlt : k < b.bl.length
    · obtain ⟨b1, o1, rfl, hx⟩ := h.rb.at k hlt
      obtain ⟨a1, c1, d0, d1, d2, d3, hr, hdc, hdn⟩ := hx.below hbw
      have hok := h.ok.bl _ (List.getElem_mem hlt)
      have hdl := HG.out.bl.data (List.getElem_mem hlt)
      obtain ⟨W4, hW4⟩ : ∃ W4 : World, W4 = wr.alloc (.cells #[.int .u64 b.bl[k].t, .int .u64 b.bl[k].n, .int .u64 b.bl[k].f, .slice a1 b.bl[k].d.length c1] 48) := ⟨_, rfl⟩
      have hX4 : W4.heap[wr.heap.size]? = some (.cells #[.int .u64 b.bl[k].t, .int .u64 b.bl[k].n, .int .u64 b.bl[k].f, .slice a1 b.bl[k].d.length c1] 48 (0, 0)) := by rw [hW4]; exact heap_alloc_new _ _
      have hb4 : Below wr.heap.size wr W4 := by rw [hW4]; exact al (Below.refl _ _) _
      obtain ⟨x0, x1, x2, x3⟩ := box4b hX4
      have HX : Hid (Rd W4 a1 b.bl[k].d) := hr.below hb4
      have HDN : Hid (a1 = none → c1 = 0) := hdn
      have HOK : Hid b.bl[k].ok := hok
      have HPL : Hid ((pref b k).length ≤ 1000) := pref_len h.ok HG.out.bl k
      have HS : Hid (pref b (k + 1) = pref b k ++ dgs [b.bl[k].t, b.bl[k].n, b.bl[k].f] ++ (dg b.bl[k].d.length ++ b.bl[k].d)) := pref_snoc b k hlt
      obtain ⟨HR1, HN1⟩ : Hid (Rd W4 a (pref b k)) ∧ Hid (a = none → c = 0) := by
        obtain ⟨aq, cq, hv, -, -, hn, hrq, -⟩ := HO.out.val
        simp only [Value.slice.injEq] at hv
        obtain ⟨rfl, -, rfl⟩ := hv
        exact ⟨hrq.below hb4, hn⟩
      have hself := Below.refl W4.heap.size W4
      have HU : Hid (RdU (W4.alloc (.cells #[.int .u64 b.bl[k].t, .int .u64 b.bl[k].n, .int .u64 b.bl[k].f] 22)).drew (some ⟨W4.heap.size, 0, none⟩) [b.bl[k].t, b.bl[k].n, b.bl[k].f]) := (rdu_new W4 _ rfl _ _ _ _ rfl).below (Below.refl _ _).drew
      have HBU : Hid (Below W4.heap.size W4 (W4.alloc (.cells #[.int .u64 b.bl[k].t, .int .u64 b.bl[k].n, .int .u64 b.bl[k].f] 22)).drew) := (al (Below.refl _ _) _).drew
      have hnl : n = (pref b k).length := HL.out
      rw [hnl]
      clear hdn hok hr hx
      go_wp2_with fail
      rw [← hW4]
      clear hW4
      refine wp_region_noPanic ?_
      refine wp_region_held_drew (S := (fun u => Below W4.heap.size W4 u)) (by kernel_rfl) (by with_reducible first | assumption | exact (Below.refl _ _).drew | exact al (by assumption) _ | exact al (Below.refl _ _).drew _ | exact (al (Below.refl _ _) _).drew) (fun hHeld => ?_)
      refine take_at (i := 0) 48 (v := ?_) rfl rfl (by kernel_rfl) (by kernel_rfl) (by kernel_rfl) (fun _ _ _ h => h) (by rfl) ?_ hHeld ?_
      rotate_left
      · (intro w hSw; (try dsimp only at hSw); go_simp; try with_reducible rfl)
      simp only [Act.put, List.setIfInBounds_toArray, List.set_cons_zero, List.set_cons_succ]
      refine take_at (i := 1) 49 (v := ?_) rfl rfl (by kernel_rfl) (by kernel_rfl) (by kernel_rfl) (fun _ _ _ h => h) (by rfl) ?_ hHeld ?_
      rotate_left
      · (intro w hSw; (try dsimp only at hSw); go_simp; try with_reducible rfl)
      simp only [Act.put, List.setIfInBounds_toArray, List.set_cons_zero, List.set_cons_succ]
      refine take_at (i := 2) 50 (v := ?_) rfl rfl (by kernel_rfl) (by kernel_rfl) (by kernel_rfl) (fun _ _ _ h => h) (by rfl) ?_ hHeld ?_
      rotate_left
      · (intro w hSw; (try dsimp only at hSw); go_simp; try with_reducible rfl)
      simp only [Act.put, List.setIfInBounds_toArray, List.set_cons_zero, List.set_cons_succ]
      refine take_at (i := 3) 51 (v := ?_) rfl rfl (by kernel_rfl) (by kernel_rfl) (by kernel_rfl) (fun _ _ _ h => h) (by rfl) ?_ hHeld ?_
      rotate_left
      · (intro w hSw; (try dsimp only at hSw); go_simp; try with_reducible rfl)
      simp only [Act.put, List.setIfInBounds_toArray, List.set_cons_zero, List.set_cons_succ]
      refine take_at (i := 4) 52 (v := ?_) rfl rfl (by kernel_rfl) (by kernel_rfl) (by kernel_rfl) (fun _ _ _ h => h) (by rfl) ?_ hHeld ?_
      rotate_left
      · (intro w hSw; (try dsimp only at hSw); go_simp; try with_reducible rfl)
      simp only [Act.put, List.setIfInBounds_toArray, List.set_cons_zero, List.set_cons_succ]
      refine take_at (i := 5) 53 (v := ?_) rfl rfl (by kernel_rfl) (by kernel_rfl) (by kernel_rfl) (fun _ _ _ h => h) (by rfl) ?_ hHeld ?_
      rotate_left
      · (intro w hSw; (try dsimp only at hSw); go_simp; try with_reducible rfl)
      simp only [Act.put, List.setIfInBounds_toArray, List.set_cons_zero, List.set_cons_succ]
      refine take_at (i := 6) 54 (v := ?_) rfl rfl (by kernel_rfl) (by kernel_rfl) (by kernel_rfl) (fun _ _ _ h => h) (by rfl) ?_ hHeld ?_
      rotate_left
      · (intro w hSw; (try dsimp only at hSw); go_simp; try with_reducible rfl)
      simp only [Act.put, List.setIfInBounds_toArray, List.set_cons_zero, List.set_cons_succ]
      refine take_at (i := 9) 57 (v := ?_) rfl rfl (by kernel_rfl) (by kernel_rfl) (by kernel_rfl) (fun _ _ _ h => h) (by rfl) ?_ hHeld ?_
      rotate_left
      · (intro w hSw; (try dsimp only at hSw); go_simp; try with_reducible rfl)
      simp only [Act.put, List.setIfInBounds_toArray, List.set_cons_zero, List.set_cons_succ]
      refine take_at (i := 10) 58 (v := ?_) rfl rfl (by kernel_rfl) (by kernel_rfl) (by kernel_rfl) (fun _ _ _ h => h) (by rfl) ?_ hHeld ?_
      rotate_left
      · (intro w hSw; (try dsimp only at hSw); go_simp; try with_reducible rfl)
      simp only [Act.put, List.setIfInBounds_toArray, List.set_cons_zero, List.set_cons_succ]
      refine run_at (i := 7) rfl (by kernel_rfl) (by rfl) (fun K hK => ?_)
      simp only [List.getElem_toArray, List.getElem_cons_zero, List.getElem_cons_succ]
      go_simp
      go_wp2_with fail
      refine hK.out _ _ (by with_reducible first | assumption | exact (Below.refl _ _).drew | exact al (by assumption) _ | exact al (Below.refl _ _).drew _ | exact (al (Below.refl _ _) _).drew) ?_
      clear hK K
      intro hHeld2
      clear hHeld
      have hHeld := hHeld2
      clear hHeld2
      try simp only [Act.put, List.setIfInBounds_toArray, List.set_cons_zero, List.set_cons_succ]
      refine run_at (i := 8) rfl (by kernel_rfl) (by rfl) (fun K hK => ?_)
      simp only [List.getElem_toArray, List.getElem_cons_zero, List.getElem_cons_succ]
      go_simp
      first | (go_at_call 29; refine (lay_any a c (pref b k) _ 3 3 [b.bl[k].t, b.bl[k].n, b.bl[k].f] rfl _ (HR1.out.below HBU.out) HN1.out HU.out (trip_lt HOK.out) (by simp) (by simp) (by have := HPL.out; simp; omega)).mono ?_; rintro e w5 ⟨v5, rfl, hown5, hb5⟩; have hS5 : Below W4.heap.size W4 w5 := below_next (B := W4) HBU.out hb5; obtain ⟨a5, c5, hv5, -, -, hn5, hr5, -⟩ := hown5.val; obtain ⟨m5, hm5⟩ : ∃ m5, m5 = (pref b k ++ dgs [b.bl[k].t, b.bl[k].n, b.bl[k].f]).length := ⟨_, rfl⟩; rw [← hm5] at hv5; subst hv5; have HM5 : Hid _ := hm5; have HN5 : Hid _ := hn5; have HR5 : Hid (Rd w5 a5 (pref b k ++ dgs [b.bl[k].t, b.bl[k].n, b.bl[k].f])) := hr5; clear hm5 hn5 hr5 hown5) | (go_at_call 57; refine (appendBytes_n a5 m5 c5 _ HM5.out a1 _ c1 b.bl[k].d rfl _ (HR5.out.below (by first | exact (Below.refl _ _).drew | exact Below.refl _ _ | assumption)) (HX.out.below (by first | exact (Below.refl _ _).drew | assumption)) HN5.out HDN.out (by have h1 := dgs_len _ (trip_lt HOK.out); have h2 := HPL.out; have h3 := HM5.out; simp at h1 h3; omega)).mono ?_; rintro e w6 ⟨v6, rfl, hown6, hb6⟩; have hS6 : Below W4.heap.size W4 w6 := below_next (B := W4) (by first | exact (Below.refl _ _).drew | assumption) hb6; rw [← HS.out] at hown6; obtain ⟨a6, c6, hv6, -, -, hn6, hr6, -⟩ := hown6.val; obtain ⟨m6, hm6⟩ : ∃ m6, m6 = (pref b (k + 1)).length := ⟨_, rfl⟩; rw [← hm6] at hv6; subst hv6; have HM6 : Hid (m6 = (pref b (k + 1)).length) := hm6; have HO6 : Hid (Own w6 w.heap.size (.slice a6 m6 c6) (pref b (k + 1))) := hown6.base (Nat.le_trans hbw.size (Nat.le_trans hb4.size hS5.size)); clear hm6 hn6 hr6 hown6)
      go_wp2_with fail
      refine hK.out _ _ (by with_reducible first | assumption | exact (Below.refl _ _).drew | exact al (by assumption) _ | exact al (Below.refl _ _).drew _ | exact (al (Below.refl _ _) _).drew) ?_
      clear hK K
      intro hHeld2
      clear hHeld
      have hHeld := hHeld2
      clear hHeld2
      try simp only [Act.put, List.setIfInBounds_toArray, List.set_cons_zero, List.set_cons_succ]
      refine run_at (i := 11) rfl (by kernel_rfl) (by rfl) (fun K hK => ?_)
      simp only [List.getElem_toArray, List.getElem_cons_zero, List.getElem_cons_succ]
      go_simp
      first | (go_at_call 29; refine (lay_any a c (pref b k) _ 3 3 [b.bl[k].t, b.bl[k].n, b.bl[k].f] rfl _ (HR1.out.below HBU.out) HN1.out HU.out (trip_lt HOK.out) (by simp) (by simp) (by have := HPL.out; simp; omega)).mono ?_; rintro e w5 ⟨v5, rfl, hown5, hb5⟩; have hS5 : Below W4.heap.size W4 w5 := below_next (B := W4) HBU.out hb5; obtain ⟨a5, c5, hv5, -, -, hn5, hr5, -⟩ := hown5.val; obtain ⟨m5, hm5⟩ : ∃ m5, m5 = (pref b k ++ dgs [b.bl[k].t, b.bl[k].n, b.bl[k].f]).length := ⟨_, rfl⟩; rw [← hm5] at hv5; subst hv5; have HM5 : Hid _ := hm5; have HN5 : Hid _ := hn5; have HR5 : Hid (Rd w5 a5 (pref b k ++ dgs [b.bl[k].t, b.bl[k].n, b.bl[k].f])) := hr5; clear hm5 hn5 hr5 hown5) | (go_at_call 57; refine (appendBytes_n a5 m5 c5 _ HM5.out a1 _ c1 b.bl[k].d rfl _ (HR5.out.below (by first | exact (Below.refl _ _).drew | exact Below.refl _ _ | assumption)) (HX.out.below (by first | exact (Below.refl _ _).drew | assumption)) HN5.out HDN.out (by have h1 := dgs_len _ (trip_lt HOK.out); have h2 := HPL.out; have h3 := HM5.out; simp at h1 h3; omega)).mono ?_; rintro e w6 ⟨v6, rfl, hown6, hb6⟩; have hS6 : Below W4.heap.size W4 w6 := below_next (B := W4) (by first | exact (Below.refl _ _).drew | assumption) hb6; rw [← HS.out] at hown6; obtain ⟨a6, c6, hv6, -, -, hn6, hr6, -⟩ := hown6.val; obtain ⟨m6, hm6⟩ : ∃ m6, m6 = (pref b (k + 1)).length := ⟨_, rfl⟩; rw [← hm6] at hv6; subst hv6; have HM6 : Hid (m6 = (pref b (k + 1)).length) := hm6; have HO6 : Hid (Own w6 w.heap.size (.slice a6 m6 c6) (pref b (k + 1))) := hown6.base (Nat.le_trans hbw.size (Nat.le_trans hb4.size hS5.size)); clear hm6 hn6 hr6 hown6)
      go_wp2_with fail
      refine hK.out _ _ (by with_reducible first | assumption | exact (Below.refl _ _).drew | exact al (by assumption) _ | exact al (Below.refl _ _).drew _ | exact (al (Below.refl _ _) _).drew) ?_
      clear hK K
      intro hHeld2
      clear hHeld
      have hHeld := hHeld2
      clear hHeld2
      try simp only [Act.put, List.setIfInBounds_toArray, List.set_cons_zero, List.set_cons_succ]
      refine take_at (i := 12) 3 (v := ?_) rfl rfl (by kernel_rfl) (by kernel_rfl) (by kernel_rfl) (fun _ _ _ h => h) (by rfl) ?_ hHeld ?_
      rotate_left
      · (intro w hSw; (try dsimp only at hSw); go_simp; try with_reducible rfl)
      simp only [Act.put, List.setIfInBounds_toArray, List.set_cons_zero, List.set_cons_succ]
      refine wpAnyH_done (by kernel_rfl) ?_ _
      refine NoPanic.normal ?_
      all_goals go_wp2
      all_goals go_roundw
      all_goals first
        | (case rel => exact ⟨k + 1, a6, c6, m6, by omega, by go_num, rfl, HM6, HO6, below_next hbel (below_next hb4 hS6)⟩)
        | (case measure => simp [intOf]; omega)
    · obtain rfl : k = b.bl.length := by omega
      have HPL : Hid ((pref b b.bl.length).length ≤ 1000) := pref_len h.ok HG.out.bl _
      obtain ⟨HR1, HN1⟩ : Hid (Rd wr a (pref b b.bl.length)) ∧ Hid (a = none → c = 0) := by
        obtain ⟨aq, cq, hv, -, -, hn, hrq, -⟩ := HO.out.val
        simp only [Value.slice.injEq] at hv
        obtain ⟨rfl, -, rfl⟩ := hv
        exact ⟨hrq, hn⟩
      go_wp2_with fail
      refine (appendBytes_n a n c _ HL.out pa _ pc b.py rfl wr HR1.out (h.rp.below hbw) HN1.out h.np (by have h1 := HPL.out; have h2 := HL.out; omega)).mono ?_
      rintro e w6 ⟨v6, rfl, hown6, hb6⟩
      rw [pref_all] at hown6
      go_wp2
      go_ret
      exact ⟨_, rfl, hown6.base hbw.size, below_next hbw hb6⟩
def fitsS (b : Bun) : Int := if 1024 < (encB b).length then 81 else 0
theorem encB_len {b : Bun} (h : b.ok) (hg : GoodB b) : (encB b).length ≤ 2000 := by
  have h1 := pref_len h hg.bl b.bl.length
  have h2 := hg.py
  have h3 := (dg_len b.py.length (by omega)).2
  rw [← pref_all]
  simp only [List.length_append]
  omega
set_option maxRecDepth 20000 in
set_option maxHeartbeats 800000 in
theorem fits_any (b : Bun) (ba : Option Addr) (bc : Nat) (pa : Option Addr) (pc : Nat) (w : World) (h : BunR w b ba bc pa pc) (hg : GoodB b) :
    Calls Try.prog 44 #[bunV b ba bc pa pc] w fun e w' => e = .returned (.int .i64 (fitsS b)) ∧ Below w.heap.size w w' := by
  have HL : Hid ((encB b).length ≤ 2000) := encB_len h.ok hg
  unfold bunV
  obtain ⟨W0, hW0⟩ : ∃ W0 : World, W0 = w.alloc (.cells #[.int .u64 b.fl, .int .u64 b.e0, .int .u64 b.e1, .int .u64 b.e2, .int .u64 b.e3, .int .u64 b.e4, .int .u64 b.e5, .int .u64 b.tm, .int .u64 b.sq, .int .u64 b.lf, .slice ba b.bl.length bc, .slice pa b.py.length pc] 36) := ⟨_, rfl⟩
  have hI : W0.heap[w.heap.size]? = some (.cells #[.int .u64 b.fl, .int .u64 b.e0, .int .u64 b.e1, .int .u64 b.e2, .int .u64 b.e3, .int .u64 b.e4, .int .u64 b.e5, .int .u64 b.tm, .int .u64 b.sq, .int .u64 b.lf, .slice ba b.bl.length bc, .slice pa b.py.length pc] 36 (0, 0)) := by rw [hW0]; exact heap_alloc_new w _
  have hb0 : Below w.heap.size w W0 := by rw [hW0]; exact al (Below.refl _ _) _
  have HS0 : Hid (w.heap.size + 1 = W0.heap.size) := by unfold Hid; rw [hW0]; simp
  go_enter Try.func44, Try.ntmps44
  go_wp2_with fail
  rw [← hW0]
  clear hW0
  refine (written_any b ba bc pa pc W0 (h.below hb0) hg).mono ?_
  rintro e w1 ⟨v1, rfl, hown1, hb1⟩
  obtain ⟨a1, c1, hv1, -, -, -, -, -⟩ := hown1.val
  obtain ⟨m1, hm1⟩ : ∃ m1, m1 = (encB b).length := ⟨_, rfl⟩
  rw [← hm1] at hv1
  subst hv1
  have hml : m1 ≤ 2000 := by rw [hm1]; exact HL.out
  by_cases hb : 1024 < m1
  · have HV : Hid (fitsS b = 81) := by unfold Hid fitsS; rw [← hm1, if_pos hb]
    clear hm1 hown1
    go_wp2
    go_ret
    exact ⟨by rw [HV.out]; rfl, below_next hb0 hb1⟩
  · have HV : Hid (fitsS b = 0) := by unfold Hid fitsS; rw [← hm1, if_neg hb]
    clear hm1 hown1
    go_wp2
    go_ret
    exact ⟨by rw [HV.out]; rfl, below_next hb0 hb1⟩
/-- what Valid answers -/
def ValidIs (b : Bun) (e : Int) : Prop := (¬ GoodB b ∧ e = 20) ∨ (GoodB b ∧ e = fitsS b)
set_option maxRecDepth 20000 in
set_option maxHeartbeats 800000 in
theorem valid_any (b : Bun) (ba : Option Addr) (bc : Nat) (pa : Option Addr) (pc : Nat) (w : World) (h : BunR w b ba bc pa pc) :
    Calls Try.prog 20 #[bunV b ba bc pa pc] w fun e w' => (∃ n, e = .returned (.int .i64 n) ∧ ValidIs b n) ∧ Below w.heap.size w w' := by
  unfold bunV
  obtain ⟨W0, hW0⟩ : ∃ W0 : World, W0 = w.alloc (.cells #[.int .u64 b.fl, .int .u64 b.e0, .int .u64 b.e1, .int .u64 b.e2, .int .u64 b.e3, .int .u64 b.e4, .int .u64 b.e5, .int .u64 b.tm, .int .u64 b.sq, .int .u64 b.lf, .slice ba b.bl.length bc, .slice pa b.py.length pc] 36) := ⟨_, rfl⟩
  have hI : W0.heap[w.heap.size]? = some (.cells #[.int .u64 b.fl, .int .u64 b.e0, .int .u64 b.e1, .int .u64 b.e2, .int .u64 b.e3, .int .u64 b.e4, .int .u64 b.e5, .int .u64 b.tm, .int .u64 b.sq, .int .u64 b.lf, .slice ba b.bl.length bc, .slice pa b.py.length pc] 36 (0, 0)) := by rw [hW0]; exact heap_alloc_new w _
  have hb0 : Below w.heap.size w W0 := by rw [hW0]; exact al (Below.refl _ _) _
  have HS0 : Hid (w.heap.size + 1 = W0.heap.size) := by unfold Hid; rw [hW0]; simp
  go_enter Try.func20, Try.ntmps20
  go_wp2_with fail
  rw [← hW0]
  clear hW0
  refine (good_any b ba bc pa pc W0 (h.below hb0)).mono ?_
  rintro e w1 ⟨⟨r, rfl, hr⟩, hb1⟩
  have HR : Hid (r = true ↔ GoodB b) := hr
  clear hr
  rcases r with _ | _
  · have HG : Hid (¬ GoodB b) := fun hg => by have := HR.out.2 hg; cases this
    clear HR
    go_wp2
    go_ret
    exact ⟨⟨20, rfl, .inl ⟨HG.out, rfl⟩⟩, below_next hb0 hb1⟩
  · have HG : Hid (GoodB b) := HR.out.1 rfl
    have hI1 := box_on hI hb1
    obtain ⟨i0, i1, i2, i3, i4, i5, i6, i7, i8, i9, i10, i11, -⟩ := cells12 hI1
    clear HR
    go_wp2_with fail
    refine (fits_any b ba bc pa pc w1 (h.below (below_next hb0 hb1)) HG.out).mono ?_
    rintro e w2 ⟨rfl, hb2⟩
    clear i0 i1 i2 i3 i4 i5 i6 i7 i8 i9 i10 i11
    go_wp2
    go_ret
    exact ⟨⟨fitsS b, rfl, .inr ⟨HG.out, rfl⟩⟩, below_next hb0 (below_next hb1 hb2)⟩
set_option maxRecDepth 20000 in
set_option maxHeartbeats 800000 in
theorem encode_any (b : Bun) (ba : Option Addr) (bc : Nat) (pa : Option Addr) (pc : Nat) (w : World) (h : BunR w b ba bc pa pc) :
    Calls Try.prog 12 #[bunV b ba bc pa pc] w fun e w' => (∃ v n xs, e = .returned (.tuple #[v, .int .i64 n]) ∧ ValidIs b n ∧ Own w' w.heap.size v xs ∧ xs = if n = 0 then encB b else []) ∧ Below w.heap.size w w' := by
  unfold bunV
  obtain ⟨W0, hW0⟩ : ∃ W0 : World, W0 = w.alloc (.cells #[.int .u64 b.fl, .int .u64 b.e0, .int .u64 b.e1, .int .u64 b.e2, .int .u64 b.e3, .int .u64 b.e4, .int .u64 b.e5, .int .u64 b.tm, .int .u64 b.sq, .int .u64 b.lf, .slice ba b.bl.length bc, .slice pa b.py.length pc] 36) := ⟨_, rfl⟩
  have hI : W0.heap[w.heap.size]? = some (.cells #[.int .u64 b.fl, .int .u64 b.e0, .int .u64 b.e1, .int .u64 b.e2, .int .u64 b.e3, .int .u64 b.e4, .int .u64 b.e5, .int .u64 b.tm, .int .u64 b.sq, .int .u64 b.lf, .slice ba b.bl.length bc, .slice pa b.py.length pc] 36 (0, 0)) := by rw [hW0]; exact heap_alloc_new w _
  have hb0 : Below w.heap.size w W0 := by rw [hW0]; exact al (Below.refl _ _) _
  have HS0 : Hid (w.heap.size + 1 = W0.heap.size) := by unfold Hid; rw [hW0]; simp
  go_enter Try.func12, Try.ntmps12
  go_wp2_with fail
  rw [← hW0]
  clear hW0
  refine (valid_any b ba bc pa pc W0 (h.below hb0)).mono ?_
  rintro e w1 ⟨⟨n, rfl, hv⟩, hb1⟩
  have HV : Hid (ValidIs b n) := hv
  clear hv
  by_cases h0 : n = 0
  · subst h0
    have HG : Hid (GoodB b) := by
      rcases HV.out with ⟨_, h⟩ | ⟨h, _⟩
      · cases h
      · exact h
    have hI1 := box_on hI hb1
    obtain ⟨i0, i1, i2, i3, i4, i5, i6, i7, i8, i9, i10, i11, -⟩ := cells12 hI1
    go_wp2_with fail
    refine (written_any b ba bc pa pc w1 (h.below (below_next hb0 hb1)) HG.out).mono ?_
    rintro e w2 ⟨v2, rfl, hown2, hb2⟩
    clear i0 i1 i2 i3 i4 i5 i6 i7 i8 i9 i10 i11
    go_wp2
    go_ret2
    exact ⟨⟨_, 0, _, rfl, HV.out, hown2.base (below_next hb0 hb1).size, by rw [if_pos rfl]⟩, below_next hb0 (below_next hb1 hb2)⟩
  · go_wp2
    go_ret2
    exact ⟨⟨_, n, [], rfl, HV.out, World.ownsRow_nil _ _ _ _, by rw [if_neg h0]⟩, below_next hb0 hb1⟩
end Go.Proofs.Ytdpkommmkcmifab
