import Derived.Test.YtdpkommmkcmifabClo
import Derived.Test.YtdpkommmkcmifabHopC
namespace Go.Proofs.Ytdpkommmkcmifab
set_option linter.unusedVariables false
set_option linter.unusedSimpArgs false
open Go.RowKit
/-- what Hop and Aged answer, with its memory -/
def TurnOut (w w' : World) (b : Bun) (kind : Nat) (f : List UInt8 → Option (List UInt8)) (e : Ending) : Prop :=
  ∃ o a c p d n, e = .returned (.tuple #[bunV o a c p d, .int .i64 n]) ∧ TurnIs b kind f o n ∧ BunR w' o a c p d ∧ ∀ q, a = some q → w.heap.size ≤ q.block
set_option maxRecDepth 20000 in
set_option maxHeartbeats 1600000 in
theorem turnedH_any (b : Bun) (ba : Option Addr) (bc : Nat) (pa : Option Addr) (pc : Nat) (w : World) (h : BunR w b ba bc pa pc) :
    Calls Try.prog 31 #[bunV b ba bc pa pc, .int .u64 10, .func (.func 32) #[] #[]] w fun e w' => TurnOut w w' b 10 (hopTurn) e ∧ Below w.heap.size w w' := by
  unfold bunV
  obtain ⟨W0, hW0⟩ : ∃ W0 : World, W0 = (w.alloc (.cells #[.int .u64 b.fl, .int .u64 b.e0, .int .u64 b.e1, .int .u64 b.e2, .int .u64 b.e3, .int .u64 b.e4, .int .u64 b.e5, .int .u64 b.tm, .int .u64 b.sq, .int .u64 b.lf, .slice ba b.bl.length bc, .slice pa b.py.length pc] 36)).alloc (.cells #[.int .u64 0, .int .u64 0, .int .u64 0, .int .u64 0, .int .u64 0, .int .u64 0, .int .u64 0, .int .u64 0, .int .u64 0, .int .u64 0, .slice none 0 0, .slice none 0 0] 36) := ⟨_, rfl⟩
  have hI : W0.heap[w.heap.size]? = some (.cells #[.int .u64 b.fl, .int .u64 b.e0, .int .u64 b.e1, .int .u64 b.e2, .int .u64 b.e3, .int .u64 b.e4, .int .u64 b.e5, .int .u64 b.tm, .int .u64 b.sq, .int .u64 b.lf, .slice ba b.bl.length bc, .slice pa b.py.length pc] 36 (0, 0)) := by rw [hW0]; exact (two_new w _ _).1
  have hR : W0.heap[w.heap.size + 1]? = some (.cells #[.int .u64 0, .int .u64 0, .int .u64 0, .int .u64 0, .int .u64 0, .int .u64 0, .int .u64 0, .int .u64 0, .int .u64 0, .int .u64 0, .slice none 0 0, .slice none 0 0] 36 (0, 0)) := by rw [hW0]; exact (two_new w _ _).2
  have hb0 : Below w.heap.size w W0 := by rw [hW0]; exact al (al (Below.refl _ _) _) _
  have hIs : w.heap.size + 2 ≤ W0.heap.size := by rw [hW0]; simp
  have hbn := h.ok.bn
  have hlb := h.lb
  go_enter Try.func31, Try.ntmps31
  go_wp2_with fail
  rw [← hW0]
  clear hW0
  refine (valid_any b ba bc pa pc W0 (h.below hb0)).mono ?_
  rintro e w1 ⟨⟨n, rfl, hv⟩, hb1⟩
  have HV : Hid (ValidIs b n) := hv
  clear hv
  have hI1 := box_on hI hb1
  have hR1 := box_on hR hb1
  have hbw := below_next hb0 hb1
  clear hI hR
  obtain ⟨r0, r1, r2, r3, r4, r5, r6, r7, r8, r9, r10, r11, g0, g1, g2, g3, g4, g5, g6, g7, g8, g9, g10, g11⟩ := cells12 hR1
  by_cases h0 : n = 0
  rotate_left
  · go_wp2
    have hfin := heap_set12 (v0 := .int .u64 0) (v1 := .int .u64 0) (v2 := .int .u64 0) (v3 := .int .u64 0) (v4 := .int .u64 0) (v5 := .int .u64 0) (v6 := .int .u64 0) (v7 := .int .u64 0) (v8 := .int .u64 0) (v9 := .int .u64 0) (v10 := .slice none 0 0) (v11 := .slice none 0 0) hR1
    refine bodyPost_ret (results_ct rfl _ _ (w.heap.size + 1) 36 _ (0, 0) _ rfl hfin Try.underlying36 rfl (by kernel_rfl)) rfl ?_
    exact ⟨⟨zeroB, none, 0, none, 0, n, rfl, .inl ⟨HV.out, h0, rfl⟩, zeroB_R _, fun q hq => by cases hq⟩, below_set12 hbw (by simp)⟩

  subst h0
  clear r0 r1 r2 r3 r4 r5 r6 r7 r8 r9 r10 r11 g0 g1 g2 g3 g4 g5 g6 g7 g8 g9 g10 g11
  have HG : Hid (GoodB b) := by
    rcases HV.out with ⟨_, h⟩ | ⟨h, _⟩
    · cases h
    · exact h
  obtain ⟨i0, i1, i2, i3, i4, i5, i6, i7, i8, i9, i10, i11, -⟩ := cells12 hI1
  go_wp2_with fail
  refine (place_any ba bc b.bl 10 w1 (h.rb.below hbw) hlb (by omega)).mono ?_
  rintro e w2 ⟨rfl, hb2⟩
  have hbw := below_next hbw hb2
  have hI2 := box_on hI1 hb2
  have hR2 := box_on hR1 hb2
  clear i0 i1 i2 i3 i4 i5 i6 i7 i8 i9 i10 i11 hI1 hR1
  obtain ⟨r0, r1, r2, r3, r4, r5, r6, r7, r8, r9, r10, r11, g0, g1, g2, g3, g4, g5, g6, g7, g8, g9, g10, g11⟩ := cells12 hR2
  rcases placeS_cases b.bl 10 with ⟨hp, -⟩ | ⟨k, hk, hp, htk, -⟩
  · rw [hp]
    go_wp2
    have hfin := heap_set12 (v0 := .int .u64 0) (v1 := .int .u64 0) (v2 := .int .u64 0) (v3 := .int .u64 0) (v4 := .int .u64 0) (v5 := .int .u64 0) (v6 := .int .u64 0) (v7 := .int .u64 0) (v8 := .int .u64 0) (v9 := .int .u64 0) (v10 := .slice none 0 0) (v11 := .slice none 0 0) hR2
    refine bodyPost_ret (results_ct rfl _ _ (w.heap.size + 1) 36 _ (0, 0) _ rfl hfin Try.underlying36 rfl (by kernel_rfl)) rfl ?_
    exact ⟨⟨zeroB, none, 0, none, 0, 4, rfl, .inr (.inl ⟨HV.out, hp, rfl, rfl⟩), zeroB_R _, fun q hq => by cases hq⟩, below_set12 hbw (by simp)⟩

  rw [hp]
  clear r0 r1 r2 r3 r4 r5 r6 r7 r8 r9 r10 r11 g0 g1 g2 g3 g4 g5 g6 g7 g8 g9 g10 g11
  obtain ⟨i0, i1, i2, i3, i4, i5, i6, i7, i8, i9, i10, i11, -⟩ := cells12 hI2
  have HRB : Hid (BunR w2 b ba bc pa pc) := h.below hbw
  obtain ⟨b1, o1, rfl, hx⟩ := h.rb.at k hk
  obtain ⟨a, c, c0, c1, c2, c3, hr, hlc, hn⟩ := hx.below hbw
  have hd64 : b.bl[k].d.length ≤ 64 := HG.out.bl.data (List.getElem_mem hk)
  have HDS : Hid (dataS b.bl[k].t b.bl[k].d = true) := by
    have := HG.out.bl.2 k hk
    unfold blkS at this
    simp only [Bool.and_eq_true] at this
    exact this.2.2.2
  go_wp2_with fail
  refine (hopClo_any a c b.bl[k].d w2 hr hn (by omega)).mono ?_
  rintro e w3 ⟨⟨v3, n3, ds, rfl, hown3, hcase⟩, hb3⟩
  have hbw := below_next hbw hb3
  have hI3 := box_on hI2 hb3
  have hR3 := box_on hR2 hb3
  clear i0 i1 i2 i3 i4 i5 i6 i7 i8 i9 i10 i11 hI2 hR2 c0 c1 c2 c3
  obtain ⟨r0, r1, r2, r3, r4, r5, r6, r7, r8, r9, r10, r11, g0, g1, g2, g3, g4, g5, g6, g7, g8, g9, g10, g11⟩ := cells12 hR3
  rcases hcase with ⟨hT, rfl, rfl⟩ | ⟨hT, rfl⟩
  · have HT : Hid _ := hT
    clear hT
    go_wp2
    have hfin := heap_set12 (v0 := .int .u64 0) (v1 := .int .u64 0) (v2 := .int .u64 0) (v3 := .int .u64 0) (v4 := .int .u64 0) (v5 := .int .u64 0) (v6 := .int .u64 0) (v7 := .int .u64 0) (v8 := .int .u64 0) (v9 := .int .u64 0) (v10 := .slice none 0 0) (v11 := .slice none 0 0) hR3
    refine bodyPost_ret (results_ct rfl _ _ (w.heap.size + 1) 36 _ (0, 0) _ rfl hfin Try.underlying36 rfl (by kernel_rfl)) rfl ?_
    exact ⟨⟨zeroB, none, 0, none, 0, 6, rfl, .inr (.inr (.inl ⟨HV.out, k, hk, hp, HT.out, rfl, rfl⟩)), zeroB_R _, fun q hq => by cases hq⟩, below_set12 hbw (by simp)⟩

  have HT : Hid _ := hT
  clear hT r0 r1 r2 r3 r4 r5 r6 r7 r8 r9 r10 r11 g0 g1 g2 g3 g4 g5 g6 g7 g8 g9 g10 g11
  have HOK : Hid (dataS b.bl[k].t ds = true) := by
    unfold Hid
    rw [htk]
    have h1 := HDS.out
    rw [htk] at h1
    exact hopTurn_ok h1 HT.out
  have HD64 : Hid (ds.length ≤ 64) := by have := HOK.out; unfold dataS at this; simp at this; exact this.1
  obtain ⟨i0, i1, i2, i3, i4, i5, i6, i7, i8, i9, i10, i11, -⟩ := cells12 hI3
  obtain ⟨a3, c3, hv3, hlc3, -, hn3, hrd3, hbk3⟩ := hown3.val
  obtain ⟨m3, hm3⟩ : ∃ m3, m3 = ds.length := ⟨_, rfl⟩
  rw [← hm3] at hv3
  subst hv3
  have HM3 : Hid (m3 = ds.length) := hm3
  clear hown3 hm3
  go_wp2_with fail
  refine (cloneB_any b _ bc pa pc w3 (HRB.out.below hb3)).mono ?_
  rintro e w4 ⟨Q, a4, c4, C, rfl, hQ, hQh, hCs, hblk, hownp, hpq, hb4⟩
  unfold bunV
  have hbw := below_next hbw hb4
  have hR4 := box_on hR3 hb4
  clear i0 i1 i2 i3 i4 i5 i6 i7 i8 i9 i10 i11 hI3 hR3
  have hQl : Q < w4.heap.size := (Array.getElem?_eq_some_iff.1 hQh).1
  obtain ⟨u0, u1, u2, u3, s0, s1, s2, s3, z0, z1, z2, z3⟩ := row4 hQh hCs hk
  obtain ⟨W4, hW4⟩ : ∃ W4 : World, W4 = w4.setCell ⟨Q, k * 4 + 3, none⟩ (.slice a3 m3 c3) := ⟨_, rfl⟩
  have hg4 : w4.grownBy W4 (some Q) := by rw [hW4]; exact gr_set (World.grownBy.refl _ _) _ _
  have HS4 : Hid (W4.heap.size = w4.heap.size) := by unfold Hid; rw [hW4]; simp
  obtain ⟨W5, hW5⟩ : ∃ W5 : World, W5 = W4.alloc (.cells #[.int .u64 b.fl, .int .u64 b.e0, .int .u64 b.e1, .int .u64 b.e2, .int .u64 b.e3, .int .u64 b.e4, .int .u64 b.e5, .int .u64 b.tm, .int .u64 b.sq, .int .u64 b.lf, .slice (some ⟨Q, 0, none⟩) b.bl.length b.bl.length, .slice a4 b.py.length c4] 36) := ⟨_, rfl⟩
  have hX5 : W5.heap[w4.heap.size]? = some (.cells #[.int .u64 b.fl, .int .u64 b.e0, .int .u64 b.e1, .int .u64 b.e2, .int .u64 b.e3, .int .u64 b.e4, .int .u64 b.e5, .int .u64 b.tm, .int .u64 b.sq, .int .u64 b.lf, .slice (some ⟨Q, 0, none⟩) b.bl.length b.bl.length, .slice a4 b.py.length c4] 36 (0, 0)) := by rw [hW5, ← HS4.out]; exact heap_alloc_new W4 _
  have hb5 : Below W4.heap.size W4 W5 := by rw [hW5]; exact al (Below.refl _ _) _
  have hsz3 := hb3.size
  have hsz2 := hb2.size
  have hsz1 := hb1.size
  have hsz4 := hb4.size
  have hR5 := box_on (gr_box hg4 (show w.heap.size + 1 ≠ Q by omega) hR4) hb5
  have hbw4 : Below w.heap.size w W4 := hbw.grown hg4 hbw.size (fun q hq => by cases hq; omega)
  have hbw5 : Below w.heap.size w W5 := below_next hbw4 hb5
  have HRB5 : Hid (BunR W5 (setD b k ds) (some ⟨Q, 0, none⟩) b.bl.length a4 c4) := by
    have h1 : RdBlks W4 (some ⟨Q, 0, none⟩) (setD b k ds).bl := by
      rw [hW4, HM3.out]
      refine row_setD (fun j hj => (hblk j hj).toE) hk (hrd3.below hb4) hlc3 hn3 (fun hp q hq => ?_)
      obtain ⟨bq, oq, e, hc⟩ := hrd3 hp
      have := World.block_lt_of_cell? w3 _ (hc 0 hp)
      rw [e] at hq
      cases hq
      simp at this ⊢
      omega
    obtain ⟨aq, cq, hv, hlcq, -, hnq, hrq, hbq⟩ := hownp.val
    simp only [Value.slice.injEq, true_and] at hv
    obtain ⟨rfl, rfl⟩ := hv
    exact ⟨h1.below hb5, (by rw [setD_len]; exact Nat.le_refl _), (fun e => by cases e), (hrq.grown hg4 (fun q hq => by have := hpq q hq; simp; omega)).below hb5, hlcq, hnq, HRB.out.ok.setD (by have := HD64.out; omega)⟩
  have HGD : Hid (GoodB (setD b k ds)) := HG.out.setD hk HOK.out
  have hfits : Calls Try.prog 44 #[.agg #[.int .u64 b.fl, .int .u64 b.e0, .int .u64 b.e1, .int .u64 b.e2, .int .u64 b.e3, .int .u64 b.e4, .int .u64 b.e5, .int .u64 b.tm, .int .u64 b.sq, .int .u64 b.lf, .slice (some ⟨Q, 0, none⟩) b.bl.length b.bl.length, .slice a4 b.py.length c4]] W5 fun e w' => e = .returned (.int .i64 (fitsS (setD b k ds))) ∧ Below W5.heap.size W5 w' := by
    have := fits_any (setD b k ds) (some ⟨Q, 0, none⟩) b.bl.length a4 c4 W5 HRB5.out HGD.out
    unfold bunV at this
    rw [setD_len] at this
    exact this
  clear hR4 s0 s1 s2 z0 z1 z2
  go_wp2_with fail
  rw [← hW4, ← hW5]
  clear s3 z3 hW4 hW5
  refine hfits.mono ?_
  rintro e w6 ⟨rfl, hb6⟩
  have hbw := below_next hbw5 hb6
  have hX6 := box_on hX5 hb6
  have hR6 := box_on hR5 hb6
  obtain ⟨r0, r1, r2, r3, r4, r5, r6, r7, r8, r9, r10, r11, g0, g1, g2, g3, g4, g5, g6, g7, g8, g9, g10, g11⟩ := cells12 hR6
  obtain ⟨n6, hn6⟩ : ∃ n6, n6 = fitsS (setD b k ds) := ⟨_, rfl⟩
  rw [← hn6]
  have HN6 : Hid (n6 = fitsS (setD b k ds)) := hn6
  clear hn6 hX5 hR5 hQh hblk hownp
  by_cases h6 : n6 = 0
  rotate_left
  · go_wp2
    have hfin := heap_set12 (v0 := .int .u64 0) (v1 := .int .u64 0) (v2 := .int .u64 0) (v3 := .int .u64 0) (v4 := .int .u64 0) (v5 := .int .u64 0) (v6 := .int .u64 0) (v7 := .int .u64 0) (v8 := .int .u64 0) (v9 := .int .u64 0) (v10 := .slice none 0 0) (v11 := .slice none 0 0) hR6
    refine bodyPost_ret (results_ct rfl _ _ (w.heap.size + 1) 36 _ (0, 0) _ rfl hfin Try.underlying36 rfl (by kernel_rfl)) rfl ?_
    exact ⟨⟨zeroB, none, 0, none, 0, n6, rfl, .inr (.inr (.inr ⟨HV.out, k, hk, hp, ds, HT.out, HN6.out, by rw [if_neg h6]⟩)), zeroB_R _, fun q hq => by cases hq⟩, below_set12 hbw (by simp)⟩

  subst h6
  obtain ⟨i0, i1, i2, i3, i4, i5, i6, i7, i8, i9, i10, i11, -⟩ := cells12 hX6
  go_wp2
  have hfin := heap_set12 (v0 := .int .u64 b.fl) (v1 := .int .u64 b.e0) (v2 := .int .u64 b.e1) (v3 := .int .u64 b.e2) (v4 := .int .u64 b.e3) (v5 := .int .u64 b.e4) (v6 := .int .u64 b.e5) (v7 := .int .u64 b.tm) (v8 := .int .u64 b.sq) (v9 := .int .u64 b.lf) (v10 := .slice (some ⟨Q, 0, none⟩) b.bl.length b.bl.length) (v11 := .slice a4 b.py.length c4) hR6
  refine bodyPost_ret (results_ct rfl _ _ (w.heap.size + 1) 36 _ (0, 0) _ rfl hfin Try.underlying36 rfl (by kernel_rfl)) rfl ?_
  exact ⟨⟨setD b k ds, some ⟨Q, 0, none⟩, b.bl.length, a4, c4, 0, by unfold bunV; rw [setD_len]; rfl, .inr (.inr (.inr ⟨HV.out, k, hk, hp, ds, HT.out, HN6.out, by rw [if_pos rfl]⟩)), (HRB5.out.below hb6).far gr_set12 (fun q hq => by cases hq; simp; omega) (no8 hR6), fun q hq => by cases hq; simp; omega⟩, below_set12 hbw (by omega)⟩
set_option maxRecDepth 20000 in
set_option maxHeartbeats 1600000 in
theorem turnedA_any (b : Bun) (ba : Option Addr) (bc : Nat) (pa : Option Addr) (pc : Nat) (t g : Nat) (w : World) (h : BunR w b ba bc pa pc) (ht : t < 18446744073709551616) (hg : w.cell? ⟨g, 0, none⟩ = some (.int .u64 t)) :
    Calls Try.prog 31 #[bunV b ba bc pa pc, .int .u64 7, .func (.func 34) #[] #[.pointer (some ⟨g, 0, none⟩)]] w fun e w' => TurnOut w w' b 7 (ageTurn t) e ∧ Below w.heap.size w w' := by
  unfold bunV
  obtain ⟨W0, hW0⟩ : ∃ W0 : World, W0 = (w.alloc (.cells #[.int .u64 b.fl, .int .u64 b.e0, .int .u64 b.e1, .int .u64 b.e2, .int .u64 b.e3, .int .u64 b.e4, .int .u64 b.e5, .int .u64 b.tm, .int .u64 b.sq, .int .u64 b.lf, .slice ba b.bl.length bc, .slice pa b.py.length pc] 36)).alloc (.cells #[.int .u64 0, .int .u64 0, .int .u64 0, .int .u64 0, .int .u64 0, .int .u64 0, .int .u64 0, .int .u64 0, .int .u64 0, .int .u64 0, .slice none 0 0, .slice none 0 0] 36) := ⟨_, rfl⟩
  have hI : W0.heap[w.heap.size]? = some (.cells #[.int .u64 b.fl, .int .u64 b.e0, .int .u64 b.e1, .int .u64 b.e2, .int .u64 b.e3, .int .u64 b.e4, .int .u64 b.e5, .int .u64 b.tm, .int .u64 b.sq, .int .u64 b.lf, .slice ba b.bl.length bc, .slice pa b.py.length pc] 36 (0, 0)) := by rw [hW0]; exact (two_new w _ _).1
  have hR : W0.heap[w.heap.size + 1]? = some (.cells #[.int .u64 0, .int .u64 0, .int .u64 0, .int .u64 0, .int .u64 0, .int .u64 0, .int .u64 0, .int .u64 0, .int .u64 0, .int .u64 0, .slice none 0 0, .slice none 0 0] 36 (0, 0)) := by rw [hW0]; exact (two_new w _ _).2
  have hb0 : Below w.heap.size w W0 := by rw [hW0]; exact al (al (Below.refl _ _) _) _
  have hIs : w.heap.size + 2 ≤ W0.heap.size := by rw [hW0]; simp
  have hbn := h.ok.bn
  have hlb := h.lb
  go_enter Try.func31, Try.ntmps31
  go_wp2_with fail
  rw [← hW0]
  clear hW0
  refine (valid_any b ba bc pa pc W0 (h.below hb0)).mono ?_
  rintro e w1 ⟨⟨n, rfl, hv⟩, hb1⟩
  have HV : Hid (ValidIs b n) := hv
  clear hv
  have hI1 := box_on hI hb1
  have hR1 := box_on hR hb1
  have hbw := below_next hb0 hb1
  clear hI hR
  obtain ⟨r0, r1, r2, r3, r4, r5, r6, r7, r8, r9, r10, r11, g0, g1, g2, g3, g4, g5, g6, g7, g8, g9, g10, g11⟩ := cells12 hR1
  by_cases h0 : n = 0
  rotate_left
  · go_wp2
    have hfin := heap_set12 (v0 := .int .u64 0) (v1 := .int .u64 0) (v2 := .int .u64 0) (v3 := .int .u64 0) (v4 := .int .u64 0) (v5 := .int .u64 0) (v6 := .int .u64 0) (v7 := .int .u64 0) (v8 := .int .u64 0) (v9 := .int .u64 0) (v10 := .slice none 0 0) (v11 := .slice none 0 0) hR1
    refine bodyPost_ret (results_ct rfl _ _ (w.heap.size + 1) 36 _ (0, 0) _ rfl hfin Try.underlying36 rfl (by kernel_rfl)) rfl ?_
    exact ⟨⟨zeroB, none, 0, none, 0, n, rfl, .inl ⟨HV.out, h0, rfl⟩, zeroB_R _, fun q hq => by cases hq⟩, below_set12 hbw (by simp)⟩

  subst h0
  clear r0 r1 r2 r3 r4 r5 r6 r7 r8 r9 r10 r11 g0 g1 g2 g3 g4 g5 g6 g7 g8 g9 g10 g11
  have HG : Hid (GoodB b) := by
    rcases HV.out with ⟨_, h⟩ | ⟨h, _⟩
    · cases h
    · exact h
  obtain ⟨i0, i1, i2, i3, i4, i5, i6, i7, i8, i9, i10, i11, -⟩ := cells12 hI1
  go_wp2_with fail
  refine (place_any ba bc b.bl 7 w1 (h.rb.below hbw) hlb (by omega)).mono ?_
  rintro e w2 ⟨rfl, hb2⟩
  have hbw := below_next hbw hb2
  have hI2 := box_on hI1 hb2
  have hR2 := box_on hR1 hb2
  clear i0 i1 i2 i3 i4 i5 i6 i7 i8 i9 i10 i11 hI1 hR1
  obtain ⟨r0, r1, r2, r3, r4, r5, r6, r7, r8, r9, r10, r11, g0, g1, g2, g3, g4, g5, g6, g7, g8, g9, g10, g11⟩ := cells12 hR2
  rcases placeS_cases b.bl 7 with ⟨hp, -⟩ | ⟨k, hk, hp, htk, -⟩
  · rw [hp]
    go_wp2
    have hfin := heap_set12 (v0 := .int .u64 0) (v1 := .int .u64 0) (v2 := .int .u64 0) (v3 := .int .u64 0) (v4 := .int .u64 0) (v5 := .int .u64 0) (v6 := .int .u64 0) (v7 := .int .u64 0) (v8 := .int .u64 0) (v9 := .int .u64 0) (v10 := .slice none 0 0) (v11 := .slice none 0 0) hR2
    refine bodyPost_ret (results_ct rfl _ _ (w.heap.size + 1) 36 _ (0, 0) _ rfl hfin Try.underlying36 rfl (by kernel_rfl)) rfl ?_
    exact ⟨⟨zeroB, none, 0, none, 0, 4, rfl, .inr (.inl ⟨HV.out, hp, rfl, rfl⟩), zeroB_R _, fun q hq => by cases hq⟩, below_set12 hbw (by simp)⟩

  rw [hp]
  clear r0 r1 r2 r3 r4 r5 r6 r7 r8 r9 r10 r11 g0 g1 g2 g3 g4 g5 g6 g7 g8 g9 g10 g11
  obtain ⟨i0, i1, i2, i3, i4, i5, i6, i7, i8, i9, i10, i11, -⟩ := cells12 hI2
  have HRB : Hid (BunR w2 b ba bc pa pc) := h.below hbw
  obtain ⟨b1, o1, rfl, hx⟩ := h.rb.at k hk
  obtain ⟨a, c, c0, c1, c2, c3, hr, hlc, hn⟩ := hx.below hbw
  have hd64 : b.bl[k].d.length ≤ 64 := HG.out.bl.data (List.getElem_mem hk)
  have HDS : Hid (dataS b.bl[k].t b.bl[k].d = true) := by
    have := HG.out.bl.2 k hk
    unfold blkS at this
    simp only [Bool.and_eq_true] at this
    exact this.2.2.2
  go_wp2_with fail
  refine (ageClo_any a c b.bl[k].d t g w2 hr hn (by omega) ht (cell_on hbw hg)).mono ?_
  rintro e w3 ⟨⟨v3, n3, ds, rfl, hown3, hcase⟩, hb3⟩
  have hbw := below_next hbw hb3
  have hI3 := box_on hI2 hb3
  have hR3 := box_on hR2 hb3
  clear i0 i1 i2 i3 i4 i5 i6 i7 i8 i9 i10 i11 hI2 hR2 c0 c1 c2 c3
  obtain ⟨r0, r1, r2, r3, r4, r5, r6, r7, r8, r9, r10, r11, g0, g1, g2, g3, g4, g5, g6, g7, g8, g9, g10, g11⟩ := cells12 hR3
  rcases hcase with ⟨hT, rfl, rfl⟩ | ⟨hT, rfl⟩
  · have HT : Hid _ := hT
    clear hT
    go_wp2
    have hfin := heap_set12 (v0 := .int .u64 0) (v1 := .int .u64 0) (v2 := .int .u64 0) (v3 := .int .u64 0) (v4 := .int .u64 0) (v5 := .int .u64 0) (v6 := .int .u64 0) (v7 := .int .u64 0) (v8 := .int .u64 0) (v9 := .int .u64 0) (v10 := .slice none 0 0) (v11 := .slice none 0 0) hR3
    refine bodyPost_ret (results_ct rfl _ _ (w.heap.size + 1) 36 _ (0, 0) _ rfl hfin Try.underlying36 rfl (by kernel_rfl)) rfl ?_
    exact ⟨⟨zeroB, none, 0, none, 0, 6, rfl, .inr (.inr (.inl ⟨HV.out, k, hk, hp, HT.out, rfl, rfl⟩)), zeroB_R _, fun q hq => by cases hq⟩, below_set12 hbw (by simp)⟩

  have HT : Hid _ := hT
  clear hT r0 r1 r2 r3 r4 r5 r6 r7 r8 r9 r10 r11 g0 g1 g2 g3 g4 g5 g6 g7 g8 g9 g10 g11
  have HOK : Hid (dataS b.bl[k].t ds = true) := by
    unfold Hid
    rw [htk]
    have h1 := HDS.out
    rw [htk] at h1
    exact ageTurn_ok HT.out
  have HD64 : Hid (ds.length ≤ 64) := by have := HOK.out; unfold dataS at this; simp at this; exact this.1
  obtain ⟨i0, i1, i2, i3, i4, i5, i6, i7, i8, i9, i10, i11, -⟩ := cells12 hI3
  obtain ⟨a3, c3, hv3, hlc3, -, hn3, hrd3, hbk3⟩ := hown3.val
  obtain ⟨m3, hm3⟩ : ∃ m3, m3 = ds.length := ⟨_, rfl⟩
  rw [← hm3] at hv3
  subst hv3
  have HM3 : Hid (m3 = ds.length) := hm3
  clear hown3 hm3
  go_wp2_with fail
  refine (cloneB_any b _ bc pa pc w3 (HRB.out.below hb3)).mono ?_
  rintro e w4 ⟨Q, a4, c4, C, rfl, hQ, hQh, hCs, hblk, hownp, hpq, hb4⟩
  unfold bunV
  have hbw := below_next hbw hb4
  have hR4 := box_on hR3 hb4
  clear i0 i1 i2 i3 i4 i5 i6 i7 i8 i9 i10 i11 hI3 hR3
  have hQl : Q < w4.heap.size := (Array.getElem?_eq_some_iff.1 hQh).1
  obtain ⟨u0, u1, u2, u3, s0, s1, s2, s3, z0, z1, z2, z3⟩ := row4 hQh hCs hk
  obtain ⟨W4, hW4⟩ : ∃ W4 : World, W4 = w4.setCell ⟨Q, k * 4 + 3, none⟩ (.slice a3 m3 c3) := ⟨_, rfl⟩
  have hg4 : w4.grownBy W4 (some Q) := by rw [hW4]; exact gr_set (World.grownBy.refl _ _) _ _
  have HS4 : Hid (W4.heap.size = w4.heap.size) := by unfold Hid; rw [hW4]; simp
  obtain ⟨W5, hW5⟩ : ∃ W5 : World, W5 = W4.alloc (.cells #[.int .u64 b.fl, .int .u64 b.e0, .int .u64 b.e1, .int .u64 b.e2, .int .u64 b.e3, .int .u64 b.e4, .int .u64 b.e5, .int .u64 b.tm, .int .u64 b.sq, .int .u64 b.lf, .slice (some ⟨Q, 0, none⟩) b.bl.length b.bl.length, .slice a4 b.py.length c4] 36) := ⟨_, rfl⟩
  have hX5 : W5.heap[w4.heap.size]? = some (.cells #[.int .u64 b.fl, .int .u64 b.e0, .int .u64 b.e1, .int .u64 b.e2, .int .u64 b.e3, .int .u64 b.e4, .int .u64 b.e5, .int .u64 b.tm, .int .u64 b.sq, .int .u64 b.lf, .slice (some ⟨Q, 0, none⟩) b.bl.length b.bl.length, .slice a4 b.py.length c4] 36 (0, 0)) := by rw [hW5, ← HS4.out]; exact heap_alloc_new W4 _
  have hb5 : Below W4.heap.size W4 W5 := by rw [hW5]; exact al (Below.refl _ _) _
  have hsz3 := hb3.size
  have hsz2 := hb2.size
  have hsz1 := hb1.size
  have hsz4 := hb4.size
  have hR5 := box_on (gr_box hg4 (show w.heap.size + 1 ≠ Q by omega) hR4) hb5
  have hbw4 : Below w.heap.size w W4 := hbw.grown hg4 hbw.size (fun q hq => by cases hq; omega)
  have hbw5 : Below w.heap.size w W5 := below_next hbw4 hb5
  have HRB5 : Hid (BunR W5 (setD b k ds) (some ⟨Q, 0, none⟩) b.bl.length a4 c4) := by
    have h1 : RdBlks W4 (some ⟨Q, 0, none⟩) (setD b k ds).bl := by
      rw [hW4, HM3.out]
      refine row_setD (fun j hj => (hblk j hj).toE) hk (hrd3.below hb4) hlc3 hn3 (fun hp q hq => ?_)
      obtain ⟨bq, oq, e, hc⟩ := hrd3 hp
      have := World.block_lt_of_cell? w3 _ (hc 0 hp)
      rw [e] at hq
      cases hq
      simp at this ⊢
      omega
    obtain ⟨aq, cq, hv, hlcq, -, hnq, hrq, hbq⟩ := hownp.val
    simp only [Value.slice.injEq, true_and] at hv
    obtain ⟨rfl, rfl⟩ := hv
    exact ⟨h1.below hb5, (by rw [setD_len]; exact Nat.le_refl _), (fun e => by cases e), (hrq.grown hg4 (fun q hq => by have := hpq q hq; simp; omega)).below hb5, hlcq, hnq, HRB.out.ok.setD (by have := HD64.out; omega)⟩
  have HGD : Hid (GoodB (setD b k ds)) := HG.out.setD hk HOK.out
  have hfits : Calls Try.prog 44 #[.agg #[.int .u64 b.fl, .int .u64 b.e0, .int .u64 b.e1, .int .u64 b.e2, .int .u64 b.e3, .int .u64 b.e4, .int .u64 b.e5, .int .u64 b.tm, .int .u64 b.sq, .int .u64 b.lf, .slice (some ⟨Q, 0, none⟩) b.bl.length b.bl.length, .slice a4 b.py.length c4]] W5 fun e w' => e = .returned (.int .i64 (fitsS (setD b k ds))) ∧ Below W5.heap.size W5 w' := by
    have := fits_any (setD b k ds) (some ⟨Q, 0, none⟩) b.bl.length a4 c4 W5 HRB5.out HGD.out
    unfold bunV at this
    rw [setD_len] at this
    exact this
  clear hR4 s0 s1 s2 z0 z1 z2
  go_wp2_with fail
  rw [← hW4, ← hW5]
  clear s3 z3 hW4 hW5
  refine hfits.mono ?_
  rintro e w6 ⟨rfl, hb6⟩
  have hbw := below_next hbw5 hb6
  have hX6 := box_on hX5 hb6
  have hR6 := box_on hR5 hb6
  obtain ⟨r0, r1, r2, r3, r4, r5, r6, r7, r8, r9, r10, r11, g0, g1, g2, g3, g4, g5, g6, g7, g8, g9, g10, g11⟩ := cells12 hR6
  obtain ⟨n6, hn6⟩ : ∃ n6, n6 = fitsS (setD b k ds) := ⟨_, rfl⟩
  rw [← hn6]
  have HN6 : Hid (n6 = fitsS (setD b k ds)) := hn6
  clear hn6 hX5 hR5 hQh hblk hownp
  by_cases h6 : n6 = 0
  rotate_left
  · go_wp2
    have hfin := heap_set12 (v0 := .int .u64 0) (v1 := .int .u64 0) (v2 := .int .u64 0) (v3 := .int .u64 0) (v4 := .int .u64 0) (v5 := .int .u64 0) (v6 := .int .u64 0) (v7 := .int .u64 0) (v8 := .int .u64 0) (v9 := .int .u64 0) (v10 := .slice none 0 0) (v11 := .slice none 0 0) hR6
    refine bodyPost_ret (results_ct rfl _ _ (w.heap.size + 1) 36 _ (0, 0) _ rfl hfin Try.underlying36 rfl (by kernel_rfl)) rfl ?_
    exact ⟨⟨zeroB, none, 0, none, 0, n6, rfl, .inr (.inr (.inr ⟨HV.out, k, hk, hp, ds, HT.out, HN6.out, by rw [if_neg h6]⟩)), zeroB_R _, fun q hq => by cases hq⟩, below_set12 hbw (by simp)⟩

  subst h6
  obtain ⟨i0, i1, i2, i3, i4, i5, i6, i7, i8, i9, i10, i11, -⟩ := cells12 hX6
  go_wp2
  have hfin := heap_set12 (v0 := .int .u64 b.fl) (v1 := .int .u64 b.e0) (v2 := .int .u64 b.e1) (v3 := .int .u64 b.e2) (v4 := .int .u64 b.e3) (v5 := .int .u64 b.e4) (v6 := .int .u64 b.e5) (v7 := .int .u64 b.tm) (v8 := .int .u64 b.sq) (v9 := .int .u64 b.lf) (v10 := .slice (some ⟨Q, 0, none⟩) b.bl.length b.bl.length) (v11 := .slice a4 b.py.length c4) hR6
  refine bodyPost_ret (results_ct rfl _ _ (w.heap.size + 1) 36 _ (0, 0) _ rfl hfin Try.underlying36 rfl (by kernel_rfl)) rfl ?_
  exact ⟨⟨setD b k ds, some ⟨Q, 0, none⟩, b.bl.length, a4, c4, 0, by unfold bunV; rw [setD_len]; rfl, .inr (.inr (.inr ⟨HV.out, k, hk, hp, ds, HT.out, HN6.out, by rw [if_pos rfl]⟩)), (HRB5.out.below hb6).far gr_set12 (fun q hq => by cases hq; simp; omega) (no8 hR6), fun q hq => by cases hq; simp; omega⟩, below_set12 hbw (by omega)⟩
end Go.Proofs.Ytdpkommmkcmifab
