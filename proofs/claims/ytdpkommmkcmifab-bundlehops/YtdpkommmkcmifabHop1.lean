import Derived.Test.YtdpkommmkcmifabWithP
import Derived.Test.YtdpkommmkcmifabRPl
namespace Go.Proofs.Ytdpkommmkcmifab
set_option linter.unusedVariables false
set_option linter.unusedSimpArgs false
open Go.RowKit
theorem three_new (w : World) (o1 o2 o3 : Obj) : (((w.alloc o1).alloc o2).alloc o3).heap[w.heap.size]? = some o1 ∧ (((w.alloc o1).alloc o2).alloc o3).heap[w.heap.size + 1]? = some o2 ∧ (((w.alloc o1).alloc o2).alloc o3).heap[w.heap.size + 1 + 1]? = some o3 :=
  ⟨box_on (two_new w o1 o2).1 (al (Below.refl _ _) _), box_on (two_new w o1 o2).2 (al (Below.refl _ _) _), by have := heap_alloc_new ((w.alloc o1).alloc o2) o3; simpa using this⟩
set_option maxRecDepth 20000 in
set_option maxHeartbeats 800000 in
theorem hop_any (b : Bun) (ba : Option Addr) (bc : Nat) (pa : Option Addr) (pc : Nat) (w : World) (h : BunR w b ba bc pa pc) :
    Calls Try.prog 10 #[bunV b ba bc pa pc] w fun e w' => TurnOut w w' b 10 hopTurn e ∧ Below w.heap.size w w' := by
  unfold bunV
  obtain ⟨W0, hW0⟩ : ∃ W0 : World, W0 = (w.alloc (.cells #[.int .u64 b.fl, .int .u64 b.e0, .int .u64 b.e1, .int .u64 b.e2, .int .u64 b.e3, .int .u64 b.e4, .int .u64 b.e5, .int .u64 b.tm, .int .u64 b.sq, .int .u64 b.lf, .slice ba b.bl.length bc, .slice pa b.py.length pc] 36)).alloc (.cells #[.int .u64 0, .int .u64 0, .int .u64 0, .int .u64 0, .int .u64 0, .int .u64 0, .int .u64 0, .int .u64 0, .int .u64 0, .int .u64 0, .slice none 0 0, .slice none 0 0] 36) := ⟨_, rfl⟩
  have hR : W0.heap[w.heap.size + 1]? = some (.cells #[.int .u64 0, .int .u64 0, .int .u64 0, .int .u64 0, .int .u64 0, .int .u64 0, .int .u64 0, .int .u64 0, .int .u64 0, .int .u64 0, .slice none 0 0, .slice none 0 0] 36 (0, 0)) := by rw [hW0]; exact (two_new w _ _).2
  have hb0 : Below w.heap.size w W0 := by rw [hW0]; exact al (al (Below.refl _ _) _) _
  have hIs : w.heap.size + 2 ≤ W0.heap.size := by rw [hW0]; simp
  go_enter Try.func10, Try.ntmps10
  go_wp2_with fail
  rw [← hW0]
  clear hW0
  refine (turnedH_any b ba bc pa pc W0 (h.below hb0)).mono ?_
  rintro e w1 ⟨⟨o, a, c, p, d, n, rfl, ht, hO, hfr⟩, hb1⟩
  have HO : Hid (BunR w1 o a c p d) := hO
  have HT : Hid (TurnIs b 10 hopTurn o n) := ht
  have HF : Hid (∀ q, a = some q → W0.heap.size ≤ q.block) := hfr
  clear hO ht hfr
  have hR1 := box_on hR hb1
  obtain ⟨r0, r1, r2, r3, r4, r5, r6, r7, r8, r9, r10, r11, g0, g1, g2, g3, g4, g5, g6, g7, g8, g9, g10, g11⟩ := cells12 hR1
  unfold bunV
  go_wp2
  have hfin := heap_set12 (v0 := .int .u64 o.fl) (v1 := .int .u64 o.e0) (v2 := .int .u64 o.e1) (v3 := .int .u64 o.e2) (v4 := .int .u64 o.e3) (v5 := .int .u64 o.e4) (v6 := .int .u64 o.e5) (v7 := .int .u64 o.tm) (v8 := .int .u64 o.sq) (v9 := .int .u64 o.lf) (v10 := .slice a o.bl.length c) (v11 := .slice p o.py.length d) hR1
  refine bodyPost_ret (results_ct rfl _ _ (w.heap.size + 1) 36 _ (0, 0) _ rfl hfin Try.underlying36 rfl (by kernel_rfl)) rfl ?_
  exact ⟨⟨o, a, c, p, d, n, rfl, HT.out, HO.out.far gr_set12 (fun q hq => by have := HF.out q hq; omega) (no8 hR1), fun q hq => by have := HF.out q hq; omega⟩, below_set12 (below_next hb0 hb1) (by simp)⟩
set_option maxRecDepth 20000 in
set_option maxHeartbeats 800000 in
theorem aged_any (b : Bun) (ba : Option Addr) (bc : Nat) (pa : Option Addr) (pc : Nat) (t : Nat) (w : World) (h : BunR w b ba bc pa pc) (ht : t < 18446744073709551616) :
    Calls Try.prog 11 #[bunV b ba bc pa pc, .int .u64 t] w fun e w' => TurnOut w w' b 7 (ageTurn t) e ∧ Below w.heap.size w w' := by
  unfold bunV
  obtain ⟨W0, hW0⟩ : ∃ W0 : World, W0 = ((w.alloc (.cells #[.int .u64 b.fl, .int .u64 b.e0, .int .u64 b.e1, .int .u64 b.e2, .int .u64 b.e3, .int .u64 b.e4, .int .u64 b.e5, .int .u64 b.tm, .int .u64 b.sq, .int .u64 b.lf, .slice ba b.bl.length bc, .slice pa b.py.length pc] 36)).alloc (.cells #[.int .u64 t] 22)).alloc (.cells #[.int .u64 0, .int .u64 0, .int .u64 0, .int .u64 0, .int .u64 0, .int .u64 0, .int .u64 0, .int .u64 0, .int .u64 0, .int .u64 0, .slice none 0 0, .slice none 0 0] 36) := ⟨_, rfl⟩
  have hR : W0.heap[w.heap.size + 1 + 1]? = some (.cells #[.int .u64 0, .int .u64 0, .int .u64 0, .int .u64 0, .int .u64 0, .int .u64 0, .int .u64 0, .int .u64 0, .int .u64 0, .int .u64 0, .slice none 0 0, .slice none 0 0] 36 (0, 0)) := by rw [hW0]; exact (three_new w _ _ _).2.2
  have hT : W0.cell? ⟨w.heap.size + 1, 0, none⟩ = some (.int .u64 t) := by rw [cell_of_row W0 _ 0 _ _ _ (show W0.heap[w.heap.size + 1]? = some (.cells #[.int .u64 t] 22 (0, 0)) by rw [hW0]; exact (three_new w _ _ _).2.1)]; rfl
  have hb0 : Below w.heap.size w W0 := by rw [hW0]; exact al (al (al (Below.refl _ _) _) _) _
  have hIs : w.heap.size + 3 ≤ W0.heap.size := by rw [hW0]; simp
  have HT0 : Hid (W0.cell? ⟨w.heap.size + 1, 0, none⟩ = some (.int .u64 t)) := hT
  clear hT
  go_enter Try.func11, Try.ntmps11
  go_wp2_with fail
  rw [← hW0]
  clear hW0
  refine (turnedA_any b ba bc pa pc t (w.heap.size + 1) W0 (h.below hb0) ht HT0.out).mono ?_
  rintro e w1 ⟨⟨o, a, c, p, d, n, rfl, ht, hO, hfr⟩, hb1⟩
  have HO : Hid (BunR w1 o a c p d) := hO
  have HT : Hid (TurnIs b 7 (ageTurn t) o n) := ht
  have HF : Hid (∀ q, a = some q → W0.heap.size ≤ q.block) := hfr
  clear hO ht hfr
  have hR1 := box_on hR hb1
  obtain ⟨r0, r1, r2, r3, r4, r5, r6, r7, r8, r9, r10, r11, g0, g1, g2, g3, g4, g5, g6, g7, g8, g9, g10, g11⟩ := cells12 hR1
  unfold bunV
  go_wp2
  have hfin := heap_set12 (v0 := .int .u64 o.fl) (v1 := .int .u64 o.e0) (v2 := .int .u64 o.e1) (v3 := .int .u64 o.e2) (v4 := .int .u64 o.e3) (v5 := .int .u64 o.e4) (v6 := .int .u64 o.e5) (v7 := .int .u64 o.tm) (v8 := .int .u64 o.sq) (v9 := .int .u64 o.lf) (v10 := .slice a o.bl.length c) (v11 := .slice p o.py.length d) hR1
  refine bodyPost_ret (results_ct rfl _ _ (w.heap.size + 1 + 1) 36 _ (0, 0) _ rfl hfin Try.underlying36 rfl (by kernel_rfl)) rfl ?_
  exact ⟨⟨o, a, c, p, d, n, rfl, HT.out, HO.out.far gr_set12 (fun q hq => by have := HF.out q hq; omega) (no8 hR1), fun q hq => by have := HF.out q hq; omega⟩, below_set12 (below_next hb0 hb1) (by omega)⟩
/-- what the document's with answers, with its memory -/
def WithOut (w w' : World) (b : Bun) (e : Ending) : Prop :=
  ∃ o a c p d n, e = .returned (.tuple #[bunV o a c p d, .int .i64 n]) ∧ ((ValidIs b n ∧ n ≠ 0 ∧ o = zeroB) ∨ (ValidIs b 0 ∧ n = 0 ∧ o = b)) ∧ BunR w' o a c p d ∧ ∀ q, a = some q → w.heap.size ≤ q.block
set_option maxRecDepth 20000 in
set_option maxHeartbeats 1600000 in
theorem with_any (b : Bun) (ba : Option Addr) (bc : Nat) (pa : Option Addr) (pc : Nat) (k : Nat) (da : Option Addr) (dc : Nat) (ds : List UInt8) (m : Nat) (w : World) (h : BunR w b ba bc pa pc) (hk : k < b.bl.length) (hd : Rd w da ds) (hdl : ds.length ≤ dc) (hdn : da = none → dc = 0) (hd64 : ds.length ≤ 64) (hm : m = ds.length) :
    Calls Try.prog 50 #[bunV b ba bc pa pc, .int .i64 k, .slice da m dc] w fun e w' => WithOut w w' (setD b k ds) e ∧ Below w.heap.size w w' := by
  unfold bunV
  obtain ⟨W0, hW0⟩ : ∃ W0 : World, W0 = (w.alloc (.cells #[.int .u64 b.fl, .int .u64 b.e0, .int .u64 b.e1, .int .u64 b.e2, .int .u64 b.e3, .int .u64 b.e4, .int .u64 b.e5, .int .u64 b.tm, .int .u64 b.sq, .int .u64 b.lf, .slice ba b.bl.length bc, .slice pa b.py.length pc] 57)).alloc (.cells #[.int .u64 0, .int .u64 0, .int .u64 0, .int .u64 0, .int .u64 0, .int .u64 0, .int .u64 0, .int .u64 0, .int .u64 0, .int .u64 0, .slice none 0 0, .slice none 0 0] 57) := ⟨_, rfl⟩
  have hI : W0.heap[w.heap.size]? = some (.cells #[.int .u64 b.fl, .int .u64 b.e0, .int .u64 b.e1, .int .u64 b.e2, .int .u64 b.e3, .int .u64 b.e4, .int .u64 b.e5, .int .u64 b.tm, .int .u64 b.sq, .int .u64 b.lf, .slice ba b.bl.length bc, .slice pa b.py.length pc] 57 (0, 0)) := by rw [hW0]; exact (two_new w _ _).1
  have hR : W0.heap[w.heap.size + 1]? = some (.cells #[.int .u64 0, .int .u64 0, .int .u64 0, .int .u64 0, .int .u64 0, .int .u64 0, .int .u64 0, .int .u64 0, .int .u64 0, .int .u64 0, .slice none 0 0, .slice none 0 0] 57 (0, 0)) := by rw [hW0]; exact (two_new w _ _).2
  have hb0 : Below w.heap.size w W0 := by rw [hW0]; exact al (al (Below.refl _ _) _) _
  have HIs : Hid (w.heap.size + 1 + 1 = W0.heap.size) := by unfold Hid; rw [hW0]; simp
  have HBN : Hid (b.bl.length ≤ 2932031007317) := h.ok.bn
  have HRB : Hid (RdBlks W0 ba b.bl) := h.rb.below hb0
  have HM : Hid (m = ds.length) := hm
  have hp0 : 0 < b.bl.length := by omega
  clear hm
  obtain ⟨i0, i1, i2, i3, i4, i5, i6, i7, i8, i9, i10, i11, f0, f1, f2, f3, f4, f5, f6, f7, f8, f9, f10, f11⟩ := cells12 hI
  rw [hW0] at i10
  go_enter Try.func50, Try.ntmps50
  obtain ⟨Q, hQ⟩ : ∃ Q, Q = W0.heap.size := ⟨_, rfl⟩
  have hwQ : w.heap.size + 1 < Q := by have := HIs.out; omega
  have hIQ : ¬ w.heap.size = Q := by omega
  have hQI : ¬ Q = w.heap.size := by omega
  have hRQ : ¬ w.heap.size + 1 = Q := by omega
  have HQ : Hid (Q = W0.heap.size) := hQ
  clear hQ
  have HH : Hid (BunR w b ba bc pa pc) := h
  have HI : Hid _ := hI
  clear h hI f0 f1 f2 f3 f4 f5 f6 f7 f8 f9 f10 f11
  go_wp2_with (at_builtin; rw [← hW0]; refine wp_copyBlk rfl _ _ rfl b.bl hp0 ba bc rfl rfl HRB.out HBN.out ?_; intro cap C w1 hC1 hcap hsz hblk hb1; clear hW0; rw [← HQ.out] at hC1 hblk ⊢; have hI1 := box_on HI.out hb1; clear i0 i1 i2 i3 i4 i5 i6 i7 i8 i9 i10 i11; obtain ⟨i0, i1, i2, i3, i4, i5, i6, i7, i8, i9, i10, i11, f0, f1, f2, f3, f4, f5, f6, f7, f8, f9, f10, f11⟩ := cells12 hI1; have hkc : k < cap := (by omega); obtain ⟨u0, u1, u2, u3, s0, s1, s2, s3, z0, z1, z2, z3⟩ := row4 hC1 hsz hkc; have HBL : Hid _ := hblk; have HC1 : Hid _ := hC1; have HI1 : Hid _ := hI1; clear hblk hC1 hI1 s0 s1 s2 z0 z1 z2)
  have h := HH.out
  have hblk := HBL.out
  have hI1 := HI1.out
  have hs1 := hb1.size
  have hR1 := box_on hR hb1
  have hbw1 := below_next hb0 hb1
  obtain ⟨W2, hW2⟩ : ∃ W2 : World, W2 = w1.setCell ⟨Q, k * 4 + 3, none⟩ (.slice da m dc) := ⟨_, rfl⟩
  have hg2 : w1.grownBy W2 (some Q) := by rw [hW2]; exact gr_set (World.grownBy.refl _ _) _ _
  obtain ⟨W3, hW3⟩ : ∃ W3 : World, W3 = W2.setCell ⟨w.heap.size, 10, none⟩ (.slice (some ⟨Q, 0, none⟩) b.bl.length cap) := ⟨_, rfl⟩
  have hg3 : W2.grownBy W3 (some w.heap.size) := by rw [hW3]; exact gr_set (World.grownBy.refl _ _) _ _
  have hI2 := gr_box hg2 hIQ hI1
  have hI3 : W3.heap[w.heap.size]? = some (.cells #[.int .u64 b.fl, .int .u64 b.e0, .int .u64 b.e1, .int .u64 b.e2, .int .u64 b.e3, .int .u64 b.e4, .int .u64 b.e5, .int .u64 b.tm, .int .u64 b.sq, .int .u64 b.lf, .slice (some ⟨Q, 0, none⟩) b.bl.length cap, .slice pa b.py.length pc] 57 (0, 0)) := by rw [hW3]; exact heap_set1 (i := 10) (v := .slice (some ⟨Q, 0, none⟩) b.bl.length cap) hI2
  have hR2 := gr_box hg2 hRQ hR1
  have hR3 := gr_box hg3 (show w.heap.size + 1 ≠ w.heap.size by omega) hR2
  have hbw2 : Below w.heap.size w W2 := hbw1.grown hg2 hbw1.size (fun q hq => by cases hq; omega)
  have hbw3 : Below w.heap.size w W3 := hbw2.grown hg3 hbw2.size (fun q hq => by cases hq; omega)
  have HB3 : Hid (BunR W3 (setD b k ds) (some ⟨Q, 0, none⟩) cap pa pc) := by
    have h1 : RdBlks W2 (some ⟨Q, 0, none⟩) (setD b k ds).bl := by
      rw [hW2, HM.out]
      refine row_setD hblk hk ((hd.below hb0).below hb1) hdl hdn (fun hp q hq => ?_)
      obtain ⟨bq, oq, e, hc⟩ := hd hp
      have := World.block_lt_of_cell? w _ (hc 0 hp)
      rw [e] at hq
      cases hq
      simp at this ⊢
      omega
    have h2 : BunR W2 (setD b k ds) (some ⟨Q, 0, none⟩) cap pa pc := ⟨h1, (by rw [setD_len]; omega), (fun e => by cases e), (h.rp.below hbw1).grownE hg2 (fun hp q hq => by
      obtain ⟨bq, oq, e, hc⟩ := h.rp hp
      have := World.block_lt_of_cell? w _ (hc 0 hp)
      rw [e] at hq
      cases hq
      simp at this ⊢
      omega), h.lp, h.np, h.ok.setD (by omega)⟩
    exact h2.far hg3 (fun q hq => by cases hq; simp; omega) (no8 hI2)
  have hval : Calls Try.prog 22 #[.agg #[.int .u64 b.fl, .int .u64 b.e0, .int .u64 b.e1, .int .u64 b.e2, .int .u64 b.e3, .int .u64 b.e4, .int .u64 b.e5, .int .u64 b.tm, .int .u64 b.sq, .int .u64 b.lf, .slice (some ⟨Q, 0, none⟩) b.bl.length cap, .slice pa b.py.length pc]] W3 fun e w' => (∃ n, e = .returned (.int .i64 n) ∧ ValidIs (setD b k ds) n) ∧ Below W3.heap.size W3 w' := by
    have := validRef_any (setD b k ds) (some ⟨Q, 0, none⟩) cap pa pc W3 HB3.out
    unfold bunV at this
    rw [setD_len] at this
    exact this
  clear hI2 hR2 hR hblk
  rw [← hW2, ← hW3]
  clear hW2 hW3 i0 i1 i2 i3 i4 i5 i6 i7 i8 i9 i10 i11 f0 f1 f2 f3 f4 f5 f6 f7 f8 f9 f10 f11 s3 z3
  refine hval.mono ?_
  rintro e w4 ⟨⟨n, rfl, hv⟩, hb4⟩
  have HV : Hid (ValidIs (setD b k ds) n) := hv
  clear hv
  have hbw := below_next hbw3 hb4
  have hI4 := box_on hI3 hb4
  have hR4 := box_on hR3 hb4
  obtain ⟨r0, r1, r2, r3, r4, r5, r6, r7, r8, r9, r10, r11, g0, g1, g2, g3, g4, g5, g6, g7, g8, g9, g10, g11⟩ := cells12 hR4
  by_cases h0 : n = 0
  rotate_left
  · go_wp2
    have hfin := heap_set12 (v0 := .int .u64 0) (v1 := .int .u64 0) (v2 := .int .u64 0) (v3 := .int .u64 0) (v4 := .int .u64 0) (v5 := .int .u64 0) (v6 := .int .u64 0) (v7 := .int .u64 0) (v8 := .int .u64 0) (v9 := .int .u64 0) (v10 := .slice none 0 0) (v11 := .slice none 0 0) hR4
    refine bodyPost_ret (results_ct rfl _ _ (w.heap.size + 1) 57 _ (0, 0) _ rfl hfin Try.underlying57 rfl (by kernel_rfl)) rfl ?_
    exact ⟨⟨zeroB, none, 0, none, 0, n, rfl, .inl ⟨HV.out, h0, rfl⟩, zeroB_R _, fun q hq => by cases hq⟩, below_set12 hbw (by simp)⟩

  subst h0
  obtain ⟨i0, i1, i2, i3, i4, i5, i6, i7, i8, i9, i10, i11, -⟩ := cells12 hI4
  go_wp2
  have hfin := heap_set12 (v0 := .int .u64 b.fl) (v1 := .int .u64 b.e0) (v2 := .int .u64 b.e1) (v3 := .int .u64 b.e2) (v4 := .int .u64 b.e3) (v5 := .int .u64 b.e4) (v6 := .int .u64 b.e5) (v7 := .int .u64 b.tm) (v8 := .int .u64 b.sq) (v9 := .int .u64 b.lf) (v10 := .slice (some ⟨Q, 0, none⟩) b.bl.length cap) (v11 := .slice pa b.py.length pc) hR4
  refine bodyPost_ret (results_ct rfl _ _ (w.heap.size + 1) 57 _ (0, 0) _ rfl hfin Try.underlying57 rfl (by kernel_rfl)) rfl ?_
  exact ⟨⟨setD b k ds, some ⟨Q, 0, none⟩, cap, pa, pc, 0, by unfold bunV; rw [setD_len]; rfl, .inr ⟨HV.out, rfl, rfl⟩, (HB3.out.below hb4).far gr_set12 (fun q hq => by cases hq; simp; omega) (no8 hR4), fun q hq => by cases hq; simp; omega⟩, below_set12 hbw (by simp)⟩
end Go.Proofs.Ytdpkommmkcmifab
