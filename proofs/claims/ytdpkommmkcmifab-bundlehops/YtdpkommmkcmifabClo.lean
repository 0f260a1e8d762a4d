import Derived.Test.YtdpkommmkcmifabCloP
import Derived.Test.YtdpkommmkcmifabGiven
namespace Go.Proofs.Ytdpkommmkcmifab
set_option linter.unusedVariables false
set_option linter.unusedSimpArgs false
open Go.RowKit
set_option maxRecDepth 20000 in
set_option maxHeartbeats 1600000 in
theorem cloneB_any (b : Bun) (ba : Option Addr) (bc : Nat) (pa : Option Addr) (pc : Nat) (w : World) (h : BunR w b ba bc pa pc) :
    Calls Try.prog 54 #[bunV b ba bc pa pc] w fun e w' => ∃ Q a c C, e = .returned (bunV b (some ⟨Q, 0, none⟩) b.bl.length a c) ∧ w.heap.size ≤ Q ∧ w'.heap[Q]? = some (.cells C 48 (0, 0)) ∧ C.size = b.bl.length * 4 ∧ (∀ j (hj : j < b.bl.length), BlkC w' Q (j * 4) b.bl[j]) ∧ Own w' w.heap.size (.slice a b.py.length c) b.py ∧ (∀ q, a = some q → Q < q.block) ∧ Below w.heap.size w w' := by
  unfold bunV
  have hn := h.ok.bn
  obtain ⟨i0, hi, hz0, hz1, hz2⟩ := info_parts infoB
  obtain ⟨Z, hZ⟩ : ∃ Z : Array Value, Z = madeCells (Value.cells (.agg #[.int .u64 0, .int .u64 0, .int .u64 0, .slice none 0 0])) (b.bl.length * 4) := ⟨_, rfl⟩
  have HZ : Hid (Z.size = b.bl.length * 4) := by unfold Hid; rw [hZ]; exact size_madeCells _ _
  have hmk : ∀ u : World, (Instr.makeSlice 34 (.int .i64 (b.bl.length : Int)) (.int .i64 (b.bl.length : Int))).run Try.prog u = .ok (.slice (some ⟨u.heap.size, 0, none⟩) b.bl.length b.bl.length) (u.alloc (.cells Z 48)) := fun u => by
    have := run_make (P := Try.prog) u 34 48 i0 _ Try.underlying34 hi hz0 .i64 .i64 (b.bl.length : Int) (b.bl.length : Int) (by omega) (Int.le_refl _) (by rw [hz2]; omega) (by omega)
    rw [hz1, Int.toNat_natCast, ← hZ] at this
    exact this
  obtain ⟨W0, hW0⟩ : ∃ W0 : World, W0 = (w.alloc (.cells #[.int .u64 b.fl, .int .u64 b.e0, .int .u64 b.e1, .int .u64 b.e2, .int .u64 b.e3, .int .u64 b.e4, .int .u64 b.e5, .int .u64 b.tm, .int .u64 b.sq, .int .u64 b.lf, .slice ba b.bl.length bc, .slice pa b.py.length pc] 36)).alloc (.cells #[.int .u64 0, .int .u64 0, .int .u64 0, .int .u64 0, .int .u64 0, .int .u64 0, .int .u64 0, .int .u64 0, .int .u64 0, .int .u64 0, .slice none 0 0, .slice none 0 0] 36) := ⟨_, rfl⟩
  have hI : W0.heap[w.heap.size]? = some (.cells #[.int .u64 b.fl, .int .u64 b.e0, .int .u64 b.e1, .int .u64 b.e2, .int .u64 b.e3, .int .u64 b.e4, .int .u64 b.e5, .int .u64 b.tm, .int .u64 b.sq, .int .u64 b.lf, .slice ba b.bl.length bc, .slice pa b.py.length pc] 36 (0, 0)) := by rw [hW0]; exact (two_new w _ _).1
  have hR : W0.heap[w.heap.size + 1]? = some (.cells #[.int .u64 0, .int .u64 0, .int .u64 0, .int .u64 0, .int .u64 0, .int .u64 0, .int .u64 0, .int .u64 0, .int .u64 0, .int .u64 0, .slice none 0 0, .slice none 0 0] 36 (0, 0)) := by rw [hW0]; exact (two_new w _ _).2
  have hb0 : Below w.heap.size w W0 := by rw [hW0]; exact al (al (Below.refl _ _) _) _
  have HIs : Hid (w.heap.size + 1 + 1 = W0.heap.size) := by unfold Hid; rw [hW0]; simp
  obtain ⟨c0, c1, c2, c3, c4, c5, c6, c7, c8, c9, c10, c11, -⟩ := cells12 hI
  clear hZ
  go_enter Try.func54, Try.ntmps54
  go_wp2_with fail
  rw [← hW0]
  clear hW0
  obtain ⟨Q, hQe⟩ : ∃ Q : Nat, Q = w.heap.size + 1 + 1 := ⟨_, rfl⟩
  obtain ⟨W2, hW2⟩ : ∃ W2 : World, W2 = W0.alloc (.cells Z 48) := ⟨_, rfl⟩
  go_wp2
  rw [← hQe, ← hW2]
  have hb2 : Below W0.heap.size W0 W2 := by rw [hW2]; exact al (Below.refl _ _) _
  have hQ2 : W2.heap[Q]? = some (.cells Z 48 (0, 0)) := by rw [hW2, hQe, HIs.out]; exact heap_alloc_new _ _
  have hRQ : ¬ w.heap.size + 1 = Q := by omega
  have hwQ : w.heap.size + 1 < Q := by omega
  clear hW2 hQe c0 c1 c2 c3 c4 c5 c6 c7 c8 c9 c10 c11
  go_loopw [13] (fun i wr => ∃ (k : Nat) (C : Array Value), k ≤ b.bl.length ∧ i = .int .i64 k ∧ Below w.heap.size w wr ∧ wr.heap[w.heap.size]? = some (.cells #[.int .u64 b.fl, .int .u64 b.e0, .int .u64 b.e1, .int .u64 b.e2, .int .u64 b.e3, .int .u64 b.e4, .int .u64 b.e5, .int .u64 b.tm, .int .u64 b.sq, .int .u64 b.lf, .slice ba b.bl.length bc, .slice pa b.py.length pc] 36 (0, 0)) ∧ wr.heap[w.heap.size + 1]? = some (.cells #[.int .u64 0, .int .u64 0, .int .u64 0, .int .u64 0, .int .u64 0, .int .u64 0, .int .u64 0, .int .u64 0, .int .u64 0, .int .u64 0, .slice none 0 0, .slice none 0 0] 36 (0, 0)) ∧ wr.heap[Q]? = some (.cells C 48 (0, 0)) ∧ C.size = b.bl.length * 4 ∧ (∀ j (hj : j < b.bl.length), j < k → BlkC wr Q (j * 4) b.bl[j])) (fun i _ => b.bl.length - (intOf i).toNat)
  case atStart => exact ⟨0, Z, Nat.zero_le _, rfl, below_next hb0 hb2, box_on hI hb2, box_on hR hb2, hQ2, HZ.out, fun j _ hj => absurd hj (Nat.not_lt_zero j)⟩
  case round =>
    obtain ⟨k, C, hk, rfl, hbel, hI1, hR1, hQC, hCs, hG⟩ := hrel
    have HG : Hid (∀ j (hj : j < b.bl.length), j < k → BlkC wr Q (j * 4) b.bl[j]) := hG
    have HCs : Hid (C.size = b.bl.length * 4) := hCs
    have HQC : Hid (wr.heap[Q]? = some (.cells C 48 (0, 0))) := hQC
    have HR1 : Hid (wr.heap[w.heap.size + 1]? = some (.cells #[.int .u64 0, .int .u64 0, .int .u64 0, .int .u64 0, .int .u64 0, .int .u64 0, .int .u64 0, .int .u64 0, .int .u64 0, .int .u64 0, .slice none 0 0, .slice none 0 0] 36 (0, 0))) := hR1
    have HI1 : Hid (wr.heap[w.heap.size]? = some (.cells #[.int .u64 b.fl, .int .u64 b.e0, .int .u64 b.e1, .int .u64 b.e2, .int .u64 b.e3, .int .u64 b.e4, .int .u64 b.e5, .int .u64 b.tm, .int .u64 b.sq, .int .u64 b.lf, .slice ba b.bl.length bc, .slice pa b.py.length pc] 36 (0, 0))) := hI1
    have hQw : Q < wr.heap.size := (Array.getElem?_eq_some_iff.1 hQC).1
    clear hG hCs hQC hR1 hI1 hmk
    by_cases hlt : k < b.bl.length
    · obtain ⟨b1, o1, rfl, hx⟩ := h.rb.at k hlt
      obtain ⟨a, c, c0, c1, c2, c3, hr, hdc, hdn⟩ := hx.below hbel
      obtain ⟨W3, hW3⟩ : ∃ W3 : World, W3 = wr.alloc (.cells #[.int .u64 b.bl[k].t, .int .u64 b.bl[k].n, .int .u64 b.bl[k].f, .slice a b.bl[k].d.length c] 48) := ⟨_, rfl⟩
      have hX3 : W3.heap[wr.heap.size]? = some (.cells #[.int .u64 b.bl[k].t, .int .u64 b.bl[k].n, .int .u64 b.bl[k].f, .slice a b.bl[k].d.length c] 48 (0, 0)) := by rw [hW3]; exact heap_alloc_new _ _
      have hb3 : Below wr.heap.size wr W3 := by rw [hW3]; exact al (Below.refl _ _) _
      obtain ⟨x0, x1, x2, x3, -⟩ := cells4 hX3
      rw [hW3] at x0 x1 x2 x3
      have HR3 : Hid (Rd W3 a b.bl[k].d) := hr.below hb3
      have HDl : Hid (b.bl[k].d.length ≤ 140737488351232) := (h.ok.bl _ (List.getElem_mem _)).2.2.2
      have HDN : Hid (a = none → c = 0) := hdn
      have HQ3 : Hid (W3.heap[Q]? = some (.cells C 48 (0, 0))) := box_on HQC.out hb3
      clear hdn hr hx hX3
      go_wp2_with fail
      rw [← hW3]
      clear hW3
      refine (blkClone_any b.bl[k] a c W3 HR3.out HDN.out HDl.out).mono ?_
      rintro e w6 ⟨a6, d6, rfl, hown6, hb36⟩
      unfold blkV
      obtain ⟨u0, u1, u2, u3, s0, s1, s2, s3, z0, z1, z2, z3⟩ := row4 (box_on HQ3.out hb36) HCs.out hlt
      have hQ3l : Q < W3.heap.size := by have := hb3.size; omega
      obtain ⟨aq, cq, hv, hlcq, -, hnq, hrd, hbk⟩ := hown6.val
      simp only [Value.slice.injEq, true_and] at hv
      obtain ⟨rfl, rfl⟩ := hv
      have HST : Hid _ := blkc_set (Q := Q) (k := k) (M := b.bl.length) b.bl[k] (box_on HQ3.out hb36) HCs.out hlt (fun q hq => by have h1 := (hbk q hq).1; have h2 : W3.heap.size ≤ q.block := h1; omega) hrd hlcq hnq
      clear hlcq hnq hrd hbk
      have HB6 : Hid (Below wr.heap.size wr w6) := below_next hb3 hb36
      clear hown6 x0 x1 x2 x3 c0 c1 c2 c3 hb36 hb3
      go_wp2
      go_roundw
      case rel =>
        obtain ⟨⟨C', hC', hCs'⟩, hbk, hoth, hgr⟩ := HST.out
        have hb6' := HB6.out
        refine ⟨k + 1, C', by omega, by go_num, (below_next hbel hb6').grown hgr (below_next hbel hb6').size (fun j hj => by cases hj; omega), ?_, ?_, hC', hCs', fun j hj hjk => ?_⟩
        · have h1 := box_on HI1.out hb6'
          exact (hgr.block _ (Array.getElem?_eq_some_iff.1 h1).1 (by simp; omega)).trans h1
        · have h1 := box_on HR1.out hb6'
          exact (hgr.block _ (Array.getElem?_eq_some_iff.1 h1).1 (by simp; omega)).trans h1
        · by_cases e : j = k
          · subst e; exact hbk
          · exact hoth j _ e ((HG.out j hj (by omega)).below hb6')
      case measure => simp [intOf]; omega
    · obtain rfl : k = b.bl.length := by omega
      obtain ⟨p0, p1, p2, p3, p4, p5, p6, p7, p8, p9, p10, p11, f0, f1, f2, f3, f4, f5, f6, f7, f8, f9, f10, f11⟩ := cells12 HI1.out
      have HRp : Hid (Rd wr pa b.py) := h.rp.below hbel
      have HNp : Hid (pa = none → pc = 0) := h.np
      have HPl : Hid (b.py.length ≤ 140737488351232) := h.ok.py
      go_wp2_with fail
      refine (clone_n pa _ pc b.py rfl _ HRp.out HNp.out (by have := HPl.out; omega)).mono ?_
      rintro e w6 ⟨v6, rfl, hown6, hb6⟩
      obtain ⟨a6, d6, rfl, -, -, -, hr6, hk6⟩ := hown6.val
      have hI6 := box_on HI1.out hb6
      have hR6 := box_on HR1.out hb6
      obtain ⟨p0, p1, p2, p3, p4, p5, p6, p7, p8, p9, p10, p11, f0, f1, f2, f3, f4, f5, f6, f7, f8, f9, f10, f11⟩ := cells12 hI6
      obtain ⟨r0, r1, r2, r3, r4, r5, r6, r7, r8, r9, r10, r11, g0, g1, g2, g3, g4, g5, g6, g7, g8, g9, g10, g11⟩ := cells12 hR6
      have HO6 : Hid _ := hown6
      have HR6 : Hid _ := hR6
      have HK6 : Hid _ := hk6
      clear hown6 hI6 hR6 hk6
      go_wp2
      obtain ⟨X, hX⟩ : ∃ X : World, X = (w6.setCell ⟨w.heap.size, 10, none⟩ (.slice (some ⟨Q, 0, none⟩) b.bl.length b.bl.length)).setCell ⟨w.heap.size, 11, none⟩ (.slice a6 b.py.length d6) := ⟨_, rfl⟩
      rw [← hX]
      have hgX : w6.grownBy X (some w.heap.size) := by rw [hX]; exact gr_set (gr_set (World.grownBy.refl _ _) _ _) _ _
      have hXR := gr_box hgX (show w.heap.size + 1 ≠ w.heap.size by omega) HR6.out
      have hfin := heap_set12 (v0 := .int .u64 b.fl) (v1 := .int .u64 b.e0) (v2 := .int .u64 b.e1) (v3 := .int .u64 b.e2) (v4 := .int .u64 b.e3) (v5 := .int .u64 b.e4) (v6 := .int .u64 b.e5) (v7 := .int .u64 b.tm) (v8 := .int .u64 b.sq) (v9 := .int .u64 b.lf) (v10 := .slice (some ⟨Q, 0, none⟩) b.bl.length b.bl.length) (v11 := .slice a6 b.py.length d6) hXR
      refine bodyPost_ret (results_cell_row rfl _ _ (w.heap.size + 1) 36 _ (0, 0) _ rfl hfin Try.underlying36 rfl (by kernel_rfl)) rfl ?_
      have hbw6 := below_next hbel hb6
      have hwr := hbel.size
      have hbX : Below w.heap.size w X := hbw6.grown hgX hbw6.size (fun q hq => by cases hq; omega)
      refine ⟨Q, a6, d6, C, rfl, by omega, ?_, HCs.out, fun j hj => ?_, ?_, fun q hq => ?_, below_set12 hbX (Nat.le_succ _)⟩
      · exact gr_box gr_set12 (by omega) (gr_box hgX (by omega) (box_on HQC.out hb6))
      · exact (((HG.out j hj hj).below hb6).grown hgX (by omega)).grown gr_set12 (by omega)
      · have h1 := Own.base HO6.out (show w.heap.size ≤ wr.heap.size from hwr)
        exact Own.grown (Own.grown h1 hgX (own_ne fun q hq => by have := (HK6.out q hq).1; omega)) gr_set12 (own_ne fun q hq => by have := (HK6.out q hq).1; omega)
      · have := (HK6.out q hq).1
        omega
end Go.Proofs.Ytdpkommmkcmifab
