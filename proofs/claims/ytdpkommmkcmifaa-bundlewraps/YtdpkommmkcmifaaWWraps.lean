import Derived.Test.YtdpkommmkcmifaaWrapB
import Derived.Test.YtdpkommmkcmifaaWrapR
import Derived.Test.YtdpkommmkcmifaaOpenFr
import Derived.Test.YtdpkommmkcmifaaKp
namespace Go.Proofs.Ytdpkommmkcmifaa
set_option linter.unusedVariables false
set_option linter.unusedSimpArgs false
open Go.RowKit
theorem cells5F {W : World} {g : Nat} {t : TypeId} {v0 v1 v2 v3 v4 : Value} (h : W.heap[g]? = some (.cells #[v0, v1, v2, v3, v4] t (0, 0))) : W.cell? ⟨g, 0, none⟩ = some v0 ∧ W.cell? ⟨g, 1, none⟩ = some v1 ∧ W.cell? ⟨g, 2, none⟩ = some v2 ∧ W.cell? ⟨g, 3, none⟩ = some v3 ∧ W.cell? ⟨g, 4, none⟩ = some v4 ∧ W.frozen? ⟨g, 0, none⟩ = false ∧ W.frozen? ⟨g, 1, none⟩ = false ∧ W.frozen? ⟨g, 2, none⟩ = false ∧ W.frozen? ⟨g, 3, none⟩ = false ∧ W.frozen? ⟨g, 4, none⟩ = false :=
  ⟨by rw [cell_of_row W g 0 _ t _ h]; rfl, by rw [cell_of_row W g 1 _ t _ h]; rfl, by rw [cell_of_row W g 2 _ t _ h]; rfl, by rw [cell_of_row W g 3 _ t _ h]; rfl, by rw [cell_of_row W g 4 _ t _ h]; rfl, frozen_of_row W g 0 _ t h, frozen_of_row W g 1 _ t h, frozen_of_row W g 2 _ t h, frozen_of_row W g 3 _ t h, frozen_of_row W g 4 _ t h⟩
theorem bunR_ofW {w : World} {B : Nat} {o : Bun} {a pa : Option Addr} {c pc : Nat} (h1 : RowB w B (.slice a o.bl.length c) o.bl) (h2 : Own w B (.slice pa o.py.length pc) o.py) (h3 : o.ok) : BunR w o a c pa pc := by
  obtain ⟨k1, k2, k3, -⟩ := h1.rd
  obtain ⟨aq, cq, hv, hl, -, hn, hr, -⟩ := h2.val
  simp only [Value.slice.injEq, true_and] at hv
  obtain ⟨rfl, rfl⟩ := hv
  exact ⟨k1, k2, k3, hr, hl, hn, h3⟩
set_option maxRecDepth 20000 in
set_option maxHeartbeats 1600000 in
theorem wraps_walk (f : Frm) (fa : Option Addr) (fc : Nat) (fr tt : Nat) (nw : Bool) (w : World) (hR : Rd w fa f.d ∧ f.d.length ≤ fc ∧ (fa = none → fc = 0) ∧ f.ok) (hfr : fr < 18446744073709551616) (htt : tt < 18446744073709551616) :
    Calls Try.prog 4 #[frmW f fa fc, .int .u64 (fr : Nat), .int .u64 (tt : Nat), .bool nw] w fun e w' => e = .returned (.bool true) ∧ Below w.heap.size w w' := by
  obtain ⟨hd, hlc, hn, hok⟩ := hR
  have HN : Hid (fa = none → fc = 0) := hn
  clear hn
  unfold frmW
  obtain ⟨W0, hW0⟩ : ∃ W0 : World, W0 = (w.alloc (.cells #[.int .i64 f.st, .int .u64 (f.tm : Nat), .int .u64 (f.sq : Nat), .int .u64 (f.lf : Nat), .slice fa f.d.length fc] 47)).alloc (.cells #[.int .i64 f.st, .int .u64 (f.tm : Nat), .int .u64 (f.sq : Nat), .int .u64 (f.lf : Nat), .slice fa f.d.length fc] 47) := ⟨_, rfl⟩
  have hF : W0.heap[w.heap.size]? = some (.cells #[.int .i64 f.st, .int .u64 (f.tm : Nat), .int .u64 (f.sq : Nat), .int .u64 (f.lf : Nat), .slice fa f.d.length fc] 47 (0, 0)) := by rw [hW0]; exact (two_new w _ _).1
  have hG : W0.heap[w.heap.size + 1]? = some (.cells #[.int .i64 f.st, .int .u64 (f.tm : Nat), .int .u64 (f.sq : Nat), .int .u64 (f.lf : Nat), .slice fa f.d.length fc] 47 (0, 0)) := by rw [hW0]; exact (two_new w _ _).2
  have hb0 : Below w.heap.size w W0 := by rw [hW0]; exact al (al (Below.refl _ _) _) _
  go_enter Try.func4, Try.ntmps4
  go_wp2_with fail
  rw [← hW0]
  clear hW0
  refine (bytes_any fa fc f.d W0 (hd.below hb0) hok.d).mono ?_
  rintro e w1 ⟨q, rfl, hq, hr1, hb1⟩
  have hF1 := box_on hF hb1
  have hG1 := box_on hG hb1
  have hs0 := (Array.getElem?_eq_some_iff.1 hG).1
  obtain ⟨W1, hW1⟩ : ∃ W1 : World, W1 = w1.setCell ⟨w.heap.size + 1, 4, none⟩ (.slice (some ⟨q, 0, none⟩) f.d.length (f.d.length + 4)) := ⟨_, rfl⟩
  have hg1 : w1.grownBy W1 (some (w.heap.size + 1)) := by rw [hW1]; exact gr_set (World.grownBy.refl _ _) _ _
  have hG2 : W1.heap[w.heap.size + 1]? = some (.cells #[.int .i64 f.st, .int .u64 (f.tm : Nat), .int .u64 (f.sq : Nat), .int .u64 (f.lf : Nat), .slice (some ⟨q, 0, none⟩) f.d.length (f.d.length + 4)] 47 (0, 0)) := by rw [hW1]; exact heap_set1 (i := 4) (v := .slice (some ⟨q, 0, none⟩) f.d.length (f.d.length + 4)) hG1
  have hF2 := gr_box hg1 (by omega) hF1
  have hr2 : Rd W1 (some ⟨q, 0, none⟩) (f.d ++ m4) := hr1.grown hg1 (fun z hz => by cases hz; simp; omega)
  have hbw01 := below_next hb0 hb1
  have hbw1 : Below w.heap.size w W1 := hbw01.grown hg1 hbw01.size (fun j hj => by cases hj; omega)
  obtain ⟨g0, g1, g2, g3, g4, z0, z1, z2, z3, z4⟩ := cells5F hG1
  obtain ⟨i0, i1, i2, i3, i4, -⟩ := cells5W hG2
  rw [hW1] at i0 i1 i2 i3 i4
  clear g0 g1 g2 g3 z0 z1 z2 z3
  go_wp2_with fail
  rw [← hW1]
  clear hW1 g4 z4 i0 i1 i2 i3 i4 hF hG hF1 hG1
  refine (wrap_any f.st f.tm f.sq f.lf f.d (some ⟨q, 0, none⟩) (f.d.length + 4) fr tt nw W1 (rd_m4 hr2) (fun e => by cases e) hok.st ⟨hok.tm, hok.sq, hok.lf, hfr, htt⟩ hok.d).mono ?_
  rintro e w2 ⟨⟨o, a2, c2, p2, d2, n2, rfl, hw2, hrow2, hown2, hok2⟩, hb2⟩
  have HW2 : Hid (wrapS f.st f.tm f.sq f.lf f.d fr tt nw = (o, n2)) := hw2
  have HR2 : Hid (BunR w2 o a2 c2 p2 d2) := bunR_ofW hrow2 hown2 hok2
  clear hw2 hrow2 hown2 hok2
  unfold bunV
  obtain ⟨W2, hW2⟩ : ∃ W2 : World, W2 = w2.alloc (.cells #[.int .u64 o.fl, .int .u64 o.e0, .int .u64 o.e1, .int .u64 o.e2, .int .u64 o.e3, .int .u64 o.e4, .int .u64 o.e5, .int .u64 o.tm, .int .u64 o.sq, .int .u64 o.lf, .slice a2 o.bl.length c2, .slice p2 o.py.length d2] 34) := ⟨_, rfl⟩
  have hD2 : W2.heap[w2.heap.size]? = some (.cells #[.int .u64 o.fl, .int .u64 o.e0, .int .u64 o.e1, .int .u64 o.e2, .int .u64 o.e3, .int .u64 o.e4, .int .u64 o.e5, .int .u64 o.tm, .int .u64 o.sq, .int .u64 o.lf, .slice a2 o.bl.length c2, .slice p2 o.py.length d2] 34 (0, 0)) := by rw [hW2]; exact heap_alloc_new w2 _
  have hb2' : Below w2.heap.size w2 W2 := by rw [hW2]; exact al (Below.refl _ _) _
  have hb12 := below_next hb2 hb2'
  have hbw2 := below_next hbw1 hb12
  have hF3 := box_on hF2 hb12
  have hG3 := box_on hG2 hb12
  obtain ⟨i0, i1, i2, i3, i4, -⟩ := cells5W hF3
  rw [hW2] at i0 i1 i2 i3 i4
  go_wp2_with fail
  rw [← hW2]
  clear hW2 i0 i1 i2 i3 i4
  refine (wrapRef_any f.st f.tm f.sq f.lf f.d fa fc fr tt nw W2 (hd.below hbw2) hlc HN.out ⟨hok.tm, hok.sq, hok.lf, hfr, htt⟩ hok.d).mono ?_
  rintro e w3 ⟨⟨o', a3, c3, p3, d3, n3, rfl, hw3, hR3⟩, hb3⟩
  rw [HW2.out] at hw3
  simp only [Prod.mk.injEq] at hw3
  obtain ⟨rfl, rfl⟩ := hw3
  unfold bunV
  obtain ⟨W3, hW3⟩ : ∃ W3 : World, W3 = w3.alloc (.cells #[.int .u64 o.fl, .int .u64 o.e0, .int .u64 o.e1, .int .u64 o.e2, .int .u64 o.e3, .int .u64 o.e4, .int .u64 o.e5, .int .u64 o.tm, .int .u64 o.sq, .int .u64 o.lf, .slice a3 o.bl.length c3, .slice p3 o.py.length d3] 29) := ⟨_, rfl⟩
  have hC3 : W3.heap[w3.heap.size]? = some (.cells #[.int .u64 o.fl, .int .u64 o.e0, .int .u64 o.e1, .int .u64 o.e2, .int .u64 o.e3, .int .u64 o.e4, .int .u64 o.e5, .int .u64 o.tm, .int .u64 o.sq, .int .u64 o.lf, .slice a3 o.bl.length c3, .slice p3 o.py.length d3] 29 (0, 0)) := by rw [hW3]; exact heap_alloc_new w3 _
  have hb3' : Below w3.heap.size w3 W3 := by rw [hW3]; exact al (Below.refl _ _) _
  have hb3b : Below W2.heap.size W2 W3 := below_next hb3 hb3'
  have hD3 := box_on hD2 hb3b
  have hF4 := box_on hF3 hb3b
  have hG4 := box_on hG3 hb3b
  have hbw3 := below_next hbw2 hb3b
  have hRA := HR2.out.below (below_next hb2' hb3b)
  have hRB := hR3.below hb3'
  have hr3 := hr2.below (below_next hb12 hb3b)
  obtain ⟨h0, h1, h2, h3, h4, h5, h6, h7, h8, h9, h10, h11, -⟩ := cells12 hD3
  rw [hW3] at h0 h1 h2 h3 h4 h5 h6 h7 h8 h9 h10 h11
  go_wp2_with fail
  rw [← hW3]
  clear h0 h1 h2 h3 h4 h5 h6 h7 h8 h9 h10 h11 hW3 hD2 hD3
  refine (is_t o a2 a3 c2 c3 p2 p3 d2 d3 W3 hRA hRB).mono ?_
  rintro e w4 ⟨rfl, hb4⟩
  have hbw4 := below_next hbw3 hb4
  obtain ⟨i0, i1, i2, i3, i4, -⟩ := cells5W (box_on hF4 hb4)
  obtain ⟨j0, j1, j2, j3, j4, -⟩ := cells5W (box_on hG4 hb4)
  go_wp2_with fail
  refine (stays_t q fa fc f.d w4 (hr3.below hb4) (hd.below hbw4) hok.d).mono ?_
  rintro e w5 ⟨rfl, hb5⟩
  clear i0 i1 i2 i3 i4 j0 j1 j2 j3 j4
  go_wp2
  go_ret
  exact ⟨rfl, below_next hbw4 hb5⟩
end Go.Proofs.Ytdpkommmkcmifaa
