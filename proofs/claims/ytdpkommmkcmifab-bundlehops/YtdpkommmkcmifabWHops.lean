import Derived.Test.YtdpkommmkcmifabAgeR
import Derived.Test.YtdpkommmkcmifabKept
namespace Go.Proofs.Ytdpkommmkcmifab
set_option linter.unusedVariables false
set_option linter.unusedSimpArgs false
open Go.RowKit
theorem GivR.from {w w' : World} {b : Bun} {ba pa : Nat} (h : GivR w b ba pa) (hb : Below w.heap.size w w') : GivR w' b ba pa := h.below hb
set_option maxRecDepth 20000 in
set_option maxHeartbeats 3200000 in
theorem hops_walk (b : Bun) (ba : Option Addr) (bc : Nat) (pa : Option Addr) (pc : Nat) (t : Nat) (w : World) (h : BunR w b ba bc pa pc) (ht : t < 18446744073709551616) :
    Calls Try.prog 6 #[bunV b ba bc pa pc, .int .u64 t] w fun e w' => e = .returned (.bool true) ∧ Below w.heap.size w w' := by
  unfold bunV
  obtain ⟨W0, hW0⟩ : ∃ W0 : World, W0 = w.alloc (.cells #[.int .u64 b.fl, .int .u64 b.e0, .int .u64 b.e1, .int .u64 b.e2, .int .u64 b.e3, .int .u64 b.e4, .int .u64 b.e5, .int .u64 b.tm, .int .u64 b.sq, .int .u64 b.lf, .slice ba b.bl.length bc, .slice pa b.py.length pc] 57) := ⟨_, rfl⟩
  have hI : W0.heap[w.heap.size]? = some (.cells #[.int .u64 b.fl, .int .u64 b.e0, .int .u64 b.e1, .int .u64 b.e2, .int .u64 b.e3, .int .u64 b.e4, .int .u64 b.e5, .int .u64 b.tm, .int .u64 b.sq, .int .u64 b.lf, .slice ba b.bl.length bc, .slice pa b.py.length pc] 57 (0, 0)) := by rw [hW0]; exact heap_alloc_new w _
  have hb0 : Below w.heap.size w W0 := by rw [hW0]; exact al (Below.refl _ _) _
  go_enter Try.func6, Try.ntmps6
  go_wp2_with fail
  rw [← hW0]
  clear hW0
  refine (given_any b ba bc pa pc W0 (h.below hb0)).mono ?_
  rintro e w1 ⟨g1, q1, rfl, hG1, hb1⟩
  have hI1 := box_on hI hb1
  obtain ⟨W1, hW1⟩ : ∃ W1 : World, W1 = w1.alloc (.cells #[.int .u64 b.fl, .int .u64 b.e0, .int .u64 b.e1, .int .u64 b.e2, .int .u64 b.e3, .int .u64 b.e4, .int .u64 b.e5, .int .u64 b.tm, .int .u64 b.sq, .int .u64 b.lf, .slice (some ⟨g1, 0, none⟩) b.bl.length (b.bl.length + 2), .slice (some ⟨q1, 0, none⟩) b.py.length (b.py.length + 4)] 36) := ⟨_, rfl⟩
  have hIl0 : w.heap.size < w1.heap.size := (Array.getElem?_eq_some_iff.1 hI1).1
  have hX1 : W1.heap[w1.heap.size]? = some (.cells #[.int .u64 b.fl, .int .u64 b.e0, .int .u64 b.e1, .int .u64 b.e2, .int .u64 b.e3, .int .u64 b.e4, .int .u64 b.e5, .int .u64 b.tm, .int .u64 b.sq, .int .u64 b.lf, .slice (some ⟨g1, 0, none⟩) b.bl.length (b.bl.length + 2), .slice (some ⟨q1, 0, none⟩) b.py.length (b.py.length + 4)] 36 (0, 0)) := by rw [hW1]; exact heap_alloc_new w1 _
  have hX1' := hX1
  have hb1' : Below w1.heap.size w1 W1 := by rw [hW1]; exact al (Below.refl _ _) _
  have hI1 := box_on hI1 hb1'
  have hG1 := hG1.below hb1'
  have hbw1 : Below w.heap.size w W1 := below_next hb0 (below_next hb1 hb1')
  unfold bunV
  go_wp2_with fail
  rw [← hW1]
  clear hW1 hI hb1 hb1' hb0
  refine (hop_any b _ _ _ _ W1 hG1.toR).mono ?_
  rintro e w2 ⟨⟨o, a2, c2, p2, d2, n2, rfl, ht2, hO2, -⟩, hb2⟩
  have HT2 : Hid (TurnIs b 10 hopTurn o n2) := ht2
  have HO2 : Hid (BunR w2 o a2 c2 p2 d2) := hO2
  clear ht2 hO2
  unfold bunV
  obtain ⟨W2, hW2⟩ : ∃ W2 : World, W2 = w2.alloc (.cells #[.int .u64 o.fl, .int .u64 o.e0, .int .u64 o.e1, .int .u64 o.e2, .int .u64 o.e3, .int .u64 o.e4, .int .u64 o.e5, .int .u64 o.tm, .int .u64 o.sq, .int .u64 o.lf, .slice a2 o.bl.length c2, .slice p2 o.py.length d2] 36) := ⟨_, rfl⟩
  have hH2 : W2.heap[w2.heap.size]? = some (.cells #[.int .u64 o.fl, .int .u64 o.e0, .int .u64 o.e1, .int .u64 o.e2, .int .u64 o.e3, .int .u64 o.e4, .int .u64 o.e5, .int .u64 o.tm, .int .u64 o.sq, .int .u64 o.lf, .slice a2 o.bl.length c2, .slice p2 o.py.length d2] 36 (0, 0)) := by rw [hW2]; exact heap_alloc_new w2 _
  have hb2' : Below w2.heap.size w2 W2 := by rw [hW2]; exact al (Below.refl _ _) _
  have hX2 := box_on (box_on hX1 hb2) hb2'
  have hI2 := box_on (box_on hI1 hb2) hb2'
  have hbG2 : Below W1.heap.size W1 W2 := below_next hb2 hb2'
  have hbw2 := below_next hbw1 hbG2
  obtain ⟨i0, i1, i2, i3, i4, i5, i6, i7, i8, i9, i10, i11, -⟩ := cells12 hI2
  rw [hW2] at i0 i1 i2 i3 i4 i5 i6 i7 i8 i9 i10 i11
  go_wp2_with fail
  rw [← hW2]
  clear i0 i1 i2 i3 i4 i5 i6 i7 i8 i9 i10 i11 hX1 hI1
  refine (hopRef_any b ba bc pa pc W2 (h.below hbw2)).mono ?_
  rintro e w3 ⟨⟨o', a3, c3, p3, d3, n3, rfl, ht3, hO3, -⟩, hb3⟩
  obtain ⟨rfl, rfl⟩ := TurnIs.same HT2.out ht3
  clear HT2 ht3
  have HO3 : Hid (BunR w3 o a3 c3 p3 d3) := hO3
  clear hO3
  unfold bunV
  obtain ⟨W3, hW3⟩ : ∃ W3 : World, W3 = w3.alloc (.cells #[.int .u64 o.fl, .int .u64 o.e0, .int .u64 o.e1, .int .u64 o.e2, .int .u64 o.e3, .int .u64 o.e4, .int .u64 o.e5, .int .u64 o.tm, .int .u64 o.sq, .int .u64 o.lf, .slice a3 o.bl.length c3, .slice p3 o.py.length d3] 57) := ⟨_, rfl⟩
  have hC3 : W3.heap[w3.heap.size]? = some (.cells #[.int .u64 o.fl, .int .u64 o.e0, .int .u64 o.e1, .int .u64 o.e2, .int .u64 o.e3, .int .u64 o.e4, .int .u64 o.e5, .int .u64 o.tm, .int .u64 o.sq, .int .u64 o.lf, .slice a3 o.bl.length c3, .slice p3 o.py.length d3] 57 (0, 0)) := by rw [hW3]; exact heap_alloc_new w3 _
  have hb3' : Below w3.heap.size w3 W3 := by rw [hW3]; exact al (Below.refl _ _) _
  have hX3 := box_on (box_on hX2 hb3) hb3'
  have hI3 := box_on (box_on hI2 hb3) hb3'
  have hH3 := box_on (box_on hH2 hb3) hb3'
  have hb3b : Below W2.heap.size W2 W3 := below_next hb3 hb3'
  have hbG3 := below_next hbG2 hb3b
  have hbw3 := below_next hbw2 hb3b
  have hRA := HO2.out.below (below_next hb2' hb3b)
  have hRB := HO3.out.below hb3'
  have hHl : w2.heap.size < W3.heap.size := (Array.getElem?_eq_some_iff.1 hH3).1
  have hCl : w3.heap.size < W3.heap.size := (Array.getElem?_eq_some_iff.1 hC3).1
  have hHC : w2.heap.size < w3.heap.size := by
    have h1 := hb3.size
    have h2 : W2.heap.size = w2.heap.size + 1 := by rw [hW2]; simp
    omega
  have hWw2 := hb2.size
  clear hW2
  obtain ⟨h0, h1, h2, h3, h4, h5, h6, h7, h8, h9, h10, h11, -⟩ := cells12 hH3
  rw [hW3] at h0 h1 h2 h3 h4 h5 h6 h7 h8 h9 h10 h11
  go_wp2_with fail
  rw [← hW3]
  clear h0 h1 h2 h3 h4 h5 h6 h7 h8 h9 h10 h11 hW3 hX2 hI2 hH2
  refine (is_t o a2 a3 c2 c3 p2 p3 d2 d3 W3 hRA hRB).mono ?_
  rintro e w4 ⟨rfl, hb4⟩
  have hX4 := box_on hX3 hb4
  have hI4 := box_on hI3 hb4
  have hH4 := box_on hH3 hb4
  have hC4 := box_on hC3 hb4
  have hbG4 := below_next hbG3 hb4
  have hbw4 := below_next hbw3 hb4
  clear hX3 hI3 hH3 hC3 hRA hRB HO2 HO3
  obtain ⟨x0, x1, x2, x3, x4, x5, x6, x7, x8, x9, x10, x11, -⟩ := cells12 hX4
  obtain ⟨i0, i1, i2, i3, i4, i5, i6, i7, i8, i9, i10, i11, -⟩ := cells12 hI4
  go_wp2_with fail
  refine (kept_t b g1 q1 ba bc pa pc w4 (hG1.below hbG4) (h.below hbw4)).mono ?_
  rintro e w5 ⟨rfl, hb5⟩
  clear x0 x1 x2 x3 x4 x5 x6 x7 x8 x9 x10 x11 i0 i1 i2 i3 i4 i5 i6 i7 i8 i9 i10 i11
  have hX5 := box_on hX4 hb5
  have hI5 := box_on hI4 hb5
  have hH5 := box_on hH4 hb5
  have hC5 := box_on hC4 hb5
  have hbG5 := below_next hbG4 hb5
  have hbw5 := below_next hbw4 hb5
  clear hX4 hI4 hH4 hC4
  obtain ⟨x0, x1, x2, x3, x4, x5, x6, x7, x8, x9, x10, x11, -⟩ := cells12 hX5
  go_wp2_with fail
  refine (aged_any b _ _ _ _ t w5 (hG1.below hbG5).toR ht).mono ?_
  rintro e w6 ⟨⟨o5, a5, c5, p5, d5, n5, rfl, ht5, hO5, hf5⟩, hb6⟩
  have HT5 : Hid (TurnIs b 7 (ageTurn t) o5 n5) := ht5
  have HO5 : Hid (BunR w6 o5 a5 c5 p5 d5) := hO5
  have HF5 : Hid (∀ q, a5 = some q → w5.heap.size ≤ q.block) := hf5
  clear ht5 hO5 hf5 x0 x1 x2 x3 x4 x5 x6 x7 x8 x9 x10 x11
  unfold bunV
  have hX6 := box_on hX5 hb6
  have hI6 := box_on hI5 hb6
  have hH6 := box_on hH5 hb6
  have hC6 := box_on hC5 hb6
  have hbG6 := below_next hbG5 hb6
  have hbw6 := below_next hbw5 hb6
  have hs4 := hb4.size
  have hs5 := hb5.size
  have hs6 := hb6.size
  clear hX5 hI5 hH5 hC5
  obtain ⟨W6, hW6⟩ : ∃ W6 : World, W6 = ((((((((((((w6.setCell ⟨w2.heap.size, 0, none⟩ (.int .u64 o5.fl)).setCell ⟨w2.heap.size, 1, none⟩ (.int .u64 o5.e0)).setCell ⟨w2.heap.size, 2, none⟩ (.int .u64 o5.e1)).setCell ⟨w2.heap.size, 3, none⟩ (.int .u64 o5.e2)).setCell ⟨w2.heap.size, 4, none⟩ (.int .u64 o5.e3)).setCell ⟨w2.heap.size, 5, none⟩ (.int .u64 o5.e4)).setCell ⟨w2.heap.size, 6, none⟩ (.int .u64 o5.e5)).setCell ⟨w2.heap.size, 7, none⟩ (.int .u64 o5.tm)).setCell ⟨w2.heap.size, 8, none⟩ (.int .u64 o5.sq)).setCell ⟨w2.heap.size, 9, none⟩ (.int .u64 o5.lf)).setCell ⟨w2.heap.size, 10, none⟩ (.slice a5 o5.bl.length c5)).setCell ⟨w2.heap.size, 11, none⟩ (.slice p5 o5.py.length d5)) := ⟨_, rfl⟩
  have hg6 : w6.grownBy W6 (some w2.heap.size) := by rw [hW6]; exact gr_set12
  have hH7 : W6.heap[w2.heap.size]? = some (.cells #[.int .u64 o5.fl, .int .u64 o5.e0, .int .u64 o5.e1, .int .u64 o5.e2, .int .u64 o5.e3, .int .u64 o5.e4, .int .u64 o5.e5, .int .u64 o5.tm, .int .u64 o5.sq, .int .u64 o5.lf, .slice a5 o5.bl.length c5, .slice p5 o5.py.length d5] 36 (0, 0)) := by rw [hW6]; exact heap_set12 hH6
  have hw1l := hbw1.size
  have hXl : w1.heap.size < W1.heap.size := (Array.getElem?_eq_some_iff.1 hX1').1
  have hIl := hIl0
  have hX7 := gr_box hg6 (show w1.heap.size ≠ w2.heap.size by omega) hX6
  have hI7 := gr_box hg6 (show w.heap.size ≠ w2.heap.size by omega) hI6
  have hC7 := gr_box hg6 (show w3.heap.size ≠ w2.heap.size by omega) hC6
  have hbG7 : Below W1.heap.size W1 W6 := hbG6.grown hg6 hbG6.size (fun q hq => by cases hq; omega)
  have hbw7 : Below w.heap.size w W6 := hbw6.grown hg6 hbw6.size (fun q hq => by cases hq; omega)
  have HO7 : Hid (BunR W6 o5 a5 c5 p5 d5) := HO5.out.far hg6 (fun q hq => by have := HF5.out q hq; omega) (no8 hH6)
  obtain ⟨h0, h1, h2, h3, h4, h5, h6, h7, h8, h9, h10, h11, hf0, hf1, hf2, hf3, hf4, hf5, hf6, hf7, hf8, hf9, hf10, hf11⟩ := cells12 hH6
  obtain ⟨i0, i1, i2, i3, i4, i5, i6, i7, i8, i9, i10, i11, -⟩ := cells12 hI7
  rw [hW6] at i0 i1 i2 i3 i4 i5 i6 i7 i8 i9 i10 i11
  go_wp2_with fail
  rw [← hW6]
  clear h0 h1 h2 h3 h4 h5 h6 h7 h8 h9 h10 h11 hf0 hf1 hf2 hf3 hf4 hf5 hf6 hf7 hf8 hf9 hf10 hf11 i0 i1 i2 i3 i4 i5 i6 i7 i8 i9 i10 i11 hW6 hX6 hI6 hH6 hC6
  refine (agedRef_any b ba bc pa pc t W6 (h.below hbw7) ht).mono ?_
  rintro e w7 ⟨⟨o5', a6, c6, p6, d6, n6, rfl, ht6, hO6, hf6⟩, hb7⟩
  obtain ⟨rfl, rfl⟩ := TurnIs.same HT5.out ht6
  clear HT5 ht6
  have HO6 : Hid (BunR w7 o5 a6 c6 p6 d6) := hO6
  have HF6 : Hid (∀ q, a6 = some q → W6.heap.size ≤ q.block) := hf6
  clear hO6 hf6
  unfold bunV
  have hX8 := box_on hX7 hb7
  have hI8 := box_on hI7 hb7
  have hH8 := box_on hH7 hb7
  have hC8 := box_on hC7 hb7
  have hbG8 := below_next hbG7 hb7
  have hbw8 := below_next hbw7 hb7
  have hs7 := hb7.size
  have hs6' := hg6.size
  clear hX7 hI7 hH7 hC7
  obtain ⟨W7, hW7⟩ : ∃ W7 : World, W7 = ((((((((((((w7.setCell ⟨w3.heap.size, 0, none⟩ (.int .u64 o5.fl)).setCell ⟨w3.heap.size, 1, none⟩ (.int .u64 o5.e0)).setCell ⟨w3.heap.size, 2, none⟩ (.int .u64 o5.e1)).setCell ⟨w3.heap.size, 3, none⟩ (.int .u64 o5.e2)).setCell ⟨w3.heap.size, 4, none⟩ (.int .u64 o5.e3)).setCell ⟨w3.heap.size, 5, none⟩ (.int .u64 o5.e4)).setCell ⟨w3.heap.size, 6, none⟩ (.int .u64 o5.e5)).setCell ⟨w3.heap.size, 7, none⟩ (.int .u64 o5.tm)).setCell ⟨w3.heap.size, 8, none⟩ (.int .u64 o5.sq)).setCell ⟨w3.heap.size, 9, none⟩ (.int .u64 o5.lf)).setCell ⟨w3.heap.size, 10, none⟩ (.slice a6 o5.bl.length c6)).setCell ⟨w3.heap.size, 11, none⟩ (.slice p6 o5.py.length d6)) := ⟨_, rfl⟩
  have hg7 : w7.grownBy W7 (some w3.heap.size) := by rw [hW7]; exact gr_set12
  have hC9 : W7.heap[w3.heap.size]? = some (.cells #[.int .u64 o5.fl, .int .u64 o5.e0, .int .u64 o5.e1, .int .u64 o5.e2, .int .u64 o5.e3, .int .u64 o5.e4, .int .u64 o5.e5, .int .u64 o5.tm, .int .u64 o5.sq, .int .u64 o5.lf, .slice a6 o5.bl.length c6, .slice p6 o5.py.length d6] 57 (0, 0)) := by rw [hW7]; exact heap_set12 hC8
  have hX9 := gr_box hg7 (show w1.heap.size ≠ w3.heap.size by omega) hX8
  have hI9 := gr_box hg7 (show w.heap.size ≠ w3.heap.size by omega) hI8
  have hH9 := gr_box hg7 (show w2.heap.size ≠ w3.heap.size by omega) hH8
  have hbG9 : Below W1.heap.size W1 W7 := hbG8.grown hg7 hbG8.size (fun q hq => by cases hq; omega)
  have hbw9 : Below w.heap.size w W7 := hbw8.grown hg7 hbw8.size (fun q hq => by cases hq; omega)
  have hRA := (HO7.out.below hb7).far hg7 (fun q hq => by have := HF5.out q hq; omega) (no8 hC8)
  have hRB := HO6.out.far hg7 (fun q hq => by have := HF6.out q hq; omega) (no8 hC8)
  obtain ⟨k0, k1, k2, k3, k4, k5, k6, k7, k8, k9, k10, k11, kf0, kf1, kf2, kf3, kf4, kf5, kf6, kf7, kf8, kf9, kf10, kf11⟩ := cells12 hC8
  obtain ⟨h0, h1, h2, h3, h4, h5, h6, h7, h8, h9, h10, h11, -⟩ := cells12 hH9
  rw [hW7] at h0 h1 h2 h3 h4 h5 h6 h7 h8 h9 h10 h11
  go_wp2_with fail
  rw [← hW7]
  clear k0 k1 k2 k3 k4 k5 k6 k7 k8 k9 k10 k11 kf0 kf1 kf2 kf3 kf4 kf5 kf6 kf7 kf8 kf9 kf10 kf11 h0 h1 h2 h3 h4 h5 h6 h7 h8 h9 h10 h11 hW7 hX8 hI8 hH8 hC8
  refine (is_t o5 a5 a6 c5 c6 p5 p6 d5 d6 W7 hRA hRB).mono ?_
  rintro e w8 ⟨rfl, hb8⟩
  have hX10 := box_on hX9 hb8
  have hI10 := box_on hI9 hb8
  have hbG10 := below_next hbG9 hb8
  have hbw10 := below_next hbw9 hb8
  clear hX9 hI9 hRA hRB
  obtain ⟨x0, x1, x2, x3, x4, x5, x6, x7, x8, x9, x10, x11, -⟩ := cells12 hX10
  obtain ⟨i0, i1, i2, i3, i4, i5, i6, i7, i8, i9, i10, i11, -⟩ := cells12 hI10
  go_wp2_with fail
  refine (kept_t b g1 q1 ba bc pa pc w8 (hG1.below hbG10) (h.below hbw10)).mono ?_
  rintro e w9 ⟨rfl, hb9⟩
  clear x0 x1 x2 x3 x4 x5 x6 x7 x8 x9 x10 x11 i0 i1 i2 i3 i4 i5 i6 i7 i8 i9 i10 i11
  go_wp2
  go_ret
  exact ⟨rfl, below_next hbw10 hb9⟩
end Go.Proofs.Ytdpkommmkcmifab
