import Derived.Test.YtdpkommmkcmifaaFind2
import Derived.Test.YtdpkommmkcmifaaKept
import Derived.Test.YtdpkommmkcmifaaGiven
namespace Go.Proofs.Ytdpkommmkcmifaa
set_option linter.unusedVariables false
set_option linter.unusedSimpArgs false
open Go.RowKit
set_option maxRecDepth 20000 in
set_option maxHeartbeats 3200000 in
theorem finds_walk (b : Bun) (ba : Option Addr) (bc : Nat) (pa : Option Addr) (pc : Nat) (kind : Nat) (w : World) (h : BunR w b ba bc pa pc) (_ : kind < 18446744073709551616) :
    Calls Try.prog 3 #[bunV b ba bc pa pc, .int .u64 kind] w fun e w' => e = .returned (.bool true) ∧ Below w.heap.size w w' := by
  obtain ⟨W0, hW0⟩ : ∃ W0 : World, W0 = w.alloc (.cells #[.int .u64 b.fl, .int .u64 b.e0, .int .u64 b.e1, .int .u64 b.e2, .int .u64 b.e3, .int .u64 b.e4, .int .u64 b.e5, .int .u64 b.tm, .int .u64 b.sq, .int .u64 b.lf, .slice ba b.bl.length bc, .slice pa b.py.length pc] 29) := ⟨_, rfl⟩
  have hI : W0.heap[w.heap.size]? = some (.cells #[.int .u64 b.fl, .int .u64 b.e0, .int .u64 b.e1, .int .u64 b.e2, .int .u64 b.e3, .int .u64 b.e4, .int .u64 b.e5, .int .u64 b.tm, .int .u64 b.sq, .int .u64 b.lf, .slice ba b.bl.length bc, .slice pa b.py.length pc] 29 (0, 0)) := by rw [hW0]; exact heap_alloc_new w _
  have hb0 : Below w.heap.size w W0 := by rw [hW0]; exact al (Below.refl _ _) _
  unfold bunV
  go_enter Try.func3, Try.ntmps3
  go_wp2_with fail
  rw [← hW0]
  clear hW0
  refine (given_any b ba bc pa pc W0 (h.below hb0)).mono ?_
  rintro e w1 ⟨g1, q1, rfl, hG1, hb1⟩
  have hI1 := box_on hI hb1
  obtain ⟨W1, hW1⟩ : ∃ W1 : World, W1 = w1.alloc (.cells #[.int .u64 b.fl, .int .u64 b.e0, .int .u64 b.e1, .int .u64 b.e2, .int .u64 b.e3, .int .u64 b.e4, .int .u64 b.e5, .int .u64 b.tm, .int .u64 b.sq, .int .u64 b.lf, .slice (some ⟨g1, 0, none⟩) b.bl.length (b.bl.length + 2), .slice (some ⟨q1, 0, none⟩) b.py.length (b.py.length + 4)] 34) := ⟨_, rfl⟩
  have hX1 : W1.heap[w1.heap.size]? = some (.cells #[.int .u64 b.fl, .int .u64 b.e0, .int .u64 b.e1, .int .u64 b.e2, .int .u64 b.e3, .int .u64 b.e4, .int .u64 b.e5, .int .u64 b.tm, .int .u64 b.sq, .int .u64 b.lf, .slice (some ⟨g1, 0, none⟩) b.bl.length (b.bl.length + 2), .slice (some ⟨q1, 0, none⟩) b.py.length (b.py.length + 4)] 34 (0, 0)) := by rw [hW1]; exact heap_alloc_new w1 _
  have hb1' : Below w1.heap.size w1 W1 := by rw [hW1]; exact al (Below.refl _ _) _
  have hI1 := box_on hI1 hb1'
  have hG1 := hG1.below hb1'
  have hbw1 : Below w.heap.size w W1 := below_next hb0 (below_next hb1 hb1')
  unfold bunV
  go_wp2_with fail
  rw [← hW1]
  clear hW1 hI hb1 hb1' hb0
  rcases placeS_cases b.bl kind with ⟨HP, -⟩ | ⟨k, hk, HP, -⟩
  · skip
    refine (find_miss b _ _ _ _ kind W1 hG1.toR HP).mono ?_
    rintro e w2 ⟨rfl, hb2⟩
    have hX2 := box_on hX1 hb2
    have hI2 := box_on hI1 hb2
    obtain ⟨W2, hW2⟩ : ∃ W2 : World, W2 = w2.alloc (.cells #[.int .u64 0, .int .u64 0, .int .u64 0, .slice none 0 0] 37) := ⟨_, rfl⟩
    have hY2 : W2.heap[w2.heap.size]? = some (.cells #[.int .u64 0, .int .u64 0, .int .u64 0, .slice none 0 0] 37 (0, 0)) := by rw [hW2]; exact heap_alloc_new w2 _
    have hb2' : Below w2.heap.size w2 W2 := by rw [hW2]; exact al (Below.refl _ _) _
    have hX2 := box_on hX2 hb2'
    have hI2 := box_on hI2 hb2'
    obtain ⟨i0, i1, i2, i3, i4, i5, i6, i7, i8, i9, i10, i11, -⟩ := cells12 hI2
    rw [hW2] at i0 i1 i2 i3 i4 i5 i6 i7 i8 i9 i10 i11
    go_wp2_with fail
    rw [← hW2]
    clear hW2
    have hbb : Below W1.heap.size W1 W2 := below_next hb2 hb2'
    clear i0 i1 i2 i3 i4 i5 i6 i7 i8 i9 i10 i11
    refine (refFind_miss b ba bc pa pc kind W2 (h.below (below_next hbw1 hbb)) HP).mono ?_
    rintro e w3 ⟨rfl, hb3⟩
    have hX3 := box_on hX2 hb3
    have hI3 := box_on hI2 hb3
    have hY3 := box_on hY2 hb3
    obtain ⟨W3, hW3⟩ : ∃ W3 : World, W3 = w3.alloc (.cells #[.int .u64 0, .int .u64 0, .int .u64 0, .slice none 0 0] 40) := ⟨_, rfl⟩
    have hZ3 : W3.heap[w3.heap.size]? = some (.cells #[.int .u64 0, .int .u64 0, .int .u64 0, .slice none 0 0] 40 (0, 0)) := by rw [hW3]; exact heap_alloc_new w3 _
    have hb3' : Below w3.heap.size w3 W3 := by rw [hW3]; exact al (Below.refl _ _) _
    have hX3 := box_on hX3 hb3'
    have hI3 := box_on hI3 hb3'
    have hY3 := box_on hY3 hb3'
    obtain ⟨y0, y1, y2, y3, -⟩ := cells4 hY3
    rw [hW3] at y0 y1 y2 y3
    have hbc : Below W2.heap.size W2 W3 := below_next hb3 hb3'
    go_wp2_with fail
    rw [← hW3]
    clear hW3
    refine (isBlock_t ⟨0, 0, 0, []⟩ none none 0 0 W3 (Rd.nil _ _) (Rd.nil _ _)).mono ?_
    rintro e w4 ⟨rfl, hb4⟩
    have hX4 := box_on hX3 hb4
    have hI4 := box_on hI3 hb4
    obtain ⟨x0, x1, x2, x3, x4, x5, x6, x7, x8, x9, x10, x11, -⟩ := cells12 hX4
    obtain ⟨i0, i1, i2, i3, i4, i5, i6, i7, i8, i9, i10, i11, -⟩ := cells12 hI4
    have hbd : Below W1.heap.size W1 w4 := below_next hbb (below_next hbc hb4)
    have HG4 : GivR w4 b g1 q1 := hG1.below hbd
    have hbw4 : Below w.heap.size w w4 := below_next hbw1 hbd
    clear y0 y1 y2 y3
    go_wp2_with fail
    refine (kept_t b g1 q1 ba bc pa pc w4 HG4 (h.below hbw4)).mono ?_
    rintro e w5 ⟨rfl, hb5⟩
    clear x0 x1 x2 x3 x4 x5 x6 x7 x8 x9 x10 x11 i0 i1 i2 i3 i4 i5 i6 i7 i8 i9 i10 i11
    go_wp2
    go_ret
    exact ⟨rfl, below_next hbw4 hb5⟩
  · skip
    refine (find_hit b _ _ _ _ kind W1 hG1.toR k hk HP).mono ?_
    rintro e w2 ⟨⟨a2, c2, rfl, hr2⟩, hb2⟩
    have hX2 := box_on hX1 hb2
    have hI2 := box_on hI1 hb2
    obtain ⟨W2, hW2⟩ : ∃ W2 : World, W2 = w2.alloc (.cells #[.int .u64 b.bl[k].t, .int .u64 b.bl[k].n, .int .u64 b.bl[k].f, .slice a2 b.bl[k].d.length c2] 37) := ⟨_, rfl⟩
    have hY2 : W2.heap[w2.heap.size]? = some (.cells #[.int .u64 b.bl[k].t, .int .u64 b.bl[k].n, .int .u64 b.bl[k].f, .slice a2 b.bl[k].d.length c2] 37 (0, 0)) := by rw [hW2]; exact heap_alloc_new w2 _
    have hb2' : Below w2.heap.size w2 W2 := by rw [hW2]; exact al (Below.refl _ _) _
    have hX2 := box_on hX2 hb2'
    have hI2 := box_on hI2 hb2'
    obtain ⟨i0, i1, i2, i3, i4, i5, i6, i7, i8, i9, i10, i11, -⟩ := cells12 hI2
    rw [hW2] at i0 i1 i2 i3 i4 i5 i6 i7 i8 i9 i10 i11
    unfold blkV
    go_wp2_with fail
    rw [← hW2]
    clear hW2
    have hbb : Below W1.heap.size W1 W2 := below_next hb2 hb2'
    clear i0 i1 i2 i3 i4 i5 i6 i7 i8 i9 i10 i11
    refine (refFind_hit b ba bc pa pc kind W2 (h.below (below_next hbw1 hbb)) k hk HP).mono ?_
    rintro e w3 ⟨⟨a3, c3, rfl, hr3⟩, hb3⟩
    have hX3 := box_on hX2 hb3
    have hI3 := box_on hI2 hb3
    have hY3 := box_on hY2 hb3
    obtain ⟨W3, hW3⟩ : ∃ W3 : World, W3 = w3.alloc (.cells #[.int .u64 b.bl[k].t, .int .u64 b.bl[k].n, .int .u64 b.bl[k].f, .slice a3 b.bl[k].d.length c3] 40) := ⟨_, rfl⟩
    have hZ3 : W3.heap[w3.heap.size]? = some (.cells #[.int .u64 b.bl[k].t, .int .u64 b.bl[k].n, .int .u64 b.bl[k].f, .slice a3 b.bl[k].d.length c3] 40 (0, 0)) := by rw [hW3]; exact heap_alloc_new w3 _
    have hb3' : Below w3.heap.size w3 W3 := by rw [hW3]; exact al (Below.refl _ _) _
    have hX3 := box_on hX3 hb3'
    have hI3 := box_on hI3 hb3'
    have hY3 := box_on hY3 hb3'
    obtain ⟨y0, y1, y2, y3, -⟩ := cells4 hY3
    rw [hW3] at y0 y1 y2 y3
    have hbc : Below W2.heap.size W2 W3 := below_next hb3 hb3'
    unfold blkV
    go_wp2_with fail
    rw [← hW3]
    clear hW3
    refine (isBlock_t b.bl[k] a2 a3 c2 c3 W3 (((hr2.below hb2').below hb3).below hb3') (hr3.below hb3')).mono ?_
    rintro e w4 ⟨rfl, hb4⟩
    have hX4 := box_on hX3 hb4
    have hI4 := box_on hI3 hb4
    obtain ⟨x0, x1, x2, x3, x4, x5, x6, x7, x8, x9, x10, x11, -⟩ := cells12 hX4
    obtain ⟨i0, i1, i2, i3, i4, i5, i6, i7, i8, i9, i10, i11, -⟩ := cells12 hI4
    have hbd : Below W1.heap.size W1 w4 := below_next hbb (below_next hbc hb4)
    have HG4 : GivR w4 b g1 q1 := hG1.below hbd
    have hbw4 : Below w.heap.size w w4 := below_next hbw1 hbd
    clear y0 y1 y2 y3
    go_wp2_with fail
    refine (kept_t b g1 q1 ba bc pa pc w4 HG4 (h.below hbw4)).mono ?_
    rintro e w5 ⟨rfl, hb5⟩
    clear x0 x1 x2 x3 x4 x5 x6 x7 x8 x9 x10 x11 i0 i1 i2 i3 i4 i5 i6 i7 i8 i9 i10 i11
    go_wp2
    go_ret
    exact ⟨rfl, below_next hbw4 hb5⟩
end Go.Proofs.Ytdpkommmkcmifaa
