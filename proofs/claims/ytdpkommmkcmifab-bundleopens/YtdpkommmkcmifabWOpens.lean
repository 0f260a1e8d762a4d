import Derived.Test.YtdpkommmkcmifabOpenR
namespace Go.Proofs.Ytdpkommmkcmifab
set_option linter.unusedVariables false
set_option linter.unusedSimpArgs false
open Go.RowKit
def frmV (st : Int) (tm sq lf : Nat) (xs : List UInt8) (a : Option Addr) (c : Nat) : Value := .agg #[.int .i64 st, .int .u64 tm, .int .u64 sq, .int .u64 lf, .slice a xs.length c]
set_option maxRecDepth 20000 in
set_option maxHeartbeats 800000 in
theorem isFrame_t (st : Int) (tm sq lf : Nat) (xs : List UInt8) (a a' : Option Addr) (c c' : Nat) (w : World) (h : Rd w a xs) (h' : Rd w a' xs) :
    Calls Try.prog 16 #[frmV st tm sq lf xs a c, frmV st tm sq lf xs a' c'] w fun e w' => e = .returned (.bool true) ∧ Below w.heap.size w w' := by
  unfold frmV
  have h1 := fun o1 o2 => conv_rd' ((h.alloc o1).alloc o2) _ c rfl
  have h2 := fun o1 o2 => conv_rd' ((h'.alloc o1).alloc o2) _ c' rfl
  go_enter Try.func16, Try.ntmps16
  go_wp2
  go_ret
  exact ⟨rfl, al (al (Below.refl _ _) _) _⟩
set_option maxRecDepth 20000 in
set_option maxHeartbeats 3200000 in
theorem opens_walk (b : Bun) (ba : Option Addr) (bc : Nat) (pa : Option Addr) (pc : Nat) (w : World) (h : BunR w b ba bc pa pc) :
    Calls Try.prog 5 #[bunV b ba bc pa pc] w fun e w' => e = .returned (.bool true) ∧ Below w.heap.size w w' := by
  unfold bunV
  obtain ⟨W0, hW0⟩ : ∃ W0 : World, W0 = w.alloc (.cells #[.int .u64 b.fl, .int .u64 b.e0, .int .u64 b.e1, .int .u64 b.e2, .int .u64 b.e3, .int .u64 b.e4, .int .u64 b.e5, .int .u64 b.tm, .int .u64 b.sq, .int .u64 b.lf, .slice ba b.bl.length bc, .slice pa b.py.length pc] 57) := ⟨_, rfl⟩
  have hI : W0.heap[w.heap.size]? = some (.cells #[.int .u64 b.fl, .int .u64 b.e0, .int .u64 b.e1, .int .u64 b.e2, .int .u64 b.e3, .int .u64 b.e4, .int .u64 b.e5, .int .u64 b.tm, .int .u64 b.sq, .int .u64 b.lf, .slice ba b.bl.length bc, .slice pa b.py.length pc] 57 (0, 0)) := by rw [hW0]; exact heap_alloc_new w _
  have hb0 : Below w.heap.size w W0 := by rw [hW0]; exact al (Below.refl _ _) _
  have HS0 : Hid (w.heap.size + 1 = W0.heap.size) := by unfold Hid; rw [hW0]; simp
  go_enter Try.func5, Try.ntmps5
  go_wp2_with fail
  rw [← hW0]
  clear hW0
  refine (given_any b ba bc pa pc W0 (h.below hb0)).mono ?_
  rintro e w1 ⟨g1, q1, rfl, hG1, hb1⟩
  have hI1 := box_on hI hb1
  obtain ⟨W1, hW1⟩ : ∃ W1 : World, W1 = w1.alloc (.cells #[.int .u64 b.fl, .int .u64 b.e0, .int .u64 b.e1, .int .u64 b.e2, .int .u64 b.e3, .int .u64 b.e4, .int .u64 b.e5, .int .u64 b.tm, .int .u64 b.sq, .int .u64 b.lf, .slice (some ⟨g1, 0, none⟩) b.bl.length (b.bl.length + 2), .slice (some ⟨q1, 0, none⟩) b.py.length (b.py.length + 4)] 36) := ⟨_, rfl⟩
  have hX1 : W1.heap[w1.heap.size]? = some (.cells #[.int .u64 b.fl, .int .u64 b.e0, .int .u64 b.e1, .int .u64 b.e2, .int .u64 b.e3, .int .u64 b.e4, .int .u64 b.e5, .int .u64 b.tm, .int .u64 b.sq, .int .u64 b.lf, .slice (some ⟨g1, 0, none⟩) b.bl.length (b.bl.length + 2), .slice (some ⟨q1, 0, none⟩) b.py.length (b.py.length + 4)] 36 (0, 0)) := by rw [hW1]; exact heap_alloc_new w1 _
  have hb1' : Below w1.heap.size w1 W1 := by rw [hW1]; exact al (Below.refl _ _) _
  have hI1 := box_on hI1 hb1'
  have hG1 := hG1.below hb1'
  have hbw1 : Below w.heap.size w W1 := below_next hb0 (below_next hb1 hb1')
  unfold bunV
  go_wp2_with fail
  rw [← hW1]
  clear hW1 hI hb1 hb1' hb0
  refine (open_any b _ _ _ _ W1 hG1.toR).mono ?_
  rintro e w2 ⟨⟨st, tm, sq, lf, a2, c2, xs, fr, nw, n, rfl, ho2, hr2⟩, hb2⟩
  have HO2 : Hid (OpenIs b st tm sq lf xs fr nw n) := ho2
  clear ho2
  obtain ⟨W2, hW2⟩ : ∃ W2 : World, W2 = w2.alloc (.cells #[.int .i64 st, .int .u64 (tm : Nat), .int .u64 (sq : Nat), .int .u64 (lf : Nat), .slice a2 xs.length c2] 27) := ⟨_, rfl⟩
  have hY2 : W2.heap[w2.heap.size]? = some (.cells #[.int .i64 st, .int .u64 (tm : Nat), .int .u64 (sq : Nat), .int .u64 (lf : Nat), .slice a2 xs.length c2] 27 (0, 0)) := by rw [hW2]; exact heap_alloc_new w2 _
  have hb2' : Below w2.heap.size w2 W2 := by rw [hW2]; exact al (Below.refl _ _) _
  have hX2 := box_on (box_on hX1 hb2) hb2'
  have hI2 := box_on (box_on hI1 hb2) hb2'
  have hG2 := (hG1.below hb2).below hb2'
  have hbw2 := below_next hbw1 (below_next hb2 hb2')
  have hr2' := hr2.below hb2'
  obtain ⟨i0, i1, i2, i3, i4, i5, i6, i7, i8, i9, i10, i11, -⟩ := cells12 hI2
  rw [hW2] at i0 i1 i2 i3 i4 i5 i6 i7 i8 i9 i10 i11
  go_wp2_with fail
  rw [← hW2]
  clear hW2 i0 i1 i2 i3 i4 i5 i6 i7 i8 i9 i10 i11 hr2 hb2 hb2'
  refine (openRef_any b ba bc pa pc W2 (h.below hbw2)).mono ?_
  rintro e w3 ⟨⟨st', tm', sq', lf', a3, c3, xs', fr', nw', n', rfl, ho3, hr3⟩, hb3⟩
  obtain ⟨rfl, rfl, rfl, rfl, rfl, rfl, rfl, rfl⟩ := HO2.out.same ho3
  clear ho3
  obtain ⟨W3, hW3⟩ : ∃ W3 : World, W3 = w3.alloc (.cells #[.int .i64 st, .int .u64 (tm : Nat), .int .u64 (sq : Nat), .int .u64 (lf : Nat), .slice a3 xs.length c3] 27) := ⟨_, rfl⟩
  have hZ3 : W3.heap[w3.heap.size]? = some (.cells #[.int .i64 st, .int .u64 (tm : Nat), .int .u64 (sq : Nat), .int .u64 (lf : Nat), .slice a3 xs.length c3] 27 (0, 0)) := by rw [hW3]; exact heap_alloc_new w3 _
  have hb3' : Below w3.heap.size w3 W3 := by rw [hW3]; exact al (Below.refl _ _) _
  have hX3 := box_on (box_on hX2 hb3) hb3'
  have hI3 := box_on (box_on hI2 hb3) hb3'
  have hY3 := box_on (box_on hY2 hb3) hb3'
  have hG3 := (hG2.below hb3).below hb3'
  have hbw3 := below_next hbw2 (below_next hb3 hb3')
  have hra := (hr2'.below hb3).below hb3'
  have hrb := hr3.below hb3'
  obtain ⟨y0, y1, y2, y3, y4, -⟩ := cells5 hY3
  rw [hW3] at y0 y1 y2 y3 y4
  go_wp2_with fail
  rw [← hW3]
  clear hW3 y0 y1 y2 y3 y4
  refine (isFrame_t st tm sq lf xs a2 a3 c2 c3 W3 hra hrb).mono ?_
  rintro e w4 ⟨rfl, hb4⟩
  have hX4 := box_on hX3 hb4
  have hI4 := box_on hI3 hb4
  have hbw4 := below_next hbw3 hb4
  obtain ⟨x0, x1, x2, x3, x4, x5, x6, x7, x8, x9, x10, x11, -⟩ := cells12 hX4
  obtain ⟨i0, i1, i2, i3, i4, i5, i6, i7, i8, i9, i10, i11, -⟩ := cells12 hI4
  go_wp2_with fail
  refine (kept_t b g1 q1 ba bc pa pc w4 (hG3.below hb4) (h.below hbw4)).mono ?_
  rintro e w5 ⟨rfl, hb5⟩
  clear x0 x1 x2 x3 x4 x5 x6 x7 x8 x9 x10 x11 i0 i1 i2 i3 i4 i5 i6 i7 i8 i9 i10 i11
  go_wp2
  go_ret
  exact ⟨rfl, below_next hbw4 hb5⟩
end Go.Proofs.Ytdpkommmkcmifab
