import Derived.Test.YtdpkommmkcmifabByR
import Derived.Test.YtdpkommmkcmifabKept
import Derived.Test.YtdpkommmkcmifabGiven
namespace Go.Proofs.Ytdpkommmkcmifab
set_option linter.unusedVariables false
set_option linter.unusedSimpArgs false
open Go.RowKit
theorem ValidIs.same {b : Bun} {m n : Int} (h : ValidIs b m) (k : ValidIs b n) : m = n := by
  rcases h with ⟨h1, h2⟩ | ⟨h1, h2⟩ <;> rcases k with ⟨k1, k2⟩ | ⟨k1, k2⟩
  · rw [h2, k2]
  · exact absurd k1 h1
  · exact absurd h1 k1
  · rw [h2, k2]
set_option maxRecDepth 20000 in
set_option maxHeartbeats 800000 in
theorem validRef_any (b : Bun) (ba : Option Addr) (bc : Nat) (pa : Option Addr) (pc : Nat) (w : World) (h : BunR w b ba bc pa pc) :
    Calls Try.prog 22 #[bunV b ba bc pa pc] w fun e w' => (∃ n, e = .returned (.int .i64 n) ∧ ValidIs b n) ∧ Below w.heap.size w w' := by
  unfold bunV
  obtain ⟨W0, hW0⟩ : ∃ W0 : World, W0 = w.alloc (.cells #[.int .u64 b.fl, .int .u64 b.e0, .int .u64 b.e1, .int .u64 b.e2, .int .u64 b.e3, .int .u64 b.e4, .int .u64 b.e5, .int .u64 b.tm, .int .u64 b.sq, .int .u64 b.lf, .slice ba b.bl.length bc, .slice pa b.py.length pc] 57) := ⟨_, rfl⟩
  have hI : W0.heap[w.heap.size]? = some (.cells #[.int .u64 b.fl, .int .u64 b.e0, .int .u64 b.e1, .int .u64 b.e2, .int .u64 b.e3, .int .u64 b.e4, .int .u64 b.e5, .int .u64 b.tm, .int .u64 b.sq, .int .u64 b.lf, .slice ba b.bl.length bc, .slice pa b.py.length pc] 57 (0, 0)) := by rw [hW0]; exact heap_alloc_new w _
  have hb0 : Below w.heap.size w W0 := by rw [hW0]; exact al (Below.refl _ _) _
  have HS0 : Hid (w.heap.size + 1 = W0.heap.size) := by unfold Hid; rw [hW0]; simp
  go_enter Try.func22, Try.ntmps22
  go_wp2_with fail
  rw [← hW0]
  clear hW0
  refine (goodRef_any b ba bc pa pc W0 (h.below hb0)).mono ?_
  rintro e w1 ⟨⟨r, rfl, hr⟩, hb1⟩
  have HR : Hid (r = true ↔ GoodB b) := hr
  clear hr
  rcases r with _ | _
  · have HG : Hid (¬ GoodB b) := fun hg => by have := HR.out.2 hg; cases this
    clear HR
    go_wp2
    go_ret
    exact ⟨⟨20, rfl, .inl ⟨HG.out, rfl⟩⟩, below_next hb0 hb1⟩
  · have HG : Hid (GoodB b) := HR.out.1 rfl
    have hI1 := box_on hI hb1
    obtain ⟨i0, i1, i2, i3, i4, i5, i6, i7, i8, i9, i10, i11, -⟩ := cells12 hI1
    clear HR
    have HL : Hid ((encB b).length ≤ 2000) := encB_len h.ok HG.out
    go_wp2_with fail
    refine (bytesRef_any b ba bc pa pc w1 (h.below (below_next hb0 hb1)) HG.out).mono ?_
    rintro e w2 ⟨v2, rfl, hown2, hb2⟩
    clear i0 i1 i2 i3 i4 i5 i6 i7 i8 i9 i10 i11
    obtain ⟨a1, c1, hv1, -, -, -, -, -⟩ := hown2.val
    obtain ⟨m1, hm1⟩ : ∃ m1, m1 = (encB b).length := ⟨_, rfl⟩
    rw [← hm1] at hv1
    subst hv1
    have hml : m1 ≤ 2000 := by rw [hm1]; exact HL.out
    have hbb := below_next hb0 (below_next hb1 hb2)
    by_cases hb : 1024 < m1
    · have HV : Hid (fitsS b = 81) := by unfold Hid fitsS; rw [← hm1, if_pos hb]
      clear hm1 hown2
      go_wp2
      go_ret
      exact ⟨⟨81, rfl, .inr ⟨HG.out, HV.out.symm⟩⟩, hbb⟩
    · have HV : Hid (fitsS b = 0) := by unfold Hid fitsS; rw [← hm1, if_neg hb]
      clear hm1 hown2
      go_wp2
      go_ret
      exact ⟨⟨0, rfl, .inr ⟨HG.out, HV.out.symm⟩⟩, hbb⟩
set_option maxRecDepth 20000 in
set_option maxHeartbeats 800000 in
theorem encodeRef_any (b : Bun) (ba : Option Addr) (bc : Nat) (pa : Option Addr) (pc : Nat) (w : World) (h : BunR w b ba bc pa pc) :
    Calls Try.prog 21 #[bunV b ba bc pa pc] w fun e w' => (∃ v n xs, e = .returned (.tuple #[v, .int .i64 n]) ∧ ValidIs b n ∧ Own w' w.heap.size v xs ∧ xs = if n = 0 then encB b else []) ∧ Below w.heap.size w w' := by
  unfold bunV
  obtain ⟨W0, hW0⟩ : ∃ W0 : World, W0 = w.alloc (.cells #[.int .u64 b.fl, .int .u64 b.e0, .int .u64 b.e1, .int .u64 b.e2, .int .u64 b.e3, .int .u64 b.e4, .int .u64 b.e5, .int .u64 b.tm, .int .u64 b.sq, .int .u64 b.lf, .slice ba b.bl.length bc, .slice pa b.py.length pc] 57) := ⟨_, rfl⟩
  have hI : W0.heap[w.heap.size]? = some (.cells #[.int .u64 b.fl, .int .u64 b.e0, .int .u64 b.e1, .int .u64 b.e2, .int .u64 b.e3, .int .u64 b.e4, .int .u64 b.e5, .int .u64 b.tm, .int .u64 b.sq, .int .u64 b.lf, .slice ba b.bl.length bc, .slice pa b.py.length pc] 57 (0, 0)) := by rw [hW0]; exact heap_alloc_new w _
  have hb0 : Below w.heap.size w W0 := by rw [hW0]; exact al (Below.refl _ _) _
  have HS0 : Hid (w.heap.size + 1 = W0.heap.size) := by unfold Hid; rw [hW0]; simp
  go_enter Try.func21, Try.ntmps21
  go_wp2_with fail
  rw [← hW0]
  clear hW0
  refine (validRef_any b ba bc pa pc W0 (h.below hb0)).mono ?_
  rintro e w1 ⟨⟨n, rfl, hv⟩, hb1⟩
  have HV : Hid (ValidIs b n) := hv
  clear hv
  by_cases h0 : n = 0
  · subst h0
    have HG : Hid (GoodB b) := by
      rcases HV.out with ⟨_, h⟩ | ⟨h, _⟩
      · cases h
      · exact h
    have hI1 := box_on hI hb1
    obtain ⟨i0, i1, i2, i3, i4, i5, i6, i7, i8, i9, i10, i11, -⟩ := cells12 hI1
    go_wp2_with fail
    refine (bytesRef_any b ba bc pa pc w1 (h.below (below_next hb0 hb1)) HG.out).mono ?_
    rintro e w2 ⟨v2, rfl, hown2, hb2⟩
    clear i0 i1 i2 i3 i4 i5 i6 i7 i8 i9 i10 i11
    go_wp2
    go_ret2
    exact ⟨⟨_, 0, _, rfl, HV.out, hown2.base (below_next hb0 hb1).size, by rw [if_pos rfl]⟩, below_next hb0 (below_next hb1 hb2)⟩
  · go_wp2
    go_ret2
    exact ⟨⟨_, n, [], rfl, HV.out, World.ownsRow_nil _ _ _ _, by rw [if_neg h0]⟩, below_next hb0 hb1⟩
set_option maxRecDepth 20000 in
set_option maxHeartbeats 3200000 in
theorem valids_walk (b : Bun) (ba : Option Addr) (bc : Nat) (pa : Option Addr) (pc : Nat) (w : World) (h : BunR w b ba bc pa pc) :
    Calls Try.prog 4 #[bunV b ba bc pa pc] w fun e w' => e = .returned (.bool true) ∧ Below w.heap.size w w' := by
  unfold bunV
  obtain ⟨W0, hW0⟩ : ∃ W0 : World, W0 = w.alloc (.cells #[.int .u64 b.fl, .int .u64 b.e0, .int .u64 b.e1, .int .u64 b.e2, .int .u64 b.e3, .int .u64 b.e4, .int .u64 b.e5, .int .u64 b.tm, .int .u64 b.sq, .int .u64 b.lf, .slice ba b.bl.length bc, .slice pa b.py.length pc] 57) := ⟨_, rfl⟩
  have hI : W0.heap[w.heap.size]? = some (.cells #[.int .u64 b.fl, .int .u64 b.e0, .int .u64 b.e1, .int .u64 b.e2, .int .u64 b.e3, .int .u64 b.e4, .int .u64 b.e5, .int .u64 b.tm, .int .u64 b.sq, .int .u64 b.lf, .slice ba b.bl.length bc, .slice pa b.py.length pc] 57 (0, 0)) := by rw [hW0]; exact heap_alloc_new w _
  have hb0 : Below w.heap.size w W0 := by rw [hW0]; exact al (Below.refl _ _) _
  have HS0 : Hid (w.heap.size + 1 = W0.heap.size) := by unfold Hid; rw [hW0]; simp
  go_enter Try.func4, Try.ntmps4
  go_wp2_with fail
  rw [← hW0]
  clear hW0
  refine (given_any b ba bc pa pc W0 (h.below hb0)).mono ?_
  rintro e w1 ⟨g1, q1, rfl, hG1, hb1⟩
  have hI1 := box_on hI hb1
  obtain ⟨W1, hW1⟩ : ∃ W1 : World, W1 = w1.alloc (.cells #[.int .u64 b.fl, .int .u64 b.e0, .int .u64 b.e1, .int .u64 b.e2, .int .u64 b.e3, .int .u64 b.e4, .int .u64 b.e5, .int .u64 b.tm, .int .u64 b.sq, .int .u64 b.lf, .slice (some ⟨g1, 0, none⟩) b.bl.length (b.bl.length + 2), .slice (some ⟨q1, 0, none⟩) b.py.length (b.py.length + 4)] 36) := ⟨_, rfl⟩
  have hX1 : W1.heap[w1.heap.size]? = some (.cells #[.int .u64 b.fl, .int .u64 b.e0, .int .u64 b.e1, .int .u64 b.e2, .int .u64 b.e3, .int .u64 b.e4, .int .u64 b.e5, .int .u64 b.tm, .int .u64 b.sq, .int .u64 b.lf, .slice (some ⟨g1, 0, none⟩) b.bl.length (b.bl.length + 2), .slice (some ⟨q1, 0, none⟩) b.py.length (b.py.length + 4)] 36 (0, 0)) := by rw [hW1]; exact heap_alloc_new w1 _
  have hb1' : Below w1.heap.size w1 W1 := by rw [hW1]; exact al (Below.refl _ _) _
  have hI1 := box_on hI1 hb1'
  have hG1 := hG1.below hb1'
  have hbw1 : Below w.heap.size w W1 := below_next hb0 (below_next hb1 hb1')
  unfold bunV
  go_wp2_with fail
  rw [← hW1]
  clear hW1 hI hb1 hb1' hb0
  refine (valid_any b _ _ _ _ W1 hG1.toR).mono ?_
  rintro e w2 ⟨⟨n, rfl, hv⟩, hb2⟩
  have HV : Hid (ValidIs b n) := hv
  clear hv
  have hX2 := box_on hX1 hb2
  have hI2 := box_on hI1 hb2
  have hG2 := hG1.below hb2
  have hbw2 := below_next hbw1 hb2
  obtain ⟨x0, x1, x2, x3, x4, x5, x6, x7, x8, x9, x10, x11, -⟩ := cells12 hX2
  go_wp2_with fail
  refine (encode_any b _ _ _ _ w2 hG2.toR).mono ?_
  rintro e w3 ⟨⟨v3, n3, xs, rfl, hv3, hown3, hxs⟩, hb3⟩
  obtain rfl : n3 = n := hv3.same HV.out
  clear x0 x1 x2 x3 x4 x5 x6 x7 x8 x9 x10 x11
  have hX3 := box_on hX2 hb3
  have hI3 := box_on hI2 hb3
  have hG3 := hG2.below hb3
  have hbw3 := below_next hbw2 hb3
  obtain ⟨i0, i1, i2, i3, i4, i5, i6, i7, i8, i9, i10, i11, -⟩ := cells12 hI3
  obtain ⟨a3, c3, rfl, -, -, -, hr3, -⟩ := hown3.val
  have HR3 : Hid (Rd w3 a3 xs) := hr3
  have HXS : Hid (xs = if n3 = 0 then encB b else []) := hxs
  clear hr3 hown3 hxs hv3
  go_wp2_with fail
  refine (encodeRef_any b ba bc pa pc w3 (h.below hbw3)).mono ?_
  rintro e w4 ⟨⟨v4, n4, ys, rfl, hv4, hown4, hys⟩, hb4⟩
  obtain rfl : n4 = n3 := hv4.same HV.out
  obtain rfl : ys = xs := hys.trans HXS.out.symm
  clear i0 i1 i2 i3 i4 i5 i6 i7 i8 i9 i10 i11
  have hX4 := box_on hX3 hb4
  have hI4 := box_on hI3 hb4
  have hG4 := hG3.below hb4
  have hbw4 := below_next hbw3 hb4
  obtain ⟨i0, i1, i2, i3, i4, i5, i6, i7, i8, i9, i10, i11, -⟩ := cells12 hI4
  obtain ⟨a4, c4, rfl, -, -, -, hr4, -⟩ := hown4.val
  have HR4 : Hid (Rd w4 a4 ys) := hr4
  have HR34 : Hid (Rd w4 a3 ys) := HR3.out.below hb4
  clear hr4 hown4 hys hv4 HXS
  go_wp2_with fail
  refine (validRef_any b ba bc pa pc w4 (h.below hbw4)).mono ?_
  rintro e w5 ⟨⟨n5, rfl, hv5⟩, hb5⟩
  obtain rfl : n5 = n4 := hv5.same HV.out
  clear i0 i1 i2 i3 i4 i5 i6 i7 i8 i9 i10 i11 hv5
  have hX5 := box_on hX4 hb5
  have hI5 := box_on hI4 hb5
  have hG5 := hG4.below hb5
  have hbw5 := below_next hbw4 hb5
  obtain ⟨x0, x1, x2, x3, x4, x5, x6, x7, x8, x9, x10, x11, -⟩ := cells12 hX5
  obtain ⟨i0, i1, i2, i3, i4, i5, i6, i7, i8, i9, i10, i11, -⟩ := cells12 hI5
  have hcv := conv_rd' (HR34.out.below hb5) ys.length c3 rfl
  have hcw := conv_rd' (HR4.out.below hb5) ys.length c4 rfl
  go_wp2_with fail
  refine (kept_t b g1 q1 ba bc pa pc w5 hG5 (h.below hbw5)).mono ?_
  rintro e w6 ⟨rfl, hb6⟩
  clear x0 x1 x2 x3 x4 x5 x6 x7 x8 x9 x10 x11 i0 i1 i2 i3 i4 i5 i6 i7 i8 i9 i10 i11 hcv hcw
  go_wp2
  go_ret
  exact ⟨rfl, below_next hbw5 hb6⟩
end Go.Proofs.Ytdpkommmkcmifab
