import Derived.Test.YtdpkommmkcmifaaWrapB
import Derived.Test.YtdpkommmkcmifaaOpenFr
import Derived.Test.YtdpkommmkcmifaaTrW
import Derived.Test.YtdpkommmkcmifaaOne
namespace Go.Proofs.Ytdpkommmkcmifaa
set_option linter.unusedVariables false
set_option linter.unusedSimpArgs false
open Go.RowKit
theorem bunR_ofS {w : World} {B : Nat} {o : Bun} {a pa : Option Addr} {c pc : Nat} (h1 : RowB w B (.slice a o.bl.length c) o.bl) (h2 : Own w B (.slice pa o.py.length pc) o.py) (h3 : o.ok) : BunR w o a c pa pc := by
  obtain ⟨k1, k2, k3, -⟩ := h1.rd
  obtain ⟨aq, cq, hv, hl, -, hn, hr, -⟩ := h2.val
  simp only [Value.slice.injEq, true_and] at hv
  obtain ⟨rfl, rfl⟩ := hv
  exact ⟨k1, k2, k3, hr, hl, hn, h3⟩
def frmV (st : Int) (tm sq lf : Nat) (xs : List UInt8) (a : Option Addr) (c : Nat) : Value := .agg #[.int .i64 st, .int .u64 tm, .int .u64 sq, .int .u64 lf, .slice a xs.length c]
set_option maxRecDepth 20000 in
set_option maxHeartbeats 800000 in
theorem isFrame_t (st : Int) (tm sq lf : Nat) (xs : List UInt8) (a a' : Option Addr) (c c' : Nat) (w : World) (h : Rd w a xs) (h' : Rd w a' xs) :
    Calls Try.prog 28 #[frmV st tm sq lf xs a c, frmV st tm sq lf xs a' c'] w fun e w' => e = .returned (.bool true) ∧ Below w.heap.size w w' := by
  unfold frmV
  have h1 := fun o1 o2 => conv_rd' ((h.alloc o1).alloc o2) _ c rfl
  have h2 := fun o1 o2 => conv_rd' ((h'.alloc o1).alloc o2) _ c' rfl
  go_enter Try.func28, Try.ntmps28
  go_wp2
  go_ret
  exact ⟨rfl, al (al (Below.refl _ _) _) _⟩
theorem cells5S {W : World} {g : Nat} {t : TypeId} {v0 v1 v2 v3 v4 : Value} (h : W.heap[g]? = some (.cells #[v0, v1, v2, v3, v4] t (0, 0))) : W.cell? ⟨g, 0, none⟩ = some v0 ∧ W.cell? ⟨g, 1, none⟩ = some v1 ∧ W.cell? ⟨g, 2, none⟩ = some v2 ∧ W.cell? ⟨g, 3, none⟩ = some v3 ∧ W.cell? ⟨g, 4, none⟩ = some v4 :=
  ⟨by rw [cell_of_row W g 0 _ t _ h]; rfl, by rw [cell_of_row W g 1 _ t _ h]; rfl, by rw [cell_of_row W g 2 _ t _ h]; rfl, by rw [cell_of_row W g 3 _ t _ h]; rfl, by rw [cell_of_row W g 4 _ t _ h]; rfl⟩
theorem small_tr : Tr 7 5 1 4 300 2 50 [7, 8, 9] (wrB 1 300 2 50 [7, 8, 9] 4 5 true) := ⟨[8, 0], [0], rfl, tr_wr (nw := true) (st := 1) (by unfold fitF; decide) (by decide) (by decide) (by decide)⟩
set_option maxRecDepth 20000 in
set_option maxHeartbeats 1600000 in
theorem small_t (w : World) : Calls Try.prog 21 #[] w fun e w' => e = .returned (.bool true) ∧ Below w.heap.size w w' := by
  obtain ⟨W0, hW0⟩ : ∃ W0 : World, W0 = (w.alloc (.cells #[.int .u8 7, .int .u8 8, .int .u8 9] 5)).alloc (.cells #[.int .i64 1, .int .u64 300, .int .u64 2, .int .u64 50, .slice (some ⟨w.heap.size, 0, none⟩) 3 3] 47) := ⟨_, rfl⟩
  have hF : W0.heap[w.heap.size + 1]? = some (.cells #[.int .i64 1, .int .u64 300, .int .u64 2, .int .u64 50, .slice (some ⟨w.heap.size, 0, none⟩) 3 3] 47 (0, 0)) := by rw [hW0]; exact (two_new w _ _).2
  have hQ : W0.heap[w.heap.size]? = some (.cells #[.int .u8 7, .int .u8 8, .int .u8 9] 5 (0, 0)) := by rw [hW0]; exact (two_new w _ _).1
  have hb0 : Below w.heap.size w W0 := by rw [hW0]; exact al (al (Below.refl _ _) _) _
  have hd : Rd W0 (some ⟨w.heap.size, 0, none⟩) [7, 8, 9] := by
    intro _
    refine ⟨_, _, rfl, fun i hi => ?_⟩
    rw [Nat.zero_add, cell_of_row W0 w.heap.size i _ _ _ hQ]
    match i, hi with
    | 0, _ => rfl
    | 1, _ => rfl
    | 2, _ => rfl
  go_enter Try.func21, Try.ntmps21
  go_wp2_with fail
  rw [← hW0]
  clear hW0 hQ
  refine (wrap_any 1 300 2 50 [7, 8, 9] (some ⟨w.heap.size, 0, none⟩) 3 4 5 true W0 hd (fun e => by cases e) (by omega) (by omega) (by decide)).mono ?_
  rintro e w2 ⟨⟨b, ba, bc, pa, pc, n2, rfl, hw2, hrow2, hown2, hok2⟩, hb2⟩
  have hbv : b = wrB 1 300 2 50 [7, 8, 9] 4 5 true ∧ n2 = 0 := by
    unfold wrapS at hw2
    rw [if_neg (by unfold fitF; omega), if_neg (by decide)] at hw2
    simp only [Prod.mk.injEq] at hw2
    exact ⟨hw2.1.symm, hw2.2.symm⟩
  obtain ⟨hbv, rfl⟩ := hbv
  have HT : Hid (Tr 7 5 1 4 300 2 50 [7, 8, 9] b) := by rw [hbv]; exact small_tr
  have HE : Hid (encB b = [6, 7, 5, 1, 4, 1, 4, 0, 0x82, 0x2c, 2, 0x32, 2, 0x0a, 2, 0, 2, 8, 0, 7, 3, 0, 1, 0, 3, 7, 8, 9]) := by rw [hbv]; exact small_enc
  have HR2 : Hid (BunR w2 b ba bc pa pc) := bunR_of hrow2 hown2 hok2
  clear hw2 hrow2 hown2 hok2 hbv
  unfold bunV
  obtain ⟨W2, hW2⟩ : ∃ W2 : World, W2 = w2.alloc (.cells #[.int .u64 b.fl, .int .u64 b.e0, .int .u64 b.e1, .int .u64 b.e2, .int .u64 b.e3, .int .u64 b.e4, .int .u64 b.e5, .int .u64 b.tm, .int .u64 b.sq, .int .u64 b.lf, .slice ba b.bl.length bc, .slice pa b.py.length pc] 34) := ⟨_, rfl⟩
  have hB : W2.heap[w2.heap.size]? = some (.cells #[.int .u64 b.fl, .int .u64 b.e0, .int .u64 b.e1, .int .u64 b.e2, .int .u64 b.e3, .int .u64 b.e4, .int .u64 b.e5, .int .u64 b.tm, .int .u64 b.sq, .int .u64 b.lf, .slice ba b.bl.length bc, .slice pa b.py.length pc] 34 (0, 0)) := by rw [hW2]; exact heap_alloc_new w2 _
  have hbW2 : Below w2.heap.size w2 W2 := by rw [hW2]; exact al (Below.refl _ _) _
  have hbw2 := below_next hb0 (below_next hb2 hbW2)
  have hF2 := box_on hF (below_next hb2 hbW2)
  have hR2 := HR2.out.below hbW2
  obtain ⟨x0, x1, x2, x3, x4, x5, x6, x7, x8, x9, x10, x11, -⟩ := cells12 hB
  rw [hW2] at x0 x1 x2 x3 x4 x5 x6 x7 x8 x9 x10 x11
  go_wp2_with fail
  rw [← hW2]
  clear x0 x1 x2 x3 x4 x5 x6 x7 x8 x9 x10 x11 hW2
  refine (encode_any b ba bc pa pc W2 hR2).mono ?_
  rintro e w3 ⟨⟨v3, n3, xs, rfl, hv3, hown3, hxs⟩, hb3⟩
  obtain rfl : n3 = 0 := hv3.same HT.out.valid
  rw [if_pos rfl] at hxs
  obtain ⟨a3, c3, rfl, -, -, hn3, hr3, -⟩ := hown3.val
  have HX : Hid (xs = encB b) := hxs
  have hq := conv_rd' hr3 _ c3 rfl
  rw [HX.out, HE.out] at hq
  have HN3 : Hid (a3 = none → c3 = 0) := hn3
  have hl3 : xs.length = 28 := by rw [hxs, HE.out]; rfl
  have hqq : (convert 27 9 (.slice a3 xs.length c3)).run Try.prog w3 = .ok (.string ⟨#[6, 7, 5, 1, 4, 1, 4, 0, 0x82, 0x2c, 2, 0x32, 2, 0x0a, 2, 0, 2, 8, 0, 7, 3, 0, 1, 0, 3, 7, 8, 9]⟩) w3 := by rw [hl3]; exact hq
  clear hxs hn3 hv3 hown3 hq hl3
  have hbw3 := below_next hbw2 hb3
  have hF3 := box_on hF2 hb3
  go_wp2_with fail
  clear hqq
  refine (decode_any a3 c3 xs w3 hr3 HN3.out (by rw [HX.out, HE.out]; decide)).mono ?_
  rintro e w4 ⟨⟨o, a4, c4, p4, d4, n4, rfl, hd4, hrow4, hown4, hok4⟩, hb4⟩
  rw [HX.out, HT.out.dec] at hd4
  simp only [Prod.mk.injEq] at hd4
  obtain ⟨rfl, rfl⟩ := hd4
  have HR4 : Hid (BunR w4 b a4 c4 p4 d4) := bunR_of hrow4 hown4 hok4
  clear hrow4 hown4 hok4 hr3
  unfold bunV
  obtain ⟨W4, hW4⟩ : ∃ W4 : World, W4 = w4.alloc (.cells #[.int .u64 b.fl, .int .u64 b.e0, .int .u64 b.e1, .int .u64 b.e2, .int .u64 b.e3, .int .u64 b.e4, .int .u64 b.e5, .int .u64 b.tm, .int .u64 b.sq, .int .u64 b.lf, .slice a4 b.bl.length c4, .slice p4 b.py.length d4] 34) := ⟨_, rfl⟩
  have hD : W4.heap[w4.heap.size]? = some (.cells #[.int .u64 b.fl, .int .u64 b.e0, .int .u64 b.e1, .int .u64 b.e2, .int .u64 b.e3, .int .u64 b.e4, .int .u64 b.e5, .int .u64 b.tm, .int .u64 b.sq, .int .u64 b.lf, .slice a4 b.bl.length c4, .slice p4 b.py.length d4] 34 (0, 0)) := by rw [hW4]; exact heap_alloc_new w4 _
  have hbW4 : Below w4.heap.size w4 W4 := by rw [hW4]; exact al (Below.refl _ _) _
  have hbw4 := below_next hbw3 (below_next hb4 hbW4)
  have hF4 := box_on hF3 (below_next hb4 hbW4)
  have hR4 := HR4.out.below hbW4
  obtain ⟨x0, x1, x2, x3, x4, x5, x6, x7, x8, x9, x10, x11, -⟩ := cells12 hD
  rw [hW4] at x0 x1 x2 x3 x4 x5 x6 x7 x8 x9 x10 x11
  go_wp2_with fail
  rw [← hW4]
  clear x0 x1 x2 x3 x4 x5 x6 x7 x8 x9 x10 x11 hW4
  refine (open_any b a4 c4 p4 d4 W4 hR4).mono ?_
  rintro e w5 ⟨⟨st, tm, sq, lf, a5, c5, ys, fr, nw, n5, rfl, ho5, hr5⟩, hb5⟩
  obtain ⟨rfl, rfl, rfl, rfl, rfl, rfl, rfl, rfl⟩ := HT.out.opens (by decide) ho5
  clear ho5
  obtain ⟨W5, hW5⟩ : ∃ W5 : World, W5 = w5.alloc (.cells #[.int .i64 1, .int .u64 300, .int .u64 2, .int .u64 50, .slice a5 3 c5] 47) := ⟨_, rfl⟩
  have hG : W5.heap[w5.heap.size]? = some (.cells #[.int .i64 1, .int .u64 300, .int .u64 2, .int .u64 50, .slice a5 3 c5] 47 (0, 0)) := by rw [hW5]; exact heap_alloc_new w5 _
  have hbW5 : Below w5.heap.size w5 W5 := by rw [hW5]; exact al (Below.refl _ _) _
  have hbw5 := below_next hbw4 (below_next hb5 hbW5)
  have hF5 := box_on hF4 (below_next hb5 hbW5)
  obtain ⟨i0, i1, i2, i3, i4⟩ := cells5S hF5
  obtain ⟨j0, j1, j2, j3, j4⟩ := cells5S hG
  rw [hW5] at i0 i1 i2 i3 i4 j0 j1 j2 j3 j4
  go_wp2_with fail
  rw [← hW5]
  clear i0 i1 i2 i3 i4 j0 j1 j2 j3 j4 hW5
  refine (isFrame_t 1 300 2 50 [7, 8, 9] a5 (some ⟨w.heap.size, 0, none⟩) c5 3 W5 (hr5.below hbW5) (hd.below (below_next (below_next (below_next (below_next hb2 hbW2) hb3) (below_next hb4 hbW4)) (below_next hb5 hbW5)))).mono ?_
  rintro e w6 ⟨rfl, hb6⟩
  go_wp2
  go_ret
  exact ⟨rfl, below_next hbw5 hb6⟩
end Go.Proofs.Ytdpkommmkcmifaa
