import Derived.Test.YtdpkommmkcmifaaSmall
import Derived.Test.YtdpkommmkcmifaaGiven
import Derived.Test.YtdpkommmkcmifaaNumb
namespace Go.Proofs.Ytdpkommmkcmifaa
set_option linter.unusedVariables false
set_option linter.unusedSimpArgs false
open Go.RowKit
theorem valid0 {b : Bun} (h : ValidIs b 0) : GoodB b ∧ (encB b).length ≤ 1024 := by
  rcases h with ⟨_, h⟩ | ⟨h, e⟩
  · cases h
  · refine ⟨h, ?_⟩
    unfold fitsS at e
    split at e
    · cases e
    · omega
theorem enc_pos (b : Bun) : 1 ≤ (encB b).length := by
  rw [← pref_all]
  have : dg b.py.length ≠ [] := dg_ne _
  have := List.length_pos_iff.2 this
  simp only [List.length_append]
  omega
set_option maxRecDepth 20000 in
set_option maxHeartbeats 1600000 in
theorem back_walk (b : Bun) (ba : Option Addr) (bc : Nat) (pa : Option Addr) (pc : Nat) (ta : Option Addr) (tc : Nat) (text : List UInt8) (w : World) (h : BunR w b ba bc pa pc) (ht : Rd w ta text) (htc : text.length ≤ tc) (htn : ta = none → tc = 0) (htl : tc ≤ 140737488351232) :
    Calls Try.prog 6 #[bunV b ba bc pa pc, .slice ta text.length tc] w fun e w' => e = .returned (.bool true) ∧ Below w.heap.size w w' := by
  have HTN : Hid (ta = none → tc = 0) := htn
  clear htn
  unfold bunV
  obtain ⟨W0, hW0⟩ : ∃ W0 : World, W0 = w.alloc (.cells #[.int .u64 b.fl, .int .u64 b.e0, .int .u64 b.e1, .int .u64 b.e2, .int .u64 b.e3, .int .u64 b.e4, .int .u64 b.e5, .int .u64 b.tm, .int .u64 b.sq, .int .u64 b.lf, .slice ba b.bl.length bc, .slice pa b.py.length pc] 29) := ⟨_, rfl⟩
  have hI : W0.heap[w.heap.size]? = some (.cells #[.int .u64 b.fl, .int .u64 b.e0, .int .u64 b.e1, .int .u64 b.e2, .int .u64 b.e3, .int .u64 b.e4, .int .u64 b.e5, .int .u64 b.tm, .int .u64 b.sq, .int .u64 b.lf, .slice ba b.bl.length bc, .slice pa b.py.length pc] 29 (0, 0)) := by rw [hW0]; exact heap_alloc_new w _
  have hbW0 : Below w.heap.size w W0 := by rw [hW0]; exact al (Below.refl _ _) _
  go_enter Try.func6, Try.ntmps6
  go_wp2_with fail
  rw [← hW0]
  clear hW0
  refine (small_t W0).mono ?_
  rintro e w1 ⟨rfl, hb1⟩
  have hbw1 := below_next hbW0 hb1
  have hI1 := box_on hI hb1
  obtain ⟨x0, x1, x2, x3, x4, x5, x6, x7, x8, x9, x10, x11, -⟩ := cells12 hI1
  go_wp2_with fail
  clear x0 x1 x2 x3 x4 x5 x6 x7 x8 x9 x10 x11
  refine (given_any b ba bc pa pc w1 (h.below hbw1)).mono ?_
  rintro e w2 ⟨g1, q1, rfl, hG1, hb2⟩
  have hbw2 := below_next hbw1 hb2
  have hI2 := box_on hI1 hb2
  unfold bunV
  go_wp2_with fail
  refine (encode_any b _ _ _ _ w2 hG1.toR).mono ?_
  rintro e w3 ⟨⟨v3, n, l, rfl, hv3, hown3, hxs3⟩, hb3⟩
  have HV : Hid (ValidIs b n) := hv3
  have HL : Hid (l = if n = 0 then encB b else []) := hxs3
  obtain ⟨la, lc, rfl, hlc, -, hln, hlr, -⟩ := hown3.val
  have HLR : Hid (Rd w3 la l) := hlr
  have HLN : Hid (la = none → lc = 0) := hln
  clear hv3 hxs3 hown3 hlr hln
  have hbw3 := below_next hbw2 hb3
  have hI3 := box_on hI2 hb3
  obtain ⟨x0, x1, x2, x3, x4, x5, x6, x7, x8, x9, x10, x11, -⟩ := cells12 hI3
  go_wp2_with fail
  clear x0 x1 x2 x3 x4 x5 x6 x7 x8 x9 x10 x11
  refine (given_any b ba bc pa pc w3 (h.below hbw3)).mono ?_
  rintro e w4 ⟨g2, q2, rfl, hG2, hb4⟩
  have hbw4 := below_next hbw3 hb4
  have hI4 := box_on hI3 hb4
  unfold bunV
  go_wp2_with fail
  refine (valid_any b _ _ _ _ w4 hG2.toR).mono ?_
  rintro e w5 ⟨⟨n', rfl, hv5⟩, hb5⟩
  obtain rfl : n' = n := hv5.same HV.out
  clear hv5
  have hbw5 := below_next hbw4 hb5
  have hI5 := box_on hI4 hb5
  by_cases h0 : n' = 0
  · subst h0
    obtain ⟨hg, hlen⟩ := valid0 HV.out
    have hle : l = encB b := by have := HL.out; simpa using this
    subst hle
    have HRL5 : Hid (Rd w5 la (encB b)) := HLR.out.below (below_next hb4 hb5)
    have hpos := enc_pos b
    go_wp2_with fail
    refine (decode_any la lc (encB b) w5 HRL5.out HLN.out (by omega)).mono ?_
    rintro e w6 ⟨⟨o, a2, c2, p2, d2, n2, rfl, hd2, hrow2, hown2, hok2⟩, hb6⟩
    rw [decS_enc b hg h.ok hlen] at hd2
    simp only [Prod.mk.injEq] at hd2
    obtain ⟨rfl, rfl⟩ := hd2
    have HR6 : Hid (BunR w6 b a2 c2 p2 d2) := bunR_of hrow2 hown2 hok2
    clear hrow2 hown2 hok2
    unfold bunV
    obtain ⟨W6, hW6⟩ : ∃ W6 : World, W6 = w6.alloc (.cells #[.int .u64 b.fl, .int .u64 b.e0, .int .u64 b.e1, .int .u64 b.e2, .int .u64 b.e3, .int .u64 b.e4, .int .u64 b.e5, .int .u64 b.tm, .int .u64 b.sq, .int .u64 b.lf, .slice a2 b.bl.length c2, .slice p2 b.py.length d2] 34) := ⟨_, rfl⟩
    have hD6 : W6.heap[w6.heap.size]? = some (.cells #[.int .u64 b.fl, .int .u64 b.e0, .int .u64 b.e1, .int .u64 b.e2, .int .u64 b.e3, .int .u64 b.e4, .int .u64 b.e5, .int .u64 b.tm, .int .u64 b.sq, .int .u64 b.lf, .slice a2 b.bl.length c2, .slice p2 b.py.length d2] 34 (0, 0)) := by rw [hW6]; exact heap_alloc_new w6 _
    have hbW6 : Below w6.heap.size w6 W6 := by rw [hW6]; exact al (Below.refl _ _) _
    have hbw6 := below_next hbw5 (below_next hb6 hbW6)
    have hI6 := box_on hI5 (below_next hb6 hbW6)
    obtain ⟨x0, x1, x2, x3, x4, x5, x6, x7, x8, x9, x10, x11, -⟩ := cells12 hI6
    obtain ⟨y0, y1, y2, y3, y4, y5, y6, y7, y8, y9, y10, y11, -⟩ := cells12 hD6
    rw [hW6] at x0 x1 x2 x3 x4 x5 x6 x7 x8 x9 x10 x11 y0 y1 y2 y3 y4 y5 y6 y7 y8 y9 y10 y11
    go_wp2_with fail
    rw [← hW6]
    clear x0 x1 x2 x3 x4 x5 x6 x7 x8 x9 x10 x11 y0 y1 y2 y3 y4 y5 y6 y7 y8 y9 y10 y11 hW6
    refine (is_t b a2 ba c2 bc p2 pa d2 pc W6 (HR6.out.below hbW6) (h.below hbw6)).mono ?_
    rintro e w7 ⟨rfl, hb7⟩
    have hbw7 := below_next hbw6 hb7
    have HRL7 : Hid (Rd w7 la (encB b)) := HRL5.out.below (below_next (below_next hb6 hbW6) hb7)
    obtain ⟨lb, lo, rfl, -⟩ := HRL7.out (by omega)
    go_wp2_with fail
    have eL : (encB b).length - 1 = (encB b).dropLast.length := by simp
    rw [eL]
    refine (decode_any (some ⟨lb, lo, none⟩) lc (encB b).dropLast w7 (by rw [List.dropLast_eq_take]; exact HRL7.out.take _) (fun e => by cases e) (by rw [← eL]; omega)).mono ?_
    clear eL
    rintro e w8 ⟨⟨o8, a8, c8, p8, d8, n8, rfl, hd8, -, -, -⟩, hb8⟩
    rw [decS_less b hg h.ok hlen] at hd8
    simp only [Prod.mk.injEq] at hd8
    obtain ⟨-, rfl⟩ := hd8
    have hbw8 := below_next hbw7 hb8
    have HRL8 : Hid (Rd w8 (some ⟨lb, lo, none⟩) (encB b)) := HRL7.out.below hb8
    have h0 : Own w8 w8.heap.size (.slice none 0 0) [] := World.ownsRow_nil _ _ _ _
    unfold bunV
    go_wp2_with (first
      | (at_builtin; refine wp_app rfl _ _ rfl w8.heap.size (.slice none 0 0) [] (encB b) _ _ rfl h0 rfl HRL8.out (fun e => by cases e) (by simp; omega) (Nat.le_refl _) ?_; intro v9 w9 hown9 hg9)
      | (at_builtin; refine wp_app rfl _ _ rfl w8.heap.size _ ([] ++ encB b) [0] (some ⟨w9.heap.size, 0, none⟩) 1 rfl (hown9.alloc _) rfl (rd_lit w9 _ rfl _ _ _ _ rfl) (fun e => by cases e) (by simp; omega) (by have := hg9.size; simp; omega) ?_; intro v10 w10 hown10 hg10; obtain ⟨a10, c10, rfl, -, -, hn10, hr10, -⟩ := hown10.val; have HN10 : Hid _ := hn10; have HR10 : Hid _ := hr10; clear hn10 hr10))
    have hb9 : Below w8.heap.size w8 w9 := (Below.refl _ w8).grown hg9 (Nat.le_refl _) (fun k hk => by cases hk)
    have hb10 : Below w8.heap.size w8 w10 := (al hb9 _).grown hg10 (by have := hg9.size; simp; omega) (fun k hk => (World.ownsRow.lt hown9 k hk).1)
    have hbw10 := below_next hbw8 hb10
    have eM : (encB b).length + 1 = (encB b ++ [0]).length := by simp
    rw [eM]
    refine (decode_any a10 c10 (encB b ++ [0]) w10 (by have := HR10.out; rwa [List.nil_append] at this) HN10.out (by rw [← eM]; omega)).mono ?_
    clear eM hown9 hown10 hg9 hg10 h0
    rintro e w11 ⟨⟨o11, a11, c11, p11, d11, n11, rfl, hd11, -, -, -⟩, hb11⟩
    unfold bunV
    obtain ⟨W11, hW11⟩ : ∃ W11 : World, W11 = w11.alloc (.cells #[.int .u64 o11.fl, .int .u64 o11.e0, .int .u64 o11.e1, .int .u64 o11.e2, .int .u64 o11.e3, .int .u64 o11.e4, .int .u64 o11.e5, .int .u64 o11.tm, .int .u64 o11.sq, .int .u64 o11.lf, .slice a11 o11.bl.length c11, .slice p11 o11.py.length d11] 34) := ⟨_, rfl⟩
    have hD11 : W11.heap[w11.heap.size]? = some (.cells #[.int .u64 o11.fl, .int .u64 o11.e0, .int .u64 o11.e1, .int .u64 o11.e2, .int .u64 o11.e3, .int .u64 o11.e4, .int .u64 o11.e5, .int .u64 o11.tm, .int .u64 o11.sq, .int .u64 o11.lf, .slice a11 o11.bl.length c11, .slice p11 o11.py.length d11] 34 (0, 0)) := by rw [hW11]; exact heap_alloc_new w11 _
    have hbW11 : Below w11.heap.size w11 W11 := by rw [hW11]; exact al (Below.refl _ _) _
    have hbw11 := below_next hbw10 (below_next hb11 hbW11)
    by_cases h1024 : (encB b).length < 1024
    · rw [decS_more b 0 hg h.ok h1024] at hd11
      simp only [Prod.mk.injEq] at hd11
      obtain ⟨-, rfl⟩ := hd11
      go_wp2_with fail
      rw [← hW11]
      clear hW11
      refine (decode_any ta tc text W11 (ht.below hbw11) HTN.out (by omega)).mono ?_
      rintro e w9 ⟨⟨o, a2, c2, p2, d2, n2, rfl, hd2, hrow2, hown2, hok2⟩, hb9⟩
      have HD2 : Hid (decS text = (o, n2)) := hd2
      have HR2 : Hid (BunR w9 o a2 c2 p2 d2) := bunR_of hrow2 hown2 hok2
      clear hd2 hrow2 hown2 hok2
      unfold bunV
      obtain ⟨W9, hW9⟩ : ∃ W9 : World, W9 = w9.alloc (.cells #[.int .u64 o.fl, .int .u64 o.e0, .int .u64 o.e1, .int .u64 o.e2, .int .u64 o.e3, .int .u64 o.e4, .int .u64 o.e5, .int .u64 o.tm, .int .u64 o.sq, .int .u64 o.lf, .slice a2 o.bl.length c2, .slice p2 o.py.length d2] 34) := ⟨_, rfl⟩
      have hD9 : W9.heap[w9.heap.size]? = some (.cells #[.int .u64 o.fl, .int .u64 o.e0, .int .u64 o.e1, .int .u64 o.e2, .int .u64 o.e3, .int .u64 o.e4, .int .u64 o.e5, .int .u64 o.tm, .int .u64 o.sq, .int .u64 o.lf, .slice a2 o.bl.length c2, .slice p2 o.py.length d2] 34 (0, 0)) := by rw [hW9]; exact heap_alloc_new w9 _
      have hbW9 : Below w9.heap.size w9 W9 := by rw [hW9]; exact al (Below.refl _ _) _
      have hbw9 := below_next hbw11 (below_next hb9 hbW9)
      by_cases h2 : n2 = 0
      · subst h2
        obtain ⟨t1, t2, t3, t4⟩ := decS_inv HD2.out
        have T1 : Hid (text = encB o) := t1
        clear t1
        have hRA := HR2.out.below hbW9
        obtain ⟨x0, x1, x2, x3, x4, x5, x6, x7, x8, x9, x10, x11, -⟩ := cells12 hD9
        rw [hW9] at x0 x1 x2 x3 x4 x5 x6 x7 x8 x9 x10 x11
        go_wp2_with fail
        rw [← hW9]
        rw [← hW9] at x0 x1 x2 x3 x4 x5 x6 x7 x8 x9 x10 x11
        clear x0 x1 x2 x3 x4 x5 x6 x7 x8 x9 x10 x11 hW9
        refine (encode_any o a2 c2 p2 d2 W9 hRA).mono ?_
        rintro e w10 ⟨⟨v3, n3, xs3, rfl, hv3, hown3, hxs3⟩, hb10⟩
        obtain rfl : n3 = 0 := hv3.same (.inr ⟨t2, by unfold fitsS; rw [if_neg (by omega)]⟩)
        obtain ⟨a3, c3, rfl, -, -, -, hr3, -⟩ := hown3.val
        rw [if_pos rfl, ← T1.out] at hxs3
        subst hxs3
        have hbw10 := below_next hbw9 hb10
        have hq1 := conv_rd' hr3 _ c3 rfl
        have hq2 := conv_rd' (ht.below hbw10) _ tc rfl
        obtain ⟨x0, x1, x2, x3, x4, x5, x6, x7, x8, x9, x10, x11, -⟩ := cells12 (box_on hD9 hb10)
        go_wp2_with fail
        clear x0 x1 x2 x3 x4 x5 x6 x7 x8 x9 x10 x11 hq1 hq2
        refine (valid_any o a2 c2 p2 d2 w10 (hRA.below hb10)).mono ?_
        rintro e w11 ⟨⟨n4, rfl, hv4⟩, hb11⟩
        obtain rfl : n4 = 0 := hv4.same (.inr ⟨t2, by unfold fitsS; rw [if_neg (by omega)]⟩)
        go_wp2
        go_ret
        exact ⟨rfl, below_next hbw10 hb11⟩
      · go_wp2_with fail
        go_ret
        rw [← hW9]
        exact ⟨rfl, hbw9⟩
    · rw [decS_long (encB b ++ [0]) (by rw [List.length_append]; simp; omega)] at hd11
      simp only [Prod.mk.injEq] at hd11
      obtain ⟨-, rfl⟩ := hd11
      have hE : (encB b).length = 1024 := by omega
      go_wp2_with fail
      rw [← hW11]
      clear hW11
      refine (decode_any ta tc text W11 (ht.below hbw11) HTN.out (by omega)).mono ?_
      rintro e w9 ⟨⟨o, a2, c2, p2, d2, n2, rfl, hd2, hrow2, hown2, hok2⟩, hb9⟩
      have HD2 : Hid (decS text = (o, n2)) := hd2
      have HR2 : Hid (BunR w9 o a2 c2 p2 d2) := bunR_of hrow2 hown2 hok2
      clear hd2 hrow2 hown2 hok2
      unfold bunV
      obtain ⟨W9, hW9⟩ : ∃ W9 : World, W9 = w9.alloc (.cells #[.int .u64 o.fl, .int .u64 o.e0, .int .u64 o.e1, .int .u64 o.e2, .int .u64 o.e3, .int .u64 o.e4, .int .u64 o.e5, .int .u64 o.tm, .int .u64 o.sq, .int .u64 o.lf, .slice a2 o.bl.length c2, .slice p2 o.py.length d2] 34) := ⟨_, rfl⟩
      have hD9 : W9.heap[w9.heap.size]? = some (.cells #[.int .u64 o.fl, .int .u64 o.e0, .int .u64 o.e1, .int .u64 o.e2, .int .u64 o.e3, .int .u64 o.e4, .int .u64 o.e5, .int .u64 o.tm, .int .u64 o.sq, .int .u64 o.lf, .slice a2 o.bl.length c2, .slice p2 o.py.length d2] 34 (0, 0)) := by rw [hW9]; exact heap_alloc_new w9 _
      have hbW9 : Below w9.heap.size w9 W9 := by rw [hW9]; exact al (Below.refl _ _) _
      have hbw9 := below_next hbw11 (below_next hb9 hbW9)
      by_cases h2 : n2 = 0
      · subst h2
        obtain ⟨t1, t2, t3, t4⟩ := decS_inv HD2.out
        have T1 : Hid (text = encB o) := t1
        clear t1
        have hRA := HR2.out.below hbW9
        obtain ⟨x0, x1, x2, x3, x4, x5, x6, x7, x8, x9, x10, x11, -⟩ := cells12 hD9
        rw [hW9] at x0 x1 x2 x3 x4 x5 x6 x7 x8 x9 x10 x11
        go_wp2_with fail
        rw [← hW9]
        rw [← hW9] at x0 x1 x2 x3 x4 x5 x6 x7 x8 x9 x10 x11
        clear x0 x1 x2 x3 x4 x5 x6 x7 x8 x9 x10 x11 hW9
        refine (encode_any o a2 c2 p2 d2 W9 hRA).mono ?_
        rintro e w10 ⟨⟨v3, n3, xs3, rfl, hv3, hown3, hxs3⟩, hb10⟩
        obtain rfl : n3 = 0 := hv3.same (.inr ⟨t2, by unfold fitsS; rw [if_neg (by omega)]⟩)
        obtain ⟨a3, c3, rfl, -, -, -, hr3, -⟩ := hown3.val
        rw [if_pos rfl, ← T1.out] at hxs3
        subst hxs3
        have hbw10 := below_next hbw9 hb10
        have hq1 := conv_rd' hr3 _ c3 rfl
        have hq2 := conv_rd' (ht.below hbw10) _ tc rfl
        obtain ⟨x0, x1, x2, x3, x4, x5, x6, x7, x8, x9, x10, x11, -⟩ := cells12 (box_on hD9 hb10)
        go_wp2_with fail
        clear x0 x1 x2 x3 x4 x5 x6 x7 x8 x9 x10 x11 hq1 hq2
        refine (valid_any o a2 c2 p2 d2 w10 (hRA.below hb10)).mono ?_
        rintro e w11 ⟨⟨n4, rfl, hv4⟩, hb11⟩
        obtain rfl : n4 = 0 := hv4.same (.inr ⟨t2, by unfold fitsS; rw [if_neg (by omega)]⟩)
        go_wp2
        go_ret
        exact ⟨rfl, below_next hbw10 hb11⟩
      · go_wp2_with fail
        go_ret
        rw [← hW9]
        exact ⟨rfl, hbw9⟩
  · go_wp2_with fail
    refine (decode_any ta tc text w5 (ht.below hbw5) HTN.out (by omega)).mono ?_
    rintro e w9 ⟨⟨o, a2, c2, p2, d2, n2, rfl, hd2, hrow2, hown2, hok2⟩, hb9⟩
    have HD2 : Hid (decS text = (o, n2)) := hd2
    have HR2 : Hid (BunR w9 o a2 c2 p2 d2) := bunR_of hrow2 hown2 hok2
    clear hd2 hrow2 hown2 hok2
    unfold bunV
    obtain ⟨W9, hW9⟩ : ∃ W9 : World, W9 = w9.alloc (.cells #[.int .u64 o.fl, .int .u64 o.e0, .int .u64 o.e1, .int .u64 o.e2, .int .u64 o.e3, .int .u64 o.e4, .int .u64 o.e5, .int .u64 o.tm, .int .u64 o.sq, .int .u64 o.lf, .slice a2 o.bl.length c2, .slice p2 o.py.length d2] 34) := ⟨_, rfl⟩
    have hD9 : W9.heap[w9.heap.size]? = some (.cells #[.int .u64 o.fl, .int .u64 o.e0, .int .u64 o.e1, .int .u64 o.e2, .int .u64 o.e3, .int .u64 o.e4, .int .u64 o.e5, .int .u64 o.tm, .int .u64 o.sq, .int .u64 o.lf, .slice a2 o.bl.length c2, .slice p2 o.py.length d2] 34 (0, 0)) := by rw [hW9]; exact heap_alloc_new w9 _
    have hbW9 : Below w9.heap.size w9 W9 := by rw [hW9]; exact al (Below.refl _ _) _
    have hbw9 := below_next hbw5 (below_next hb9 hbW9)
    by_cases h2 : n2 = 0
    · subst h2
      obtain ⟨t1, t2, t3, t4⟩ := decS_inv HD2.out
      have T1 : Hid (text = encB o) := t1
      clear t1
      have hRA := HR2.out.below hbW9
      obtain ⟨x0, x1, x2, x3, x4, x5, x6, x7, x8, x9, x10, x11, -⟩ := cells12 hD9
      rw [hW9] at x0 x1 x2 x3 x4 x5 x6 x7 x8 x9 x10 x11
      go_wp2_with fail
      rw [← hW9]
      rw [← hW9] at x0 x1 x2 x3 x4 x5 x6 x7 x8 x9 x10 x11
      clear x0 x1 x2 x3 x4 x5 x6 x7 x8 x9 x10 x11 hW9
      refine (encode_any o a2 c2 p2 d2 W9 hRA).mono ?_
      rintro e w10 ⟨⟨v3, n3, xs3, rfl, hv3, hown3, hxs3⟩, hb10⟩
      obtain rfl : n3 = 0 := hv3.same (.inr ⟨t2, by unfold fitsS; rw [if_neg (by omega)]⟩)
      obtain ⟨a3, c3, rfl, -, -, -, hr3, -⟩ := hown3.val
      rw [if_pos rfl, ← T1.out] at hxs3
      subst hxs3
      have hbw10 := below_next hbw9 hb10
      have hq1 := conv_rd' hr3 _ c3 rfl
      have hq2 := conv_rd' (ht.below hbw10) _ tc rfl
      obtain ⟨x0, x1, x2, x3, x4, x5, x6, x7, x8, x9, x10, x11, -⟩ := cells12 (box_on hD9 hb10)
      go_wp2_with fail
      clear x0 x1 x2 x3 x4 x5 x6 x7 x8 x9 x10 x11 hq1 hq2
      refine (valid_any o a2 c2 p2 d2 w10 (hRA.below hb10)).mono ?_
      rintro e w11 ⟨⟨n4, rfl, hv4⟩, hb11⟩
      obtain rfl : n4 = 0 := hv4.same (.inr ⟨t2, by unfold fitsS; rw [if_neg (by omega)]⟩)
      go_wp2
      go_ret
      exact ⟨rfl, below_next hbw10 hb11⟩
    · go_wp2_with fail
      go_ret
      rw [← hW9]
      exact ⟨rfl, hbw9⟩
end Go.Proofs.Ytdpkommmkcmifaa
