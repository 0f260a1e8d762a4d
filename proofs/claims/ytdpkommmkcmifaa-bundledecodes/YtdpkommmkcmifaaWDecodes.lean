import Derived.Test.YtdpkommmkcmifaaDecD
import Derived.Test.YtdpkommmkcmifaaKept
namespace Go.Proofs.Ytdpkommmkcmifaa
set_option linter.unusedVariables false
set_option linter.unusedSimpArgs false
open Go.RowKit
set_option maxRecDepth 20000 in
set_option maxHeartbeats 1600000 in
theorem decodes_walk (ao : Option Addr) (cap : Nat) (xs : List UInt8) (w : World) (hx : Rd w ao xs) (hlc : xs.length ≤ cap) (hnil : ao = none → cap = 0) (hcc : cap ≤ 140737488351232) :
    Calls Try.prog 5 #[.slice ao xs.length cap] w fun e w' => e = .returned (.bool true) ∧ Below w.heap.size w w' := by
  have hl : xs.length ≤ 140737488351232 := Nat.le_trans hlc hcc
  have HN : Hid (ao = none → cap = 0) := hnil
  clear hnil hlc hcc
  go_enter Try.func5, Try.ntmps5
  go_wp2_with fail
  refine (bytes_any ao cap xs w hx hl).mono ?_
  rintro e w1 ⟨q, rfl, hq, hr1, hb1⟩
  go_wp2_with fail
  refine (decode_any (some ⟨q, 0, none⟩) (xs.length + 4) xs w1 (rd_m4 hr1) (fun e => by cases e) (by omega)).mono ?_
  rintro e w2 ⟨⟨o, a2, c2, p2, d2, n2, rfl, hd2, hrow2, hown2, hok2⟩, hb2⟩
  have HD2 : Hid (decS xs = (o, n2)) := hd2
  have HR2 : Hid (BunR w2 o a2 c2 p2 d2) := bunR_of hrow2 hown2 hok2
  clear hd2 hrow2 hown2 hok2
  unfold bunV
  obtain ⟨W2, hW2⟩ : ∃ W2 : World, W2 = w2.alloc (.cells #[.int .u64 o.fl, .int .u64 o.e0, .int .u64 o.e1, .int .u64 o.e2, .int .u64 o.e3, .int .u64 o.e4, .int .u64 o.e5, .int .u64 o.tm, .int .u64 o.sq, .int .u64 o.lf, .slice a2 o.bl.length c2, .slice p2 o.py.length d2] 34) := ⟨_, rfl⟩
  have hD2 : W2.heap[w2.heap.size]? = some (.cells #[.int .u64 o.fl, .int .u64 o.e0, .int .u64 o.e1, .int .u64 o.e2, .int .u64 o.e3, .int .u64 o.e4, .int .u64 o.e5, .int .u64 o.tm, .int .u64 o.sq, .int .u64 o.lf, .slice a2 o.bl.length c2, .slice p2 o.py.length d2] 34 (0, 0)) := by rw [hW2]; exact heap_alloc_new w2 _
  have hb2' : Below w2.heap.size w2 W2 := by rw [hW2]; exact al (Below.refl _ _) _
  have hbw2 := below_next hb1 (below_next hb2 hb2')
  go_wp2_with fail
  rw [← hW2]
  clear hW2
  refine (decodeRef_any ao cap xs W2 (hx.below hbw2) HN.out (by omega)).mono ?_
  rintro e w3 ⟨⟨o', a3, c3, p3, d3, n3, rfl, hd3, hR3, -⟩, hb3⟩
  rw [HD2.out] at hd3
  simp only [Prod.mk.injEq] at hd3
  obtain ⟨rfl, rfl⟩ := hd3
  unfold bunV
  obtain ⟨W3, hW3⟩ : ∃ W3 : World, W3 = w3.alloc (.cells #[.int .u64 o.fl, .int .u64 o.e0, .int .u64 o.e1, .int .u64 o.e2, .int .u64 o.e3, .int .u64 o.e4, .int .u64 o.e5, .int .u64 o.tm, .int .u64 o.sq, .int .u64 o.lf, .slice a3 o.bl.length c3, .slice p3 o.py.length d3] 29) := ⟨_, rfl⟩
  have hC3 : W3.heap[w3.heap.size]? = some (.cells #[.int .u64 o.fl, .int .u64 o.e0, .int .u64 o.e1, .int .u64 o.e2, .int .u64 o.e3, .int .u64 o.e4, .int .u64 o.e5, .int .u64 o.tm, .int .u64 o.sq, .int .u64 o.lf, .slice a3 o.bl.length c3, .slice p3 o.py.length d3] 29 (0, 0)) := by rw [hW3]; exact heap_alloc_new w3 _
  have hb3' : Below w3.heap.size w3 W3 := by rw [hW3]; exact al (Below.refl _ _) _
  have hD3 := box_on (box_on hD2 hb3) hb3'
  have hb3b : Below W2.heap.size W2 W3 := below_next hb3 hb3'
  have hbw3 := below_next hbw2 hb3b
  have hRA := HR2.out.below (below_next hb2' hb3b)
  have hRB := hR3.below hb3'
  have hr3 := hr1.below (below_next hb2 (below_next hb2' hb3b))
  obtain ⟨h0, h1, h2, h3, h4, h5, h6, h7, h8, h9, h10, h11, -⟩ := cells12 hD3
  rw [hW3] at h0 h1 h2 h3 h4 h5 h6 h7 h8 h9 h10 h11
  go_wp2_with fail
  rw [← hW3]
  clear h0 h1 h2 h3 h4 h5 h6 h7 h8 h9 h10 h11 hW3 hD2 hD3
  refine (is_t o a2 a3 c2 c3 p2 p3 d2 d3 W3 hRA hRB).mono ?_
  rintro e w4 ⟨rfl, hb4⟩
  have hbw4 := below_next hbw3 hb4
  go_wp2_with fail
  refine (stays_t q ao cap xs w4 (hr3.below hb4) (hx.below hbw4) hl).mono ?_
  rintro e w5 ⟨rfl, hb5⟩
  go_wp2
  go_ret
  exact ⟨rfl, below_next hbw4 hb5⟩
end Go.Proofs.Ytdpkommmkcmifaa
