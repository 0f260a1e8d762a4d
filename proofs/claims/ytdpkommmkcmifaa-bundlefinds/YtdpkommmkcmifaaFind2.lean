import Derived.Test.YtdpkommmkcmifaaFind
namespace Go.Proofs.Ytdpkommmkcmifaa
set_option linter.unusedVariables false
set_option linter.unusedSimpArgs false
open Go.RowKit
set_option maxRecDepth 20000 in
set_option maxHeartbeats 800000 in
theorem refPlace_any (b : Bun) (ba : Option Addr) (bc : Nat) (pa : Option Addr) (pc : Nat) (kind : Nat) (w : World) (h : BunR w b ba bc pa pc) :
    Calls Try.prog 32 #[bunV b ba bc pa pc, .int .u64 kind] w fun e w' => e = .returned (.int .i64 (placeS b.bl kind)) ∧ Below w.heap.size w w' := by
  unfold bunV
  have hbn := h.ok.bn
  have hlb := h.lb
  obtain ⟨W0, hW0⟩ : ∃ W0 : World, W0 = w.alloc (.cells #[.int .u64 b.fl, .int .u64 b.e0, .int .u64 b.e1, .int .u64 b.e2, .int .u64 b.e3, .int .u64 b.e4, .int .u64 b.e5, .int .u64 b.tm, .int .u64 b.sq, .int .u64 b.lf, .slice ba b.bl.length bc, .slice pa b.py.length pc] 29) := ⟨_, rfl⟩
  have hI : W0.heap[w.heap.size]? = some (.cells #[.int .u64 b.fl, .int .u64 b.e0, .int .u64 b.e1, .int .u64 b.e2, .int .u64 b.e3, .int .u64 b.e4, .int .u64 b.e5, .int .u64 b.tm, .int .u64 b.sq, .int .u64 b.lf, .slice ba b.bl.length bc, .slice pa b.py.length pc] 29 (0, 0)) := by rw [hW0]; exact heap_alloc_new w _
  have hb0 : Below w.heap.size w W0 := by rw [hW0]; exact al (Below.refl _ _) _
  obtain ⟨p0, p1, p2, p3, p4, p5, p6, p7, p8, p9, p10, p11, -⟩ := cells12 hI
  have hl := h.rb.below hb0
  clear p0 p1 p2 p3 p4 p5 p6 p7 p8 p9 p11 hI
  go_enter Try.func32, Try.ntmps32
  go_wp2
  rw [← hW0]
  clear hW0
  go_loop [5] (fun i => ∃ k : Nat, k ≤ b.bl.length ∧ i = .int .i64 k ∧ (∀ j (hj : j < b.bl.length), j < k → b.bl[j].t ≠ kind)) (fun i => b.bl.length - (intOf i).toNat)
  case atStart => exact ⟨0, Nat.zero_le _, rfl, fun j _ h => absurd h (Nat.not_lt_zero j)⟩
  case round =>
    obtain ⟨k, hk, rfl, hall⟩ := hrel
    have HA : Hid (∀ j (hj : j < b.bl.length), j < k → b.bl[j].t ≠ kind) := hall
    clear hall
    by_cases hlt : k < b.bl.length
    · obtain ⟨b1, o1, rfl, hx⟩ := hl.at k hlt
      obtain ⟨a, c, h0, -⟩ := hx
      by_cases he : b.bl[k].t = kind
      · have HP : Hid (placeS b.bl kind = (k : Int)) := placeS_hit b.bl kind k hlt he HA.out
        go_wp2
        go_ret
        exact ⟨by rw [HP.out]; rfl, hb0⟩
      · go_wp2
        go_round
        case rel =>
          refine ⟨k + 1, by omega, by go_num, fun j hj hjk => ?_⟩
          by_cases e : j = k
          · subst e; exact he
          · exact HA.out j hj (by omega)
        case measure => simp [intOf]; omega
    · have HP : Hid (placeS b.bl kind = -1) := placeS_miss b.bl kind (fun j hj => HA.out j hj (by omega))
      obtain rfl : k = b.bl.length := by omega
      go_wp2
      go_ret
      exact ⟨by rw [HP.out]; rfl, hb0⟩
set_option maxRecDepth 20000 in
set_option maxHeartbeats 800000 in
theorem find_miss (b : Bun) (ba : Option Addr) (bc : Nat) (pa : Option Addr) (pc : Nat) (kind : Nat) (w : World) (h : BunR w b ba bc pa pc) (HP : placeS b.bl kind = -1) :
    Calls Try.prog 10 #[bunV b ba bc pa pc, .int .u64 kind] w fun e w' => e = .returned (.tuple #[.agg #[.int .u64 0, .int .u64 0, .int .u64 0, .slice none 0 0], .bool false]) ∧ Below w.heap.size w w' := by
  unfold bunV
  obtain ⟨W0, hW0⟩ : ∃ W0 : World, W0 = (w.alloc (.cells #[.int .u64 b.fl, .int .u64 b.e0, .int .u64 b.e1, .int .u64 b.e2, .int .u64 b.e3, .int .u64 b.e4, .int .u64 b.e5, .int .u64 b.tm, .int .u64 b.sq, .int .u64 b.lf, .slice ba b.bl.length bc, .slice pa b.py.length pc] 34)).alloc (.cells #[.int .u64 0, .int .u64 0, .int .u64 0, .slice none 0 0] 37) := ⟨_, rfl⟩
  have hI : W0.heap[w.heap.size]? = some (.cells #[.int .u64 b.fl, .int .u64 b.e0, .int .u64 b.e1, .int .u64 b.e2, .int .u64 b.e3, .int .u64 b.e4, .int .u64 b.e5, .int .u64 b.tm, .int .u64 b.sq, .int .u64 b.lf, .slice ba b.bl.length bc, .slice pa b.py.length pc] 34 (0, 0)) := by rw [hW0]; exact (two_new w _ _).1
  have hR : W0.heap[w.heap.size + 1]? = some (.cells #[.int .u64 0, .int .u64 0, .int .u64 0, .slice none 0 0] 37 (0, 0)) := by rw [hW0]; exact (two_new w _ _).2
  have hb0 : Below w.heap.size w W0 := by rw [hW0]; exact al (al (Below.refl _ _) _) _
  have hs0 : W0.heap.size = w.heap.size + 2 := by rw [hW0]; simp
  have hbn := h.ok.bn
  have hlb := h.lb
  go_enter Try.func10, Try.ntmps10
  go_wp2_with fail
  rw [← hW0]
  refine (place_any ba bc b.bl kind W0 (h.rb.below hb0) hlb (by omega)).mono ?_
  rintro e w1 ⟨rfl, hb1⟩
  clear hW0
  rw [HP]
  have hI1 := box_on hI hb1
  have hR1 := box_on hR hb1
  obtain ⟨p0, p1, p2, p3, p4, p5, p6, p7, p8, p9, p10, p11, -⟩ := cells12 hI1
  obtain ⟨r0, r1, r2, r3, e0, e1, e2, e3⟩ := cells4 hR1
  have HR1 : Hid _ := hR1
  clear hI1 hR1 hI hR p0 p1 p2 p3 p4 p5 p6 p7 p8 p9 p11
  go_wp2
  have hfin := heap_set4 (v0 := .int .u64 0) (v1 := .int .u64 0) (v2 := .int .u64 0) (v3 := .slice none 0 0) HR1.out
  refine bodyPost_ret (results_ct rfl _ _ (w.heap.size + 1) 37 _ (0, 0) _ rfl hfin Try.underlying37 rfl (by kernel_rfl)) rfl ?_
  exact ⟨rfl, below_set4 (below_next hb0 hb1) (Nat.le_succ _)⟩
set_option maxRecDepth 20000 in
set_option maxHeartbeats 800000 in
theorem find_hit (b : Bun) (ba : Option Addr) (bc : Nat) (pa : Option Addr) (pc : Nat) (kind : Nat) (w : World) (h : BunR w b ba bc pa pc) (k : Nat) (hk : k < b.bl.length) (HP : placeS b.bl kind = (k : Int)) :
    Calls Try.prog 10 #[bunV b ba bc pa pc, .int .u64 kind] w fun e w' => (∃ a c, e = .returned (.tuple #[blkV b.bl[k] a c, .bool true]) ∧ Rd w' a b.bl[k].d) ∧ Below w.heap.size w w' := by
  unfold bunV
  obtain ⟨W0, hW0⟩ : ∃ W0 : World, W0 = (w.alloc (.cells #[.int .u64 b.fl, .int .u64 b.e0, .int .u64 b.e1, .int .u64 b.e2, .int .u64 b.e3, .int .u64 b.e4, .int .u64 b.e5, .int .u64 b.tm, .int .u64 b.sq, .int .u64 b.lf, .slice ba b.bl.length bc, .slice pa b.py.length pc] 34)).alloc (.cells #[.int .u64 0, .int .u64 0, .int .u64 0, .slice none 0 0] 37) := ⟨_, rfl⟩
  have hI : W0.heap[w.heap.size]? = some (.cells #[.int .u64 b.fl, .int .u64 b.e0, .int .u64 b.e1, .int .u64 b.e2, .int .u64 b.e3, .int .u64 b.e4, .int .u64 b.e5, .int .u64 b.tm, .int .u64 b.sq, .int .u64 b.lf, .slice ba b.bl.length bc, .slice pa b.py.length pc] 34 (0, 0)) := by rw [hW0]; exact (two_new w _ _).1
  have hR : W0.heap[w.heap.size + 1]? = some (.cells #[.int .u64 0, .int .u64 0, .int .u64 0, .slice none 0 0] 37 (0, 0)) := by rw [hW0]; exact (two_new w _ _).2
  have hb0 : Below w.heap.size w W0 := by rw [hW0]; exact al (al (Below.refl _ _) _) _
  have hs0 : W0.heap.size = w.heap.size + 2 := by rw [hW0]; simp
  have hbn := h.ok.bn
  have hlb := h.lb
  go_enter Try.func10, Try.ntmps10
  go_wp2_with fail
  rw [← hW0]
  refine (place_any ba bc b.bl kind W0 (h.rb.below hb0) hlb (by omega)).mono ?_
  rintro e w1 ⟨rfl, hb1⟩
  clear hW0
  rw [HP]
  have hI1 := box_on hI hb1
  have hR1 := box_on hR hb1
  obtain ⟨p0, p1, p2, p3, p4, p5, p6, p7, p8, p9, p10, p11, -⟩ := cells12 hI1
  obtain ⟨r0, r1, r2, r3, e0, e1, e2, e3⟩ := cells4 hR1
  have HR1 : Hid _ := hR1
  clear hI1 hR1 hI hR p0 p1 p2 p3 p4 p5 p6 p7 p8 p9 p11
  obtain ⟨b1, o1, rfl, hx⟩ := h.rb.at k hk
  have hx0 := hx.below hb0
  obtain ⟨a, c, c0, c1, c2, c3, hr, hlc, hn⟩ := hx0.below hb1
  have hdl := (h.ok.bl _ (List.getElem_mem hk)).2.2.2
  go_wp2_with fail
  refine (blkClone_any b.bl[k] a c w1 hr hn hdl).mono ?_
  rintro e w2 ⟨a', c', rfl, hown2, hb2⟩
  unfold blkV
  obtain ⟨r0, r1, r2, r3, e0, e1, e2, e3⟩ := cells4 (box_on HR1.out hb2)
  have HR2 : Hid _ := box_on HR1.out hb2
  have hb02 := below_next (below_next hb0 hb1) hb2
  have hrd := Own.val hown2
  go_wp2
  have hfin := heap_set4 (v0 := .int .u64 b.bl[k].t) (v1 := .int .u64 b.bl[k].n) (v2 := .int .u64 b.bl[k].f) (v3 := .slice a' b.bl[k].d.length c') HR2.out
  refine bodyPost_ret (results_ct rfl _ _ (w.heap.size + 1) 37 _ (0, 0) _ rfl hfin Try.underlying37 rfl (by kernel_rfl)) rfl ?_
  refine ⟨⟨a', c', rfl, ?_⟩, below_set4 hb02 (Nat.le_succ _)⟩
  obtain ⟨aq, cq, hv, -, -, -, hrd, hbk⟩ := hrd
  simp only [Value.slice.injEq, true_and] at hv
  obtain ⟨rfl, rfl⟩ := hv
  refine hrd.grown gr_set4 (fun a ha => ?_)
  have := (hbk a ha).1
  have := hb1.size
  simp
  omega
set_option maxRecDepth 20000 in
set_option maxHeartbeats 800000 in
theorem refFind_miss (b : Bun) (ba : Option Addr) (bc : Nat) (pa : Option Addr) (pc : Nat) (kind : Nat) (w : World) (h : BunR w b ba bc pa pc) (HP : placeS b.bl kind = -1) :
    Calls Try.prog 11 #[bunV b ba bc pa pc, .int .u64 kind] w fun e w' => e = .returned (.tuple #[.agg #[.int .u64 0, .int .u64 0, .int .u64 0, .slice none 0 0], .bool false]) ∧ Below w.heap.size w w' := by
  unfold bunV
  obtain ⟨W0, hW0⟩ : ∃ W0 : World, W0 = (w.alloc (.cells #[.int .u64 b.fl, .int .u64 b.e0, .int .u64 b.e1, .int .u64 b.e2, .int .u64 b.e3, .int .u64 b.e4, .int .u64 b.e5, .int .u64 b.tm, .int .u64 b.sq, .int .u64 b.lf, .slice ba b.bl.length bc, .slice pa b.py.length pc] 29)).alloc (.cells #[.int .u64 0, .int .u64 0, .int .u64 0, .slice none 0 0] 40) := ⟨_, rfl⟩
  have hI : W0.heap[w.heap.size]? = some (.cells #[.int .u64 b.fl, .int .u64 b.e0, .int .u64 b.e1, .int .u64 b.e2, .int .u64 b.e3, .int .u64 b.e4, .int .u64 b.e5, .int .u64 b.tm, .int .u64 b.sq, .int .u64 b.lf, .slice ba b.bl.length bc, .slice pa b.py.length pc] 29 (0, 0)) := by rw [hW0]; exact (two_new w _ _).1
  have hR : W0.heap[w.heap.size + 1]? = some (.cells #[.int .u64 0, .int .u64 0, .int .u64 0, .slice none 0 0] 40 (0, 0)) := by rw [hW0]; exact (two_new w _ _).2
  have hb0 : Below w.heap.size w W0 := by rw [hW0]; exact al (al (Below.refl _ _) _) _
  have hs0 : W0.heap.size = w.heap.size + 2 := by rw [hW0]; simp
  have hbn := h.ok.bn
  have hlb := h.lb
  go_enter Try.func11, Try.ntmps11
  go_wp2_with fail
  rw [← hW0]
  refine (refPlace_any b ba bc pa pc kind W0 (h.below hb0)).mono ?_
  rintro e w1 ⟨rfl, hb1⟩
  clear hW0
  rw [HP]
  have hI1 := box_on hI hb1
  have hR1 := box_on hR hb1
  obtain ⟨p0, p1, p2, p3, p4, p5, p6, p7, p8, p9, p10, p11, -⟩ := cells12 hI1
  obtain ⟨r0, r1, r2, r3, e0, e1, e2, e3⟩ := cells4 hR1
  have HR1 : Hid _ := hR1
  clear hI1 hR1 hI hR p0 p1 p2 p3 p4 p5 p6 p7 p8 p9 p11
  go_wp2
  have hfin := heap_set4 (v0 := .int .u64 0) (v1 := .int .u64 0) (v2 := .int .u64 0) (v3 := .slice none 0 0) HR1.out
  refine bodyPost_ret (results_ct rfl _ _ (w.heap.size + 1) 40 _ (0, 0) _ rfl hfin Try.underlying40 rfl (by kernel_rfl)) rfl ?_
  exact ⟨rfl, below_set4 (below_next hb0 hb1) (Nat.le_succ _)⟩
set_option maxRecDepth 20000 in
set_option maxHeartbeats 800000 in
theorem refFind_hit (b : Bun) (ba : Option Addr) (bc : Nat) (pa : Option Addr) (pc : Nat) (kind : Nat) (w : World) (h : BunR w b ba bc pa pc) (k : Nat) (hk : k < b.bl.length) (HP : placeS b.bl kind = (k : Int)) :
    Calls Try.prog 11 #[bunV b ba bc pa pc, .int .u64 kind] w fun e w' => (∃ a c, e = .returned (.tuple #[blkV b.bl[k] a c, .bool true]) ∧ Rd w' a b.bl[k].d) ∧ Below w.heap.size w w' := by
  unfold bunV
  obtain ⟨W0, hW0⟩ : ∃ W0 : World, W0 = (w.alloc (.cells #[.int .u64 b.fl, .int .u64 b.e0, .int .u64 b.e1, .int .u64 b.e2, .int .u64 b.e3, .int .u64 b.e4, .int .u64 b.e5, .int .u64 b.tm, .int .u64 b.sq, .int .u64 b.lf, .slice ba b.bl.length bc, .slice pa b.py.length pc] 29)).alloc (.cells #[.int .u64 0, .int .u64 0, .int .u64 0, .slice none 0 0] 40) := ⟨_, rfl⟩
  have hI : W0.heap[w.heap.size]? = some (.cells #[.int .u64 b.fl, .int .u64 b.e0, .int .u64 b.e1, .int .u64 b.e2, .int .u64 b.e3, .int .u64 b.e4, .int .u64 b.e5, .int .u64 b.tm, .int .u64 b.sq, .int .u64 b.lf, .slice ba b.bl.length bc, .slice pa b.py.length pc] 29 (0, 0)) := by rw [hW0]; exact (two_new w _ _).1
  have hR : W0.heap[w.heap.size + 1]? = some (.cells #[.int .u64 0, .int .u64 0, .int .u64 0, .slice none 0 0] 40 (0, 0)) := by rw [hW0]; exact (two_new w _ _).2
  have hb0 : Below w.heap.size w W0 := by rw [hW0]; exact al (al (Below.refl _ _) _) _
  have hs0 : W0.heap.size = w.heap.size + 2 := by rw [hW0]; simp
  have hbn := h.ok.bn
  have hlb := h.lb
  go_enter Try.func11, Try.ntmps11
  go_wp2_with fail
  rw [← hW0]
  refine (refPlace_any b ba bc pa pc kind W0 (h.below hb0)).mono ?_
  rintro e w1 ⟨rfl, hb1⟩
  clear hW0
  rw [HP]
  have hI1 := box_on hI hb1
  have hR1 := box_on hR hb1
  obtain ⟨p0, p1, p2, p3, p4, p5, p6, p7, p8, p9, p10, p11, -⟩ := cells12 hI1
  obtain ⟨r0, r1, r2, r3, e0, e1, e2, e3⟩ := cells4 hR1
  have HR1 : Hid _ := hR1
  clear hI1 hR1 hI hR p0 p1 p2 p3 p4 p5 p6 p7 p8 p9 p11
  obtain ⟨b1, o1, rfl, hx⟩ := h.rb.at k hk
  have hx0 := hx.below hb0
  have hb01 := below_next hb0 hb1
  obtain ⟨a, c, d0, d1, d2, d3, hr0, hlc, hn⟩ := hx
  have c0 := cell_on hb01 d0
  have c1 := cell_on hb01 d1
  have c2 := cell_on hb01 d2
  have c3 := cell_on hb01 d3
  clear d0 d1 d2 d3 hx0
  have hdl := (h.ok.bl _ (List.getElem_mem hk)).2.2.2
  go_wp2
  have hfin := heap_set4 (v0 := .int .u64 b.bl[k].t) (v1 := .int .u64 b.bl[k].n) (v2 := .int .u64 b.bl[k].f) (v3 := .slice a b.bl[k].d.length c) HR1.out
  refine bodyPost_ret (results_ct rfl _ _ (w.heap.size + 1) 40 _ (0, 0) _ rfl hfin Try.underlying40 rfl (by kernel_rfl)) rfl ?_
  refine ⟨⟨a, c, rfl, ?_⟩, below_set4 (below_next hb0 hb1) (Nat.le_succ _)⟩
  exact hr0.below (below_set4 hb01 (Nat.le_succ _))
end Go.Proofs.Ytdpkommmkcmifaa
