import Derived.Test.YtdpkommmkcmifaaDecP
namespace Go.Proofs.Ytdpkommmkcmifaa
set_option linter.unusedVariables false
set_option linter.unusedSimpArgs false
open Go.RowKit
theorem own_neD {a : Option Addr} {n c r : Nat} (h : ∀ q, a = some q → q.block ≠ r) : (Value.slice a n c).ownBlock = none ∨ (Value.slice a n c).ownBlock ≠ some r := by
  cases a with
  | none => left; rfl
  | some q => right; simpa [Value.ownBlock] using h q rfl
theorem Rd.of_ownD {w : World} {B : Nat} {a : Option Addr} {n c : Nat} {xs : List UInt8} (h : Own w B (.slice a n c) xs) : Rd w a xs := by
  obtain ⟨aq, cq, hv, -, -, -, hrd, -⟩ := h.val
  simp only [Value.slice.injEq] at hv
  obtain ⟨rfl, -, -⟩ := hv
  exact hrd
set_option maxRecDepth 20000 in
set_option maxHeartbeats 1600000 in
theorem readBlock_t {p B : Nat} {ys ys' : List UInt8} {f f' : Int} {x : Blk} (so : Option Addr) (cap : Nat) (l : List Blk) (w : World) (h : RS w p B ys f) (hl : ∀ u, w.grownBy u (some p) → RdBlks u so l) (hlc : l.length ≤ cap) (hb : l.length ≤ 140737488351232) (hx : blockS l (ys, f) = (x, ys', f')) :
    Calls Try.prog 62 #[.pointer (some ⟨p, 0, none⟩), .slice so l.length cap] w fun e w' => (∃ a c, e = .returned (blkV x a c) ∧ Own w' w.heap.size (.slice a x.d.length c) x.d ∧ (∀ q, a = some q → w.heap.size < q.block)) ∧ RS w' p B ys' f' ∧ w.grownBy w' (some p) ∧ x.ok := by
  have hp := h.lt
  have hpB := h.ge
  obtain ⟨R, hRe⟩ : ∃ R, R = w.heap.size := ⟨_, rfl⟩
  have HL : Hid (∀ u, w.grownBy u (some p) → RdBlks u so l) := hl
  clear hl
  obtain ⟨W0, hW0⟩ : ∃ W0 : World, W0 = w.alloc (.cells #[.int .u64 0, .int .u64 0, .int .u64 0, .slice none 0 0] 37) := ⟨_, rfl⟩
  have hR : W0.heap[w.heap.size]? = some (.cells #[.int .u64 0, .int .u64 0, .int .u64 0, .slice none 0 0] 37 (0, 0)) := by rw [hW0]; exact heap_alloc_new w _
  have hb0 : Below w.heap.size w W0 := by rw [hW0]; exact al (Below.refl _ _) _
  have hgw : w.grownBy W0 (some p) := gr_below (World.grownBy.refl _ _) hb0
  have hs0 : w.heap.size < W0.heap.size := (Array.getElem?_eq_some_iff.1 hR).1
  have hrs := h.below hb0
  go_enter Try.func62, Try.ntmps62
  obtain ⟨n1, y1, f1, e1⟩ : ∃ n1 y1 f1, nmS 281474976710655 (ys, f) = (n1, y1, f1) := ⟨_, _, _, rfl⟩
  go_wp2_with fail
  rw [← hW0]
  clear hW0
  refine (number_t _ hrs e1).mono ?_
  rintro e u1 ⟨rfl, hrs, hg⟩
  have HE1 : Hid (nmS 281474976710655 (ys, f) = (n1, y1, f1)) := e1
  have hgw := grown_add hgw hg (.inl rfl)
  have hR := gr_box hg (by omega) hR
  obtain ⟨c0, c1, c2, c3, z0, z1, z2, z3⟩ := cells4 hR
  have hgw : w.grownBy (u1.setCell ⟨w.heap.size, 0, none⟩ (.int .u64 (n1 : Nat))) (some p) := grown_add hgw (gr_set (World.grownBy.refl _ _) _ _) (.inr fun j hj => by cases hj; exact Nat.le_refl _)
  have hrs := hrs.set w.heap.size 0 (.int .u64 (n1 : Nat)) (.inr hp)
  have hR : (u1.setCell ⟨w.heap.size, 0, none⟩ (.int .u64 (n1 : Nat))).heap[w.heap.size]? = some (.cells #[.int .u64 (n1 : Nat), .int .u64 0, .int .u64 0, .slice none 0 0] 37 (0, 0)) := heap_set1 (i := 0) (v := .int .u64 (n1 : Nat)) hR
  clear e1 hg
  go_wp2_with fail
  clear c0 c1 c2 c3 z0 z1 z2 z3
  refine (goodType_n so l.length cap l n1 _ rfl (HL.out _ hgw) hlc hb).mono ?_
  rintro e v1 ⟨rfl, hbk⟩
  obtain ⟨b1, hb1⟩ : ∃ b1, b1 = typeS l n1 := ⟨_, rfl⟩
  rw [← hb1]
  have HB1 : Hid (b1 = typeS l n1) := hb1
  have hgw := gr_below hgw hbk
  have hrs := hrs.below hbk
  have hR := box_on hR hbk
  clear hbk hb1
  go_wp2_with fail
  refine (must_t b1 _ hrs).mono ?_
  rintro e w1 ⟨rfl, hrs, hg⟩
  have hgw := grown_add hgw hg (.inl rfl)
  have hR := gr_box hg (by omega) hR
  clear hg
  obtain ⟨n2, y2, f2, e2⟩ : ∃ n2 y2 f2, nmS 281474976710655 (y1, mustF b1 f1) = (n2, y2, f2) := ⟨_, _, _, rfl⟩
  go_wp2_with fail
  refine (number_t _ hrs e2).mono ?_
  rintro e u2 ⟨rfl, hrs, hg⟩
  have HE2 : Hid (nmS 281474976710655 (y1, mustF b1 f1) = (n2, y2, f2)) := e2
  have hgw := grown_add hgw hg (.inl rfl)
  have hR := gr_box hg (by omega) hR
  obtain ⟨c0, c1, c2, c3, z0, z1, z2, z3⟩ := cells4 hR
  have hgw : w.grownBy (u2.setCell ⟨w.heap.size, 1, none⟩ (.int .u64 (n2 : Nat))) (some p) := grown_add hgw (gr_set (World.grownBy.refl _ _) _ _) (.inr fun j hj => by cases hj; exact Nat.le_refl _)
  have hrs := hrs.set w.heap.size 1 (.int .u64 (n2 : Nat)) (.inr hp)
  have hR : (u2.setCell ⟨w.heap.size, 1, none⟩ (.int .u64 (n2 : Nat))).heap[w.heap.size]? = some (.cells #[.int .u64 (n1 : Nat), .int .u64 (n2 : Nat), .int .u64 0, .slice none 0 0] 37 (0, 0)) := heap_set1 (i := 1) (v := .int .u64 (n2 : Nat)) hR
  clear e2 hg
  go_wp2_with fail
  clear c0 c1 c2 c3 z0 z1 z2 z3
  refine (goodNumber_n so l.length cap l n2 _ rfl (HL.out _ hgw) hlc hb).mono ?_
  rintro e v2 ⟨rfl, hbk⟩
  obtain ⟨b2, hb2⟩ : ∃ b2, b2 = numbS l n2 := ⟨_, rfl⟩
  rw [← hb2]
  have HB2 : Hid (b2 = numbS l n2) := hb2
  have hgw := gr_below hgw hbk
  have hrs := hrs.below hbk
  have hR := box_on hR hbk
  clear hbk hb2
  go_wp2_with fail
  refine (must_t b2 _ hrs).mono ?_
  rintro e w2 ⟨rfl, hrs, hg⟩
  have hgw := grown_add hgw hg (.inl rfl)
  have hR := gr_box hg (by omega) hR
  clear hg
  obtain ⟨n3, y3, f3, e3⟩ : ∃ n3 y3 f3, nmS 281474976710655 (y2, mustF b2 f2) = (n3, y3, f3) := ⟨_, _, _, rfl⟩
  go_wp2_with fail
  refine (number_t _ hrs e3).mono ?_
  rintro e u3 ⟨rfl, hrs, hg⟩
  have HE3 : Hid (nmS 281474976710655 (y2, mustF b2 f2) = (n3, y3, f3)) := e3
  have hgw := grown_add hgw hg (.inl rfl)
  have hR := gr_box hg (by omega) hR
  obtain ⟨c0, c1, c2, c3, z0, z1, z2, z3⟩ := cells4 hR
  have hgw : w.grownBy (u3.setCell ⟨w.heap.size, 2, none⟩ (.int .u64 (n3 : Nat))) (some p) := grown_add hgw (gr_set (World.grownBy.refl _ _) _ _) (.inr fun j hj => by cases hj; exact Nat.le_refl _)
  have hrs := hrs.set w.heap.size 2 (.int .u64 (n3 : Nat)) (.inr hp)
  have hR : (u3.setCell ⟨w.heap.size, 2, none⟩ (.int .u64 (n3 : Nat))).heap[w.heap.size]? = some (.cells #[.int .u64 (n1 : Nat), .int .u64 (n2 : Nat), .int .u64 (n3 : Nat), .slice none 0 0] 37 (0, 0)) := heap_set1 (i := 2) (v := .int .u64 (n3 : Nat)) hR
  clear e3 hg
  go_wp2_with fail
  clear c0 c1 c2 c3 z0 z1 z2 z3
  refine (goodFlags_b n3 _).mono ?_
  rintro e v3 ⟨rfl, hbk⟩
  obtain ⟨b3, hb3⟩ : ∃ b3, b3 = decide (n3 ≤ 255) := ⟨_, rfl⟩
  rw [← hb3]
  have HB3 : Hid (b3 = decide (n3 ≤ 255)) := hb3
  have hgw := gr_below hgw hbk
  have hrs := hrs.below hbk
  have hR := box_on hR hbk
  clear hbk hb3
  go_wp2_with fail
  refine (must_t b3 _ hrs).mono ?_
  rintro e w3 ⟨rfl, hrs, hg⟩
  have hgw := grown_add hgw hg (.inl rfl)
  have hR := gr_box hg (by omega) hR
  clear hg
  obtain ⟨d, y4, f4, e4⟩ : ∃ d y4 f4, byS 64 (y3, mustF b3 f3) = (d, y4, f4) := ⟨_, _, _, rfl⟩
  go_wp2_with fail
  refine (bytes_t 64 (by decide) _ hrs e4).mono ?_
  rintro e u4 ⟨a, c, rfl, hown, hrs, hg⟩
  have HE4 : Hid (byS 64 (y3, mustF b3 f3) = (d, y4, f4)) := e4
  have hd64 : d.length ≤ 64 := byS_le e4
  have hRl : w.heap.size < w3.heap.size := (Array.getElem?_eq_some_iff.1 hR).1
  have hgw := grown_add hgw hg (.inl rfl)
  have hR := gr_box hg (by omega) hR
  obtain ⟨c0, c1, c2, c3, z0, z1, z2, z3⟩ := cells4 hR
  obtain ⟨m, hm⟩ : ∃ m, m = d.length := ⟨_, rfl⟩
  obtain ⟨aq, cq, hv, hlcq, -, hnq, hrd, hbk⟩ := hown.val
  simp only [Value.slice.injEq, true_and] at hv
  obtain ⟨rfl, rfl⟩ := hv
  have hgw : w.grownBy (u4.setCell ⟨w.heap.size, 3, none⟩ (.slice a d.length c)) (some p) := grown_add hgw (gr_set (World.grownBy.refl _ _) _ _) (.inr fun j hj => by cases hj; exact Nat.le_refl _)
  have hrs := hrs.set w.heap.size 3 (.slice a d.length c) (.inr hp)
  have hR : (u4.setCell ⟨w.heap.size, 3, none⟩ (.slice a d.length c)).heap[w.heap.size]? = some (.cells #[.int .u64 (n1 : Nat), .int .u64 (n2 : Nat), .int .u64 (n3 : Nat), .slice a d.length c] 37 (0, 0)) := heap_set1 (i := 3) (v := .slice a d.length c) hR
  have hown : Own (u4.setCell ⟨w.heap.size, 3, none⟩ (.slice a d.length c)) w3.heap.size (.slice a d.length c) d := hown.grown (gr_set (World.grownBy.refl _ _) _ _) (own_neD fun q hq => by have := (hbk q hq).1; omega)
  have hrd := Rd.of_ownD hown
  clear e4 hg
  have HOW : Hid _ := hown
  have HBK : Hid _ := hbk
  clear hown hbk
  go_wp2_with fail
  clear c0 c1 c2 c3 z0 z1 z2 z3
  refine (goodData_any n1 a c d _ hrd hnq (by omega)).mono ?_
  rintro e v4 ⟨rfl, hbk⟩
  obtain ⟨b4, hb4⟩ : ∃ b4, b4 = dataS n1 d := ⟨_, rfl⟩
  rw [← hb4]
  have HB4 : Hid (b4 = dataS n1 d) := hb4
  have hgw := gr_below hgw hbk
  have hrs := hrs.below hbk
  have hR := box_on hR hbk
  have HOW2 : Hid (Own v4 w3.heap.size (.slice a d.length c) d) := Own.below HOW.out hbk
  clear hbk hb4
  go_wp2_with fail
  refine (must_t b4 _ hrs).mono ?_
  rintro e w4 ⟨rfl, hrs, hg⟩
  have hgw := grown_add hgw hg (.inl rfl)
  have hR := gr_box hg (by omega) hR
  obtain ⟨c0, c1, c2, c3, z0, z1, z2, z3⟩ := cells4 hR
  have HOW3 : Hid (Own w4 w3.heap.size (.slice a d.length c) d) := Own.grown HOW2.out hg (own_neD fun q hq => by have := (HBK.out q hq).1; omega)
  go_wp2
  have hfin := heap_set4 (v0 := .int .u64 (n1 : Nat)) (v1 := .int .u64 (n2 : Nat)) (v2 := .int .u64 (n3 : Nat)) (v3 := .slice a d.length c) hR
  refine bodyPost_ret (results_cell_row rfl _ _ w.heap.size 37 _ (0, 0) _ rfl hfin Try.underlying37 rfl (by kernel_rfl)) rfl ?_
  have hval : blockS l (ys, f) = (⟨n1, n2, n3, d⟩, y4, mustF b4 f4) := by
    unfold blockS muS
    simp only [HE1.out]
    rw [← HB1.out, HE2.out]
    simp only
    rw [← HB2.out, HE3.out]
    simp only
    rw [← HB3.out, HE4.out]
    simp only
    rw [← HB4.out]
  rw [hval] at hx
  simp only [Prod.mk.injEq] at hx
  obtain ⟨rfl, rfl, rfl⟩ := hx
  have i1 := nmS_le HE1.out
  have i2 := nmS_le HE2.out
  have i3 := nmS_le HE3.out
  refine ⟨⟨a, c, rfl, Own.base (Own.grown HOW3.out gr_set4 (own_neD fun q hq => by have := (HBK.out q hq).1; omega)) (by omega), fun q hq => by have := (HBK.out q hq).1; omega⟩, hrs.grown gr_set4 (.inr hp), grown_add hgw gr_set4 (.inr fun j hj => by cases hj; exact Nat.le_refl _), ?_⟩
  exact ⟨by simp only; omega, by simp only; omega, by simp only; omega, by simp only; omega⟩
end Go.Proofs.Ytdpkommmkcmifaa
