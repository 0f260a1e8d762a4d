import Derived.Test.YtdpkommmkcmifaaDecP
import Derived.Deep.AppendLies
import Derived.Test.YtdpkommmkcmifaaWr
namespace Go.Proofs.Ytdpkommmkcmifaa
set_option linter.unusedVariables false
set_option linter.unusedSimpArgs false
open Go.RowKit
theorem own_neD {a : Option Addr} {n c r : Nat} (h : ∀ q, a = some q → q.block ≠ r) : (Value.slice a n c).ownBlock = none ∨ (Value.slice a n c).ownBlock ≠ some r := by
  cases a with
  | none => left; rfl
  | some q => right; simpa [Value.ownBlock] using h q rfl
theorem Rd.of_ownD {w : World} {B : Nat} {a : Option Addr} {n c : Nat} {xs : List UInt8} (h : Own w B (.slice a n c) xs) : Rd w a xs := by
  obtain ⟨aq, cq, hv, -, -, -, hrd, -⟩ := h.val
  simp only [Value.slice.injEq] at hv
  obtain ⟨rfl, -, -⟩ := hv
  exact hrd
set_option maxRecDepth 20000 in
set_option maxHeartbeats 1600000 in
theorem readBlock_t {p B : Nat} {ys ys' : List UInt8} {f f' : Int} {x : Blk} (so : Option Addr) (cap : Nat) (l : List Blk) (w : World) (h : RS w p B ys f) (hl : ∀ u, w.grownBy u (some p) → RdBlks u so l) (hlc : l.length ≤ cap) (hb : l.length ≤ 140737488351232) (hx : blockS l (ys, f) = (x, ys', f')) :
    Calls Try.prog 62 #[.pointer (some ⟨p, 0, none⟩), .slice so l.length cap] w fun e w' => (∃ a c, e = .returned (blkV x a c) ∧ Own w' w.heap.size (.slice a x.d.length c) x.d ∧ (∀ q, a = some q → w.heap.size < q.block)) ∧ RS w' p B ys' f' ∧ w.grownBy w' (some p) ∧ x.ok := by
  have hp := h.lt
  have hpB := h.ge
  obtain ⟨R, hRe⟩ : ∃ R, R = w.heap.size := ⟨_, rfl⟩
  have HL : Hid (∀ u, w.grownBy u (some p) → RdBlks u so l) := hl
  clear hl
  obtain ⟨W0, hW0⟩ : ∃ W0 : World, W0 = w.alloc (.cells #[.int .u64 0, .int .u64 0, .int .u64 0, .slice none 0 0] 37) := ⟨_, rfl⟩
  have hR : W0.heap[w.heap.size]? = some (.cells #[.int .u64 0, .int .u64 0, .int .u64 0, .slice none 0 0] 37 (0, 0)) := by rw [hW0]; exact heap_alloc_new w _
  have hb0 : Below w.heap.size w W0 := by rw [hW0]; exact al (Below.refl _ _) _
  have hgw : w.grownBy W0 (some p) := gr_below (World.grownBy.refl _ _) hb0
  have hs0 : w.heap.size < W0.heap.size := (Array.getElem?_eq_some_iff.1 hR).1
  have hrs := h.below hb0
  go_enter Try.func62, Try.ntmps62
  obtain ⟨n1, y1, f1, e1⟩ : ∃ n1 y1 f1, nmS 281474976710655 (ys, f) = (n1, y1, f1) := ⟨_, _, _, rfl⟩
  go_wp2_with fail
  rw [← hW0]
  clear hW0
  refine (number_t _ hrs e1).mono ?_
  rintro e u1 ⟨rfl, hrs, hg⟩
  have HE1 : Hid (nmS 281474976710655 (ys, f) = (n1, y1, f1)) := e1
  have hgw := grown_add hgw hg (.inl rfl)
  have hR := gr_box hg (by omega) hR
  obtain ⟨c0, c1, c2, c3, z0, z1, z2, z3⟩ := cells4 hR
  have hgw : w.grownBy (u1.setCell ⟨w.heap.size, 0, none⟩ (.int .u64 (n1 : Nat))) (some p) := grown_add hgw (gr_set (World.grownBy.refl _ _) _ _) (.inr fun j hj => by cases hj; exact Nat.le_refl _)
  have hrs := hrs.set w.heap.size 0 (.int .u64 (n1 : Nat)) (.inr hp)
  have hR : (u1.setCell ⟨w.heap.size, 0, none⟩ (.int .u64 (n1 : Nat))).heap[w.heap.size]? = some (.cells #[.int .u64 (n1 : Nat), .int .u64 0, .int .u64 0, .slice none 0 0] 37 (0, 0)) := heap_set1 (i := 0) (v := .int .u64 (n1 : Nat)) hR
  clear e1 hg
  go_wp2_with fail
  clear c0 c1 c2 c3 z0 z1 z2 z3
  refine (goodType_n so l.length cap l n1 _ rfl (HL.out _ hgw) hlc hb).mono ?_
  rintro e v1 ⟨rfl, hbk⟩
  obtain ⟨b1, hb1⟩ : ∃ b1, b1 = typeS l n1 := ⟨_, rfl⟩
  rw [← hb1]
  have HB1 : Hid (b1 = typeS l n1) := hb1
  have hgw := gr_below hgw hbk
  have hrs := hrs.below hbk
  have hR := box_on hR hbk
  clear hbk hb1
  go_wp2_with fail
  refine (must_t b1 _ hrs).mono ?_
  rintro e w1 ⟨rfl, hrs, hg⟩
  have hgw := grown_add hgw hg (.inl rfl)
  have hR := gr_box hg (by omega) hR
  clear hg
  obtain ⟨n2, y2, f2, e2⟩ : ∃ n2 y2 f2, nmS 281474976710655 (y1, mustF b1 f1) = (n2, y2, f2) := ⟨_, _, _, rfl⟩
  go_wp2_with fail
  refine (number_t _ hrs e2).mono ?_
  rintro e u2 ⟨rfl, hrs, hg⟩
  have HE2 : Hid (nmS 281474976710655 (y1, mustF b1 f1) = (n2, y2, f2)) := e2
  have hgw := grown_add hgw hg (.inl rfl)
  have hR := gr_box hg (by omega) hR
  obtain ⟨c0, c1, c2, c3, z0, z1, z2, z3⟩ := cells4 hR
  have hgw : w.grownBy (u2.setCell ⟨w.heap.size, 1, none⟩ (.int .u64 (n2 : Nat))) (some p) := grown_add hgw (gr_set (World.grownBy.refl _ _) _ _) (.inr fun j hj => by cases hj; exact Nat.le_refl _)
  have hrs := hrs.set w.heap.size 1 (.int .u64 (n2 : Nat)) (.inr hp)
  have hR : (u2.setCell ⟨w.heap.size, 1, none⟩ (.int .u64 (n2 : Nat))).heap[w.heap.size]? = some (.cells #[.int .u64 (n1 : Nat), .int .u64 (n2 : Nat), .int .u64 0, .slice none 0 0] 37 (0, 0)) := heap_set1 (i := 1) (v := .int .u64 (n2 : Nat)) hR
  clear e2 hg
  go_wp2_with fail
  clear c0 c1 c2 c3 z0 z1 z2 z3
  refine (goodNumber_n so l.length cap l n2 _ rfl (HL.out _ hgw) hlc hb).mono ?_
  rintro e v2 ⟨rfl, hbk⟩
  obtain ⟨b2, hb2⟩ : ∃ b2, b2 = numbS l n2 := ⟨_, rfl⟩
  rw [← hb2]
  have HB2 : Hid (b2 = numbS l n2) := hb2
  have hgw := gr_below hgw hbk
  have hrs := hrs.below hbk
  have hR := box_on hR hbk
  clear hbk hb2
  go_wp2_with fail
  refine (must_t b2 _ hrs).mono ?_
  rintro e w2 ⟨rfl, hrs, hg⟩
  have hgw := grown_add hgw hg (.inl rfl)
  have hR := gr_box hg (by omega) hR
  clear hg
  obtain ⟨n3, y3, f3, e3⟩ : ∃ n3 y3 f3, nmS 281474976710655 (y2, mustF b2 f2) = (n3, y3, f3) := ⟨_, _, _, rfl⟩
  go_wp2_with fail
  refine (number_t _ hrs e3).mono ?_
  rintro e u3 ⟨rfl, hrs, hg⟩
  have HE3 : Hid (nmS 281474976710655 (y2, mustF b2 f2) = (n3, y3, f3)) := e3
  have hgw := grown_add hgw hg (.inl rfl)
  have hR := gr_box hg (by omega) hR
  obtain ⟨c0, c1, c2, c3, z0, z1, z2, z3⟩ := cells4 hR
  have hgw : w.grownBy (u3.setCell ⟨w.heap.size, 2, none⟩ (.int .u64 (n3 : Nat))) (some p) := grown_add hgw (gr_set (World.grownBy.refl _ _) _ _) (.inr fun j hj => by cases hj; exact Nat.le_refl _)
  have hrs := hrs.set w.heap.size 2 (.int .u64 (n3 : Nat)) (.inr hp)
  have hR : (u3.setCell ⟨w.heap.size, 2, none⟩ (.int .u64 (n3 : Nat))).heap[w.heap.size]? = some (.cells #[.int .u64 (n1 : Nat), .int .u64 (n2 : Nat), .int .u64 (n3 : Nat), .slice none 0 0] 37 (0, 0)) := heap_set1 (i := 2) (v := .int .u64 (n3 : Nat)) hR
  clear e3 hg
  go_wp2_with fail
  clear c0 c1 c2 c3 z0 z1 z2 z3
  refine (goodFlags_b n3 _).mono ?_
  rintro e v3 ⟨rfl, hbk⟩
  obtain ⟨b3, hb3⟩ : ∃ b3, b3 = decide (n3 ≤ 255) := ⟨_, rfl⟩
  rw [← hb3]
  have HB3 : Hid (b3 = decide (n3 ≤ 255)) := hb3
  have hgw := gr_below hgw hbk
  have hrs := hrs.below hbk
  have hR := box_on hR hbk
  clear hbk hb3
  go_wp2_with fail
  refine (must_t b3 _ hrs).mono ?_
  rintro e w3 ⟨rfl, hrs, hg⟩
  have hgw := grown_add hgw hg (.inl rfl)
  have hR := gr_box hg (by omega) hR
  clear hg
  obtain ⟨d, y4, f4, e4⟩ : ∃ d y4 f4, byS 64 (y3, mustF b3 f3) = (d, y4, f4) := ⟨_, _, _, rfl⟩
  go_wp2_with fail
  refine (bytes_t 64 (by decide) _ hrs e4).mono ?_
  rintro e u4 ⟨a, c, rfl, hown, hrs, hg⟩
  have HE4 : Hid (byS 64 (y3, mustF b3 f3) = (d, y4, f4)) := e4
  have hd64 : d.length ≤ 64 := byS_le e4
  have hRl : w.heap.size < w3.heap.size := (Array.getElem?_eq_some_iff.1 hR).1
  have hgw := grown_add hgw hg (.inl rfl)
  have hR := gr_box hg (by omega) hR
  obtain ⟨c0, c1, c2, c3, z0, z1, z2, z3⟩ := cells4 hR
  obtain ⟨m, hm⟩ : ∃ m, m = d.length := ⟨_, rfl⟩
  obtain ⟨aq, cq, hv, hlcq, -, hnq, hrd, hbk⟩ := hown.val
  simp only [Value.slice.injEq, true_and] at hv
  obtain ⟨rfl, rfl⟩ := hv
  have hgw : w.grownBy (u4.setCell ⟨w.heap.size, 3, none⟩ (.slice a d.length c)) (some p) := grown_add hgw (gr_set (World.grownBy.refl _ _) _ _) (.inr fun j hj => by cases hj; exact Nat.le_refl _)
  have hrs := hrs.set w.heap.size 3 (.slice a d.length c) (.inr hp)
  have hR : (u4.setCell ⟨w.heap.size, 3, none⟩ (.slice a d.length c)).heap[w.heap.size]? = some (.cells #[.int .u64 (n1 : Nat), .int .u64 (n2 : Nat), .int .u64 (n3 : Nat), .slice a d.length c] 37 (0, 0)) := heap_set1 (i := 3) (v := .slice a d.length c) hR
  have hown : Own (u4.setCell ⟨w.heap.size, 3, none⟩ (.slice a d.length c)) w3.heap.size (.slice a d.length c) d := hown.grown (gr_set (World.grownBy.refl _ _) _ _) (own_neD fun q hq => by have := (hbk q hq).1; omega)
  have hrd := Rd.of_ownD hown
  clear e4 hg
  have HOW : Hid _ := hown
  have HBK : Hid _ := hbk
  clear hown hbk
  go_wp2_with fail
  clear c0 c1 c2 c3 z0 z1 z2 z3
  refine (goodData_any n1 a c d _ hrd hnq (by omega)).mono ?_
  rintro e v4 ⟨rfl, hbk⟩
  obtain ⟨b4, hb4⟩ : ∃ b4, b4 = dataS n1 d := ⟨_, rfl⟩
  rw [← hb4]
  have HB4 : Hid (b4 = dataS n1 d) := hb4
  have hgw := gr_below hgw hbk
  have hrs := hrs.below hbk
  have hR := box_on hR hbk
  have HOW2 : Hid (Own v4 w3.heap.size (.slice a d.length c) d) := Own.below HOW.out hbk
  clear hbk hb4
  go_wp2_with fail
  refine (must_t b4 _ hrs).mono ?_
  rintro e w4 ⟨rfl, hrs, hg⟩
  have hgw := grown_add hgw hg (.inl rfl)
  have hR := gr_box hg (by omega) hR
  obtain ⟨c0, c1, c2, c3, z0, z1, z2, z3⟩ := cells4 hR
  have HOW3 : Hid (Own w4 w3.heap.size (.slice a d.length c) d) := Own.grown HOW2.out hg (own_neD fun q hq => by have := (HBK.out q hq).1; omega)
  go_wp2
  have hfin := heap_set4 (v0 := .int .u64 (n1 : Nat)) (v1 := .int .u64 (n2 : Nat)) (v2 := .int .u64 (n3 : Nat)) (v3 := .slice a d.length c) hR
  refine bodyPost_ret (results_cell_row rfl _ _ w.heap.size 37 _ (0, 0) _ rfl hfin Try.underlying37 rfl (by kernel_rfl)) rfl ?_
  have hval : blockS l (ys, f) = (⟨n1, n2, n3, d⟩, y4, mustF b4 f4) := by
    unfold blockS muS
    simp only [HE1.out]
    rw [← HB1.out, HE2.out]
    simp only
    rw [← HB2.out, HE3.out]
    simp only
    rw [← HB3.out, HE4.out]
    simp only
    rw [← HB4.out]
  rw [hval] at hx
  simp only [Prod.mk.injEq] at hx
  obtain ⟨rfl, rfl, rfl⟩ := hx
  have i1 := nmS_le HE1.out
  have i2 := nmS_le HE2.out
  have i3 := nmS_le HE3.out
  refine ⟨⟨a, c, rfl, Own.base (Own.grown HOW3.out gr_set4 (own_neD fun q hq => by have := (HBK.out q hq).1; omega)) (by omega), fun q hq => by have := (HBK.out q hq).1; omega⟩, hrs.grown gr_set4 (.inr hp), grown_add hgw gr_set4 (.inr fun j hj => by cases hj; exact Nat.le_refl _), ?_⟩
  exact ⟨by simp only; omega, by simp only; omega, by simp only; omega, by simp only; omega⟩
end Go.Proofs.Ytdpkommmkcmifaa
namespace Go.Proofs.Ytdpkommmkcmifaa
set_option linter.unusedVariables false
set_option linter.unusedSimpArgs false
open Go.RowKit
theorem infoBB : (Try.prog.info? 37).map (fun i => (i.zero, i.size, i.bytes)) = some (some (.agg #[.int .u64 0, .int .u64 0, .int .u64 0, .slice none 0 0]), 4, 48) := by kernel_rfl
/-- a row of blocks of the call's own, from block B on; so their data -/
def RowB (w : World) (B : Nat) (v : Value) (l : List Blk) : Prop :=
  ∃ cells : List Value, w.ownsRow B 37 4 v l.length cells ∧ ∀ j (hj : j < l.length), ∃ a c, cells[j * 4]? = some (.int .u64 l[j].t) ∧ cells[j * 4 + 1]? = some (.int .u64 l[j].n) ∧ cells[j * 4 + 2]? = some (.int .u64 l[j].f) ∧ cells[j * 4 + 3]? = some (.slice a l[j].d.length c) ∧ Own w B (.slice a l[j].d.length c) l[j].d ∧ ((Value.slice a l[j].d.length c).ownBlock = none ∨ (Value.slice a l[j].d.length c).ownBlock ≠ v.ownBlock)
theorem RowB.nil (w : World) (B : Nat) : RowB w B (.slice none 0 0) [] := ⟨[], World.ownsRow_nil _ _ _ _, fun j hj => by cases hj⟩
theorem RowB.grown {w w' : World} {B r : Nat} {v : Value} {l : List Blk} (h : RowB w B v l) (hg : w.grownBy w' (some r)) (hr : r < B) : RowB w' B v l := by
  obtain ⟨cells, h1, h2⟩ := h
  refine ⟨cells, World.ownsRow.kept h1 hg ?_, fun j hj => ?_⟩
  · have hlt := World.ownsRow.lt h1
    cases e : v.ownBlock with
    | none => left; rfl
    | some q => right; have := (hlt q e).1; simp; omega
  · obtain ⟨a, c, k0, k1, k2, k3, k4, k5⟩ := h2 j hj
    refine ⟨a, c, k0, k1, k2, k3, k4.grown hg ?_, k5⟩
    have hlt := World.ownsRow.lt k4
    cases e : (Value.slice a l[j].d.length c).ownBlock with
    | none => left; rfl
    | some q => right; have := (hlt q e).1; simp; omega
theorem RowB.below {w w' : World} {B : Nat} {v : Value} {l : List Blk} (h : RowB w B v l) (hb : Below w.heap.size w w') : RowB w' B v l := by
  obtain ⟨cells, h1, h2⟩ := h
  refine ⟨cells, World.ownsRow.kept h1 (gr_below (World.grownBy.refl w none) hb) ?_, fun j hj => ?_⟩
  · cases e : v.ownBlock with
    | none => left; rfl
    | some q => right; simp
  · obtain ⟨a, c, k0, k1, k2, k3, k4, k5⟩ := h2 j hj
    exact ⟨a, c, k0, k1, k2, k3, k4.below hb, k5⟩
theorem RowB.rd {w : World} {B n c : Nat} {a : Option Addr} {l : List Blk} (h : RowB w B (.slice a n c) l) : RdBlks w a l ∧ l.length ≤ c ∧ (a = none → c = 0) ∧ (∀ q, a = some q → B ≤ q.block ∧ q.block < w.heap.size) := by
  obtain ⟨cells, h1, h2⟩ := h
  have hlt := World.ownsRow.lt h1
  rcases h1.2 with ⟨e, h0⟩ | ⟨g, cap, cur, e, hB, hg, hn, hm, hs, ht⟩
  · simp only [Value.slice.injEq] at e
    obtain ⟨rfl, -, rfl⟩ := e
    exact ⟨fun hp => by omega, by omega, fun _ => rfl, fun q hq => by cases hq⟩
  · simp only [Value.slice.injEq] at e
    obtain ⟨rfl, -, rfl⟩ := e
    refine ⟨fun _ => ⟨g, 0, rfl, fun j hj => ?_⟩, hn, (fun e => by cases e), fun q hq => by cases hq; exact ⟨hB, (hlt g rfl).2⟩⟩
    obtain ⟨a, c, k0, k1, k2, k3, k4, k5⟩ := h2 j hj
    obtain ⟨aq, cq, hv, hlc, -, hnn, hrd, -⟩ := k4.val
    simp only [Value.slice.injEq, true_and] at hv
    obtain ⟨rfl, rfl⟩ := hv
    have hcell : ∀ i u, i < l.length * 4 → cells[i]? = some u → w.cell? ⟨g, i, none⟩ = some u := by
      intro i u hi hu
      rw [cell_of_row w g i _ _ _ hg, ← Array.getElem?_toList, ← List.getElem?_take_of_lt hi, ht]
      exact hu
    rw [Nat.zero_add]
    exact ⟨a, c, hcell _ _ (by omega) k0, hcell _ _ (by omega) k1, hcell _ _ (by omega) k2, hcell _ _ (by omega) k3, hrd, hlc, hnn⟩
/-- append(v, x), at an operation -/
theorem wpo_appB {w : World} {o : Oper} {a : Act} {K : Act → World → Prop} {Q : Exit → Act → World → Prop} (s x : Operand)
    (ho : o.op = .call { callee := .builtin .append, args := #[s, x], argTypes := #[32, 32] }) (B : Nat) (v : Value) (l : List Blk) (b : Blk) (da : Option Addr) (dc g : Nat)
    (hs : a.eval s = v) (hrow : RowB w B v l) (hx : a.eval x = .slice (some ⟨g, 0, none⟩) 1 1) (hg : w.heap[g]? = some (.cells #[.int .u64 b.t, .int .u64 b.n, .int .u64 b.f, .slice da b.d.length dc] 37 (0, 0)))
    (hd : Own w B (.slice da b.d.length dc) b.d) (hne : (Value.slice da b.d.length dc).ownBlock = none ∨ (Value.slice da b.d.length dc).ownBlock ≠ v.ownBlock)
    (hb : l.length ≤ 1000) (hbase : B ≤ w.heap.size)
    (h : ∀ g' cap w', RowB w' B (.slice (some ⟨g', 0, none⟩) (l.length + 1) cap) (l ++ [b]) → w.grownBy w' v.ownBlock → (v.ownBlock = some g' ∨ g' = w.heap.size) → K (a.put o.dst (.slice (some ⟨g', 0, none⟩) (l.length + 1) cap)) w') : Oper.wp Try.prog o a w K Q := by
  obtain ⟨i0, hi, hz0, hz1, hz2⟩ := info_parts infoBB
  obtain ⟨cells, h1, h2⟩ := hrow
  refine wp_append_lies w s x 32 ho B 37 i0 _ 4 48 Try.underlying32 hi hz0 hz1 hz2 rfl (by decide) v l.length cells hs h1 ⟨g, 0, none⟩ 1 1 _ hx rfl (World.news_of_block hg) (by intro u hu; simp at hu; rcases hu with rfl | rfl | rfl | rfl <;> rfl) (by decide) (by simp only [maxLen]; omega) (by omega) hbase w.heap.size rfl ?_
  intro g' cap w' hown hgr hwh hlt
  refine h g' cap w' ⟨_, by rw [List.length_append]; exact hown, fun j hj => ?_⟩ hgr hwh
  have hcl : cells.length = l.length * 4 := h1.1
  have hold : ∀ (a' : Option Addr) (n' c' : Nat) (d : List UInt8), Own w B (.slice a' n' c') d → ((Value.slice a' n' c').ownBlock = none ∨ (Value.slice a' n' c').ownBlock ≠ v.ownBlock) → Own w' B (.slice a' n' c') d ∧ ((Value.slice a' n' c').ownBlock = none ∨ (Value.slice a' n' c').ownBlock ≠ (Value.slice (some ⟨g', 0, none⟩) (l.length + 1) cap).ownBlock) := by
    intro a' n' c' d k4 k5
    refine ⟨k4.grown hgr k5, ?_⟩
    rcases k5 with k5 | k5
    · exact .inl k5
    · rcases hwh with e | e
      · right
        rw [e] at k5
        exact k5
      · subst e
        have hq := World.ownsRow.lt k4
        cases e : (Value.slice a' n' c').ownBlock with
        | none => left; rfl
        | some q =>
          right
          have := (hq q e).2
          simp [Value.ownBlock]
          omega
  by_cases hjl : j < l.length
  · obtain ⟨a', c', k0, k1, k2, k3, k4, k5⟩ := h2 j hjl
    have e : (l ++ [b])[j] = l[j] := List.getElem_append_left hjl
    rw [e]
    obtain ⟨m4, m5⟩ := hold _ _ _ _ k4 k5
    refine ⟨a', c', ?_, ?_, ?_, ?_, m4, m5⟩
    · rw [List.getElem?_append_left (by omega)]; exact k0
    · rw [List.getElem?_append_left (by omega)]; exact k1
    · rw [List.getElem?_append_left (by omega)]; exact k2
    · rw [List.getElem?_append_left (by omega)]; exact k3
  · have hj' : j = l.length := by simp at hj; omega
    subst hj'
    have e : (l ++ [b])[l.length] = b := by simp
    rw [e]
    obtain ⟨m4, m5⟩ := hold _ _ _ _ hd hne
    refine ⟨da, dc, ?_, ?_, ?_, ?_, m4, m5⟩
    · rw [List.getElem?_append_right (by omega), show l.length * 4 - cells.length = 0 by omega]; rfl
    · rw [List.getElem?_append_right (by omega), show l.length * 4 + 1 - cells.length = 1 by omega]; rfl
    · rw [List.getElem?_append_right (by omega), show l.length * 4 + 2 - cells.length = 2 by omega]; rfl
    · rw [List.getElem?_append_right (by omega), show l.length * 4 + 3 - cells.length = 3 by omega]; rfl
theorem infoBD : (Try.prog.info? 40).map (fun i => (i.zero, i.size, i.bytes)) = some (some (.agg #[.int .u64 0, .int .u64 0, .int .u64 0, .slice none 0 0]), 4, 48) := by kernel_rfl
/-- a row of blocks of the call's own, from block B on; so their data -/
def RowD (w : World) (B : Nat) (v : Value) (l : List Blk) : Prop :=
  ∃ cells : List Value, w.ownsRow B 40 4 v l.length cells ∧ ∀ j (hj : j < l.length), ∃ a c, cells[j * 4]? = some (.int .u64 l[j].t) ∧ cells[j * 4 + 1]? = some (.int .u64 l[j].n) ∧ cells[j * 4 + 2]? = some (.int .u64 l[j].f) ∧ cells[j * 4 + 3]? = some (.slice a l[j].d.length c) ∧ Own w B (.slice a l[j].d.length c) l[j].d ∧ ((Value.slice a l[j].d.length c).ownBlock = none ∨ (Value.slice a l[j].d.length c).ownBlock ≠ v.ownBlock)
theorem RowD.nil (w : World) (B : Nat) : RowD w B (.slice none 0 0) [] := ⟨[], World.ownsRow_nil _ _ _ _, fun j hj => by cases hj⟩
theorem RowD.grown {w w' : World} {B r : Nat} {v : Value} {l : List Blk} (h : RowD w B v l) (hg : w.grownBy w' (some r)) (hr : r < B) : RowD w' B v l := by
  obtain ⟨cells, h1, h2⟩ := h
  refine ⟨cells, World.ownsRow.kept h1 hg ?_, fun j hj => ?_⟩
  · have hlt := World.ownsRow.lt h1
    cases e : v.ownBlock with
    | none => left; rfl
    | some q => right; have := (hlt q e).1; simp; omega
  · obtain ⟨a, c, k0, k1, k2, k3, k4, k5⟩ := h2 j hj
    refine ⟨a, c, k0, k1, k2, k3, k4.grown hg ?_, k5⟩
    have hlt := World.ownsRow.lt k4
    cases e : (Value.slice a l[j].d.length c).ownBlock with
    | none => left; rfl
    | some q => right; have := (hlt q e).1; simp; omega
theorem RowD.below {w w' : World} {B : Nat} {v : Value} {l : List Blk} (h : RowD w B v l) (hb : Below w.heap.size w w') : RowD w' B v l := by
  obtain ⟨cells, h1, h2⟩ := h
  refine ⟨cells, World.ownsRow.kept h1 (gr_below (World.grownBy.refl w none) hb) ?_, fun j hj => ?_⟩
  · cases e : v.ownBlock with
    | none => left; rfl
    | some q => right; simp
  · obtain ⟨a, c, k0, k1, k2, k3, k4, k5⟩ := h2 j hj
    exact ⟨a, c, k0, k1, k2, k3, k4.below hb, k5⟩
theorem RowD.rd {w : World} {B n c : Nat} {a : Option Addr} {l : List Blk} (h : RowD w B (.slice a n c) l) : RdBlks w a l ∧ l.length ≤ c ∧ (a = none → c = 0) ∧ (∀ q, a = some q → B ≤ q.block ∧ q.block < w.heap.size) := by
  obtain ⟨cells, h1, h2⟩ := h
  have hlt := World.ownsRow.lt h1
  rcases h1.2 with ⟨e, h0⟩ | ⟨g, cap, cur, e, hB, hg, hn, hm, hs, ht⟩
  · simp only [Value.slice.injEq] at e
    obtain ⟨rfl, -, rfl⟩ := e
    exact ⟨fun hp => by omega, by omega, fun _ => rfl, fun q hq => by cases hq⟩
  · simp only [Value.slice.injEq] at e
    obtain ⟨rfl, -, rfl⟩ := e
    refine ⟨fun _ => ⟨g, 0, rfl, fun j hj => ?_⟩, hn, (fun e => by cases e), fun q hq => by cases hq; exact ⟨hB, (hlt g rfl).2⟩⟩
    obtain ⟨a, c, k0, k1, k2, k3, k4, k5⟩ := h2 j hj
    obtain ⟨aq, cq, hv, hlc, -, hnn, hrd, -⟩ := k4.val
    simp only [Value.slice.injEq, true_and] at hv
    obtain ⟨rfl, rfl⟩ := hv
    have hcell : ∀ i u, i < l.length * 4 → cells[i]? = some u → w.cell? ⟨g, i, none⟩ = some u := by
      intro i u hi hu
      rw [cell_of_row w g i _ _ _ hg, ← Array.getElem?_toList, ← List.getElem?_take_of_lt hi, ht]
      exact hu
    rw [Nat.zero_add]
    exact ⟨a, c, hcell _ _ (by omega) k0, hcell _ _ (by omega) k1, hcell _ _ (by omega) k2, hcell _ _ (by omega) k3, hrd, hlc, hnn⟩
/-- append(v, x), at an operation -/
theorem wpo_appD {w : World} {o : Oper} {a : Act} {K : Act → World → Prop} {Q : Exit → Act → World → Prop} (s x : Operand)
    (ho : o.op = .call { callee := .builtin .append, args := #[s, x], argTypes := #[26, 26] }) (B : Nat) (v : Value) (l : List Blk) (b : Blk) (da : Option Addr) (dc g : Nat)
    (hs : a.eval s = v) (hrow : RowD w B v l) (hx : a.eval x = .slice (some ⟨g, 0, none⟩) 1 1) (hg : w.heap[g]? = some (.cells #[.int .u64 b.t, .int .u64 b.n, .int .u64 b.f, .slice da b.d.length dc] 40 (0, 0)))
    (hd : Own w B (.slice da b.d.length dc) b.d) (hne : (Value.slice da b.d.length dc).ownBlock = none ∨ (Value.slice da b.d.length dc).ownBlock ≠ v.ownBlock)
    (hb : l.length ≤ 1000) (hbase : B ≤ w.heap.size)
    (h : ∀ g' cap w', RowD w' B (.slice (some ⟨g', 0, none⟩) (l.length + 1) cap) (l ++ [b]) → w.grownBy w' v.ownBlock → (v.ownBlock = some g' ∨ g' = w.heap.size) → K (a.put o.dst (.slice (some ⟨g', 0, none⟩) (l.length + 1) cap)) w') : Oper.wp Try.prog o a w K Q := by
  obtain ⟨i0, hi, hz0, hz1, hz2⟩ := info_parts infoBD
  obtain ⟨cells, h1, h2⟩ := hrow
  refine wp_append_lies w s x 26 ho B 40 i0 _ 4 48 Try.underlying26 hi hz0 hz1 hz2 rfl (by decide) v l.length cells hs h1 ⟨g, 0, none⟩ 1 1 _ hx rfl (World.news_of_block hg) (by intro u hu; simp at hu; rcases hu with rfl | rfl | rfl | rfl <;> rfl) (by decide) (by simp only [maxLen]; omega) (by omega) hbase w.heap.size rfl ?_
  intro g' cap w' hown hgr hwh hlt
  refine h g' cap w' ⟨_, by rw [List.length_append]; exact hown, fun j hj => ?_⟩ hgr hwh
  have hcl : cells.length = l.length * 4 := h1.1
  have hold : ∀ (a' : Option Addr) (n' c' : Nat) (d : List UInt8), Own w B (.slice a' n' c') d → ((Value.slice a' n' c').ownBlock = none ∨ (Value.slice a' n' c').ownBlock ≠ v.ownBlock) → Own w' B (.slice a' n' c') d ∧ ((Value.slice a' n' c').ownBlock = none ∨ (Value.slice a' n' c').ownBlock ≠ (Value.slice (some ⟨g', 0, none⟩) (l.length + 1) cap).ownBlock) := by
    intro a' n' c' d k4 k5
    refine ⟨k4.grown hgr k5, ?_⟩
    rcases k5 with k5 | k5
    · exact .inl k5
    · rcases hwh with e | e
      · right
        rw [e] at k5
        exact k5
      · subst e
        have hq := World.ownsRow.lt k4
        cases e : (Value.slice a' n' c').ownBlock with
        | none => left; rfl
        | some q =>
          right
          have := (hq q e).2
          simp [Value.ownBlock]
          omega
  by_cases hjl : j < l.length
  · obtain ⟨a', c', k0, k1, k2, k3, k4, k5⟩ := h2 j hjl
    have e : (l ++ [b])[j] = l[j] := List.getElem_append_left hjl
    rw [e]
    obtain ⟨m4, m5⟩ := hold _ _ _ _ k4 k5
    refine ⟨a', c', ?_, ?_, ?_, ?_, m4, m5⟩
    · rw [List.getElem?_append_left (by omega)]; exact k0
    · rw [List.getElem?_append_left (by omega)]; exact k1
    · rw [List.getElem?_append_left (by omega)]; exact k2
    · rw [List.getElem?_append_left (by omega)]; exact k3
  · have hj' : j = l.length := by simp at hj; omega
    subst hj'
    have e : (l ++ [b])[l.length] = b := by simp
    rw [e]
    obtain ⟨m4, m5⟩ := hold _ _ _ _ hd hne
    refine ⟨da, dc, ?_, ?_, ?_, ?_, m4, m5⟩
    · rw [List.getElem?_append_right (by omega), show l.length * 4 - cells.length = 0 by omega]; rfl
    · rw [List.getElem?_append_right (by omega), show l.length * 4 + 1 - cells.length = 1 by omega]; rfl
    · rw [List.getElem?_append_right (by omega), show l.length * 4 + 2 - cells.length = 2 by omega]; rfl
    · rw [List.getElem?_append_right (by omega), show l.length * 4 + 3 - cells.length = 3 by omega]; rfl
end Go.Proofs.Ytdpkommmkcmifaa
namespace Go.Proofs.Ytdpkommmkcmifaa
set_option linter.unusedVariables false
set_option linter.unusedSimpArgs false
open Go.RowKit
def zeroB : Bun := ⟨0, 0, 0, 0, 0, 0, 0, 0, 0, 0, [], []⟩
theorem zeroB_R (w : World) : BunR w zeroB none 0 none 0 :=
  ⟨fun h => absurd h (Nat.lt_irrefl 0), Nat.le_refl _, fun _ => rfl, Rd.nil _ _, Nat.le_refl _, fun _ => rfl, ⟨by decide, by decide, by decide, by decide, by decide, by decide, by decide, by decide, by decide, by decide, fun x hx => (by cases hx), by decide, by decide⟩⟩
theorem ValidIs.same {b : Bun} {m n : Int} (h : ValidIs b m) (k : ValidIs b n) : m = n := by
  rcases h with ⟨h1, h2⟩ | ⟨h1, h2⟩ <;> rcases k with ⟨k1, k2⟩ | ⟨k1, k2⟩
  · rw [h2, k2]
  · exact absurd k1 h1
  · exact absurd h1 k1
  · rw [h2, k2]
end Go.Proofs.Ytdpkommmkcmifaa
