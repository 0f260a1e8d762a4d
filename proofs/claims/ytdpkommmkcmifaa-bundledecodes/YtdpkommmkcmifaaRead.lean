import Derived.Test.YtdpkommmkcmifaaBlkRow
namespace Go.Proofs.Ytdpkommmkcmifaa
set_option linter.unusedVariables false
set_option linter.unusedSimpArgs false
open Go.RowKit
theorem mustF_bad {b : Bool} {f : Int} (h : b = false) : ¬ mustF b f = 0 := by
  unfold mustF
  rw [h, if_neg (by decide)]
  split
  · decide
  · assumption
/-- how many blocks lie in a bundle's box yet -/
def lenAt (w : World) (R : Nat) : Nat := match w.cell? ⟨R, 10, none⟩ with
  | some (.slice _ n _) => n
  | _ => 0
theorem RS.grownO {w w' : World} {p B : Nat} {ys : List UInt8} {f : Int} {row : Option Nat} (h : RS w p B ys f) (hg : w.grownBy w' row) (hr : ∀ r, row = some r → r < B ∨ p < r) : RS w' p B ys f := by
  cases row with
  | none => exact h.grown (hg.any (some (p + 1))) (.inr (Nat.lt_succ_self p))
  | some r => exact h.grown hg (hr r rfl)
theorem gr_boxO {w w' : World} {g : Nat} {c : Obj} {row : Option Nat} (hg : w.grownBy w' row) (hne : ∀ r, row = some r → g ≠ r) (h : w.heap[g]? = some c) : w'.heap[g]? = some c := by
  cases row with
  | none => exact (hg.block g (Array.getElem?_eq_some_iff.1 h).1 (by simp)).trans h
  | some r => exact gr_box hg (hne r rfl) h
theorem own_blk {a : Option Addr} {n c B N : Nat} (h : ∀ q, a = some q → B ≤ q.block ∧ q.block < N) : ∀ r, (Value.slice a n c).ownBlock = some r → B ≤ r ∧ r < N := by
  intro r hr
  cases a with
  | none => cases hr
  | some q => cases hr; exact h q rfl
theorem readBlock_n {p B n : Nat} {ys ys' : List UInt8} {f f' : Int} {x : Blk} {l : List Blk} (hn : n = l.length) (so : Option Addr) (cap : Nat) (l' : List Blk) (w : World) (h : RS w p B ys f) (hl : ∀ u, w.grownBy u (some p) → RdBlks u so l) (hlc : l.length ≤ cap) (hb : l.length ≤ 140737488351232) (hx : blockS l (ys, f) = (x, ys', f')) :
    Calls Try.prog 62 #[.pointer (some ⟨p, 0, none⟩), .slice so n cap] w fun e w' => (∃ a c, e = .returned (blkV x a c) ∧ Own w' w.heap.size (.slice a x.d.length c) x.d ∧ (∀ q, a = some q → w.heap.size < q.block)) ∧ RS w' p B ys' f' ∧ w.grownBy w' (some p) ∧ x.ok := by
  subst hn
  exact readBlock_t so cap l w h hl hlc hb hx
theorem wpo_appN {w : World} {o : Oper} {a : Act} {K : Act → World → Prop} {Q : Exit → Act → World → Prop} {n : Nat} {l : List Blk} (hn : n = l.length) (s x : Operand)
    (ho : o.op = .call { callee := .builtin .append, args := #[s, x], argTypes := #[32, 32] }) (B : Nat) (v : Value) (b : Blk) (da : Option Addr) (dc g : Nat)
    (hs : a.eval s = v) (hrow : RowB w B v l) (hx : a.eval x = .slice (some ⟨g, 0, none⟩) 1 1) (hg : w.heap[g]? = some (.cells #[.int .u64 b.t, .int .u64 b.n, .int .u64 b.f, .slice da b.d.length dc] 37 (0, 0)))
    (hd : Own w B (.slice da b.d.length dc) b.d) (hne : (Value.slice da b.d.length dc).ownBlock = none ∨ (Value.slice da b.d.length dc).ownBlock ≠ v.ownBlock)
    (hb : l.length ≤ 1000) (hbase : B ≤ w.heap.size)
    (h : ∀ g' cap w', RowB w' B (.slice (some ⟨g', 0, none⟩) (n + 1) cap) (l ++ [b]) → w.grownBy w' v.ownBlock → (v.ownBlock = some g' ∨ g' = w.heap.size) → K (a.put o.dst (.slice (some ⟨g', 0, none⟩) (n + 1) cap)) w') : Oper.wp Try.prog o a w K Q := by
  subst hn
  exact wpo_appB s x ho B v l b da dc g hs hrow hx hg hd hne hb hbase h
theorem row_far {w : World} {B n c m c5 : Nat} {a a5 : Option Addr} {l : List Blk} (h : RowB w B (.slice a n c) l) (hf : ∀ q, a5 = some q → w.heap.size < q.block) : (Value.slice a5 m c5).ownBlock = none ∨ (Value.slice a5 m c5).ownBlock ≠ (Value.slice a n c).ownBlock := by
  cases a5 with
  | none => left; rfl
  | some q =>
    right
    have h1 := hf q rfl
    have h2 := h.rd.2.2.2
    cases a with
    | none => simp [Value.ownBlock]
    | some z => have := (h2 z rfl).2; simp [Value.ownBlock]; omega
set_option maxRecDepth 20000 in
set_option maxHeartbeats 6400000 in
theorem read_t {p B : Nat} {ys ys' : List UInt8} {f f' : Int} {o : Bun} (w : World) (h : RS w p B ys f) (hx : readS (ys, f) = (o, ys', f')) :
    Calls Try.prog 37 #[.pointer (some ⟨p, 0, none⟩)] w fun e w' => (∃ a c pa pc, e = .returned (bunV o a c pa pc) ∧ RowB w' (w.heap.size + 1) (.slice a o.bl.length c) o.bl ∧ Own w' (w.heap.size + 1) (.slice pa o.py.length pc) o.py ∧ o.ok ∧ o.bl.length ≤ 8) ∧ RS w' p B ys' f' ∧ w.grownBy w' (some p) := by
  have hp := h.lt
  have hpB := h.ge
  obtain ⟨W0, hW0⟩ : ∃ W0 : World, W0 = w.alloc (.cells #[.int .u64 0, .int .u64 0, .int .u64 0, .int .u64 0, .int .u64 0, .int .u64 0, .int .u64 0, .int .u64 0, .int .u64 0, .int .u64 0, .slice none 0 0, .slice none 0 0] 34) := ⟨_, rfl⟩
  have hR : W0.heap[w.heap.size]? = some (.cells #[.int .u64 0, .int .u64 0, .int .u64 0, .int .u64 0, .int .u64 0, .int .u64 0, .int .u64 0, .int .u64 0, .int .u64 0, .int .u64 0, .slice none 0 0, .slice none 0 0] 34 (0, 0)) := by rw [hW0]; exact heap_alloc_new w _
  have hb0 : Below w.heap.size w W0 := by rw [hW0]; exact al (Below.refl _ _) _
  have hgw : w.grownBy W0 (some p) := gr_below (World.grownBy.refl _ _) hb0
  have hs0 : w.heap.size + 1 ≤ W0.heap.size := (Array.getElem?_eq_some_iff.1 hR).1
  have hrs := h.below hb0
  go_enter Try.func37, Try.ntmps37
  obtain ⟨t, y0, f0, e0⟩ : ∃ t y0 f0, tkS 1 (ys, f) = (t, y0, f0) := ⟨_, _, _, rfl⟩
  go_wp2_with fail
  rw [← hW0]
  clear hW0
  refine (take_t 1 _ hrs e0).mono ?_
  rintro e u0 ⟨ta, tc, rfl, hown, hrs, hg⟩
  have HE0 : Hid (tkS 1 (ys, f) = (t, y0, f0)) := e0
  have hgw := grown_add hgw hg (.inl rfl)
  have hR := gr_box hg (by omega) hR
  have hrd := Rd.of_ownD hown
  have h6 : Rd (u0.alloc (.cells #[.int .u8 6] 5)) (some ⟨u0.heap.size, 0, none⟩) [6] := rd_lit u0 _ rfl _ _ _ _ rfl
  have hb6 : Below u0.heap.size u0 (u0.alloc (.cells #[.int .u8 6] 5)) := al (Below.refl _ _) _
  clear e0 hg hown
  go_wp2_with fail
  refine (equal_b ta _ tc t rfl _ 1 1 [6] rfl _ (hrd.below hb6) h6).mono ?_
  rintro e v0 ⟨rfl, rfl⟩
  obtain ⟨b0, hb0'⟩ : ∃ b0, b0 = (t == [6]) := ⟨_, rfl⟩
  rw [← hb0']
  have HB0 : Hid (b0 = (t == [6])) := hb0'
  have hgw := gr_below hgw hb6
  have hrs := hrs.below hb6
  have hR := box_on hR hb6
  clear hb0' hrd h6
  go_wp2_with fail
  refine (must_t b0 _ hrs).mono ?_
  rintro e w0 ⟨rfl, hrs, hg⟩
  have hgw := grown_add hgw hg (.inl rfl)
  have hR := gr_box hg (by omega) hR
  clear hg hb6
  obtain ⟨fl, yfl, ffl, efl⟩ : ∃ fl yfl ffl, nmS 281474976710655 (y0, mustF b0 f0) = (fl, yfl, ffl) := ⟨_, _, _, rfl⟩
  go_wp2_with fail
  refine (number_t _ hrs efl).mono ?_
  rintro e ufl ⟨rfl, hrs, hg⟩
  have HEfl : Hid (nmS 281474976710655 (y0, mustF b0 f0) = (fl, yfl, ffl)) := efl
  have hgw := grown_add hgw hg (.inl rfl)
  have hR := gr_box hg (by omega) hR
  clear efl hg
  obtain ⟨c0, c1, c2, c3, c4, c5, c6, c7, c8, c9, c10, c11, z0, z1, z2, z3, z4, z5, z6, z7, z8, z9, z10, z11⟩ := cells12 hR
  have hgw : w.grownBy (ufl.setCell ⟨w.heap.size, 0, none⟩ (.int .u64 (fl : Nat))) (some p) := grown_add hgw (gr_set (World.grownBy.refl _ _) _ _) (.inr fun j hj => by cases hj; exact Nat.le_refl _)
  have hrs := hrs.set w.heap.size 0 (.int .u64 (fl : Nat)) (.inr hp)
  have hR : (ufl.setCell ⟨w.heap.size, 0, none⟩ (.int .u64 (fl : Nat))).heap[w.heap.size]? = some (.cells #[.int .u64 (fl : Nat), .int .u64 0, .int .u64 0, .int .u64 0, .int .u64 0, .int .u64 0, .int .u64 0, .int .u64 0, .int .u64 0, .int .u64 0, .slice none 0 0, .slice none 0 0] 34 (0, 0)) := heap_set1 (i := 0) (v := .int .u64 (fl : Nat)) hR
  obtain ⟨bfl, hbfl⟩ : ∃ bfl, bfl = decide ((fl : Int) < 8) := ⟨_, rfl⟩
  have HBfl : Hid (bfl = decide (fl < 8)) := by unfold Hid; rw [hbfl]; exact decide_eq_decide.2 (by omega)
  go_wp2_with fail
  clear c0 c1 c2 c3 c4 c5 c6 c7 c8 c9 c10 c11 z0 z1 z2 z3 z4 z5 z6 z7 z8 z9 z10 z11
  rw [← hbfl]
  clear hbfl
  refine (must_t bfl _ hrs).mono ?_
  rintro e wfl ⟨rfl, hrs, hg⟩
  have hgw := grown_add hgw hg (.inl rfl)
  have hR := gr_box hg (by omega) hR
  clear hg
  obtain ⟨a0, ya0, fa0, ea0⟩ : ∃ a0 ya0 fa0, nmS 281474976710655 (yfl, mustF bfl ffl) = (a0, ya0, fa0) := ⟨_, _, _, rfl⟩
  obtain ⟨a1, ya1, fa1, ea1⟩ : ∃ a1 ya1 fa1, nmS 281474976710655 (ya0, fa0) = (a1, ya1, fa1) := ⟨_, _, _, rfl⟩
  go_wp2_with fail
  refine (eid_t _ hrs ea0 ea1).mono ?_
  rintro e ua0 ⟨rfl, hrs, hg⟩
  have HEa0 : Hid (nmS 281474976710655 (yfl, mustF bfl ffl) = (a0, ya0, fa0)) := ea0
  have HEa1 : Hid (nmS 281474976710655 (ya0, fa0) = (a1, ya1, fa1)) := ea1
  have hgw := grown_add hgw hg (.inl rfl)
  have hR := gr_box hg (by omega) hR
  clear ea0 ea1 hg
  obtain ⟨c0, c1, c2, c3, c4, c5, c6, c7, c8, c9, c10, c11, z0, z1, z2, z3, z4, z5, z6, z7, z8, z9, z10, z11⟩ := cells12 hR
  have hgw : w.grownBy (ua0.setCell ⟨w.heap.size, 1, none⟩ (.int .u64 (a0 : Nat))) (some p) := grown_add hgw (gr_set (World.grownBy.refl _ _) _ _) (.inr fun j hj => by cases hj; exact Nat.le_refl _)
  have hrs := hrs.set w.heap.size 1 (.int .u64 (a0 : Nat)) (.inr hp)
  have hR : (ua0.setCell ⟨w.heap.size, 1, none⟩ (.int .u64 (a0 : Nat))).heap[w.heap.size]? = some (.cells #[.int .u64 (fl : Nat), .int .u64 (a0 : Nat), .int .u64 0, .int .u64 0, .int .u64 0, .int .u64 0, .int .u64 0, .int .u64 0, .int .u64 0, .int .u64 0, .slice none 0 0, .slice none 0 0] 34 (0, 0)) := heap_set1 (i := 1) (v := .int .u64 (a0 : Nat)) hR
  have hgw : w.grownBy ((ua0.setCell ⟨w.heap.size, 1, none⟩ (.int .u64 (a0 : Nat))).setCell ⟨w.heap.size, 2, none⟩ (.int .u64 (a1 : Nat))) (some p) := grown_add hgw (gr_set (World.grownBy.refl _ _) _ _) (.inr fun j hj => by cases hj; exact Nat.le_refl _)
  have hrs := hrs.set w.heap.size 2 (.int .u64 (a1 : Nat)) (.inr hp)
  have hR : ((ua0.setCell ⟨w.heap.size, 1, none⟩ (.int .u64 (a0 : Nat))).setCell ⟨w.heap.size, 2, none⟩ (.int .u64 (a1 : Nat))).heap[w.heap.size]? = some (.cells #[.int .u64 (fl : Nat), .int .u64 (a0 : Nat), .int .u64 (a1 : Nat), .int .u64 0, .int .u64 0, .int .u64 0, .int .u64 0, .int .u64 0, .int .u64 0, .int .u64 0, .slice none 0 0, .slice none 0 0] 34 (0, 0)) := heap_set1 (i := 2) (v := .int .u64 (a1 : Nat)) hR
  obtain ⟨a2, ya2, fa2, ea2⟩ : ∃ a2 ya2 fa2, nmS 281474976710655 (ya1, fa1) = (a2, ya2, fa2) := ⟨_, _, _, rfl⟩
  obtain ⟨a3, ya3, fa3, ea3⟩ : ∃ a3 ya3 fa3, nmS 281474976710655 (ya2, fa2) = (a3, ya3, fa3) := ⟨_, _, _, rfl⟩
  go_wp2_with fail
  clear c0 c1 c2 c3 c4 c5 c6 c7 c8 c9 c10 c11 z0 z1 z2 z3 z4 z5 z6 z7 z8 z9 z10 z11
  refine (eid_t _ hrs ea2 ea3).mono ?_
  rintro e ua2 ⟨rfl, hrs, hg⟩
  have HEa2 : Hid (nmS 281474976710655 (ya1, fa1) = (a2, ya2, fa2)) := ea2
  have HEa3 : Hid (nmS 281474976710655 (ya2, fa2) = (a3, ya3, fa3)) := ea3
  have hgw := grown_add hgw hg (.inl rfl)
  have hR := gr_box hg (by omega) hR
  clear ea2 ea3 hg
  obtain ⟨c0, c1, c2, c3, c4, c5, c6, c7, c8, c9, c10, c11, z0, z1, z2, z3, z4, z5, z6, z7, z8, z9, z10, z11⟩ := cells12 hR
  have hgw : w.grownBy (ua2.setCell ⟨w.heap.size, 3, none⟩ (.int .u64 (a2 : Nat))) (some p) := grown_add hgw (gr_set (World.grownBy.refl _ _) _ _) (.inr fun j hj => by cases hj; exact Nat.le_refl _)
  have hrs := hrs.set w.heap.size 3 (.int .u64 (a2 : Nat)) (.inr hp)
  have hR : (ua2.setCell ⟨w.heap.size, 3, none⟩ (.int .u64 (a2 : Nat))).heap[w.heap.size]? = some (.cells #[.int .u64 (fl : Nat), .int .u64 (a0 : Nat), .int .u64 (a1 : Nat), .int .u64 (a2 : Nat), .int .u64 0, .int .u64 0, .int .u64 0, .int .u64 0, .int .u64 0, .int .u64 0, .slice none 0 0, .slice none 0 0] 34 (0, 0)) := heap_set1 (i := 3) (v := .int .u64 (a2 : Nat)) hR
  have hgw : w.grownBy ((ua2.setCell ⟨w.heap.size, 3, none⟩ (.int .u64 (a2 : Nat))).setCell ⟨w.heap.size, 4, none⟩ (.int .u64 (a3 : Nat))) (some p) := grown_add hgw (gr_set (World.grownBy.refl _ _) _ _) (.inr fun j hj => by cases hj; exact Nat.le_refl _)
  have hrs := hrs.set w.heap.size 4 (.int .u64 (a3 : Nat)) (.inr hp)
  have hR : ((ua2.setCell ⟨w.heap.size, 3, none⟩ (.int .u64 (a2 : Nat))).setCell ⟨w.heap.size, 4, none⟩ (.int .u64 (a3 : Nat))).heap[w.heap.size]? = some (.cells #[.int .u64 (fl : Nat), .int .u64 (a0 : Nat), .int .u64 (a1 : Nat), .int .u64 (a2 : Nat), .int .u64 (a3 : Nat), .int .u64 0, .int .u64 0, .int .u64 0, .int .u64 0, .int .u64 0, .slice none 0 0, .slice none 0 0] 34 (0, 0)) := heap_set1 (i := 4) (v := .int .u64 (a3 : Nat)) hR
  obtain ⟨a4, ya4, fa4, ea4⟩ : ∃ a4 ya4 fa4, nmS 281474976710655 (ya3, fa3) = (a4, ya4, fa4) := ⟨_, _, _, rfl⟩
  obtain ⟨a5, ya5, fa5, ea5⟩ : ∃ a5 ya5 fa5, nmS 281474976710655 (ya4, fa4) = (a5, ya5, fa5) := ⟨_, _, _, rfl⟩
  go_wp2_with fail
  clear c0 c1 c2 c3 c4 c5 c6 c7 c8 c9 c10 c11 z0 z1 z2 z3 z4 z5 z6 z7 z8 z9 z10 z11
  refine (eid_t _ hrs ea4 ea5).mono ?_
  rintro e ua4 ⟨rfl, hrs, hg⟩
  have HEa4 : Hid (nmS 281474976710655 (ya3, fa3) = (a4, ya4, fa4)) := ea4
  have HEa5 : Hid (nmS 281474976710655 (ya4, fa4) = (a5, ya5, fa5)) := ea5
  have hgw := grown_add hgw hg (.inl rfl)
  have hR := gr_box hg (by omega) hR
  clear ea4 ea5 hg
  obtain ⟨c0, c1, c2, c3, c4, c5, c6, c7, c8, c9, c10, c11, z0, z1, z2, z3, z4, z5, z6, z7, z8, z9, z10, z11⟩ := cells12 hR
  have hgw : w.grownBy (ua4.setCell ⟨w.heap.size, 5, none⟩ (.int .u64 (a4 : Nat))) (some p) := grown_add hgw (gr_set (World.grownBy.refl _ _) _ _) (.inr fun j hj => by cases hj; exact Nat.le_refl _)
  have hrs := hrs.set w.heap.size 5 (.int .u64 (a4 : Nat)) (.inr hp)
  have hR : (ua4.setCell ⟨w.heap.size, 5, none⟩ (.int .u64 (a4 : Nat))).heap[w.heap.size]? = some (.cells #[.int .u64 (fl : Nat), .int .u64 (a0 : Nat), .int .u64 (a1 : Nat), .int .u64 (a2 : Nat), .int .u64 (a3 : Nat), .int .u64 (a4 : Nat), .int .u64 0, .int .u64 0, .int .u64 0, .int .u64 0, .slice none 0 0, .slice none 0 0] 34 (0, 0)) := heap_set1 (i := 5) (v := .int .u64 (a4 : Nat)) hR
  have hgw : w.grownBy ((ua4.setCell ⟨w.heap.size, 5, none⟩ (.int .u64 (a4 : Nat))).setCell ⟨w.heap.size, 6, none⟩ (.int .u64 (a5 : Nat))) (some p) := grown_add hgw (gr_set (World.grownBy.refl _ _) _ _) (.inr fun j hj => by cases hj; exact Nat.le_refl _)
  have hrs := hrs.set w.heap.size 6 (.int .u64 (a5 : Nat)) (.inr hp)
  have hR : ((ua4.setCell ⟨w.heap.size, 5, none⟩ (.int .u64 (a4 : Nat))).setCell ⟨w.heap.size, 6, none⟩ (.int .u64 (a5 : Nat))).heap[w.heap.size]? = some (.cells #[.int .u64 (fl : Nat), .int .u64 (a0 : Nat), .int .u64 (a1 : Nat), .int .u64 (a2 : Nat), .int .u64 (a3 : Nat), .int .u64 (a4 : Nat), .int .u64 (a5 : Nat), .int .u64 0, .int .u64 0, .int .u64 0, .slice none 0 0, .slice none 0 0] 34 (0, 0)) := heap_set1 (i := 6) (v := .int .u64 (a5 : Nat)) hR
  obtain ⟨tm, ytm, ftm, etm⟩ : ∃ tm ytm ftm, nmS 281474976710655 (ya5, fa5) = (tm, ytm, ftm) := ⟨_, _, _, rfl⟩
  go_wp2_with fail
  clear c0 c1 c2 c3 c4 c5 c6 c7 c8 c9 c10 c11 z0 z1 z2 z3 z4 z5 z6 z7 z8 z9 z10 z11
  refine (number_t _ hrs etm).mono ?_
  rintro e utm ⟨rfl, hrs, hg⟩
  have HEtm : Hid (nmS 281474976710655 (ya5, fa5) = (tm, ytm, ftm)) := etm
  have hgw := grown_add hgw hg (.inl rfl)
  have hR := gr_box hg (by omega) hR
  clear etm hg
  obtain ⟨c0, c1, c2, c3, c4, c5, c6, c7, c8, c9, c10, c11, z0, z1, z2, z3, z4, z5, z6, z7, z8, z9, z10, z11⟩ := cells12 hR
  have hgw : w.grownBy (utm.setCell ⟨w.heap.size, 7, none⟩ (.int .u64 (tm : Nat))) (some p) := grown_add hgw (gr_set (World.grownBy.refl _ _) _ _) (.inr fun j hj => by cases hj; exact Nat.le_refl _)
  have hrs := hrs.set w.heap.size 7 (.int .u64 (tm : Nat)) (.inr hp)
  have hR : (utm.setCell ⟨w.heap.size, 7, none⟩ (.int .u64 (tm : Nat))).heap[w.heap.size]? = some (.cells #[.int .u64 (fl : Nat), .int .u64 (a0 : Nat), .int .u64 (a1 : Nat), .int .u64 (a2 : Nat), .int .u64 (a3 : Nat), .int .u64 (a4 : Nat), .int .u64 (a5 : Nat), .int .u64 (tm : Nat), .int .u64 0, .int .u64 0, .slice none 0 0, .slice none 0 0] 34 (0, 0)) := heap_set1 (i := 7) (v := .int .u64 (tm : Nat)) hR
  obtain ⟨sq, ysq, fsq, esq⟩ : ∃ sq ysq fsq, nmS 281474976710655 (ytm, ftm) = (sq, ysq, fsq) := ⟨_, _, _, rfl⟩
  go_wp2_with fail
  clear c0 c1 c2 c3 c4 c5 c6 c7 c8 c9 c10 c11 z0 z1 z2 z3 z4 z5 z6 z7 z8 z9 z10 z11
  refine (number_t _ hrs esq).mono ?_
  rintro e usq ⟨rfl, hrs, hg⟩
  have HEsq : Hid (nmS 281474976710655 (ytm, ftm) = (sq, ysq, fsq)) := esq
  have hgw := grown_add hgw hg (.inl rfl)
  have hR := gr_box hg (by omega) hR
  clear esq hg
  obtain ⟨c0, c1, c2, c3, c4, c5, c6, c7, c8, c9, c10, c11, z0, z1, z2, z3, z4, z5, z6, z7, z8, z9, z10, z11⟩ := cells12 hR
  have hgw : w.grownBy (usq.setCell ⟨w.heap.size, 8, none⟩ (.int .u64 (sq : Nat))) (some p) := grown_add hgw (gr_set (World.grownBy.refl _ _) _ _) (.inr fun j hj => by cases hj; exact Nat.le_refl _)
  have hrs := hrs.set w.heap.size 8 (.int .u64 (sq : Nat)) (.inr hp)
  have hR : (usq.setCell ⟨w.heap.size, 8, none⟩ (.int .u64 (sq : Nat))).heap[w.heap.size]? = some (.cells #[.int .u64 (fl : Nat), .int .u64 (a0 : Nat), .int .u64 (a1 : Nat), .int .u64 (a2 : Nat), .int .u64 (a3 : Nat), .int .u64 (a4 : Nat), .int .u64 (a5 : Nat), .int .u64 (tm : Nat), .int .u64 (sq : Nat), .int .u64 0, .slice none 0 0, .slice none 0 0] 34 (0, 0)) := heap_set1 (i := 8) (v := .int .u64 (sq : Nat)) hR
  obtain ⟨lf, ylf, flf, elf⟩ : ∃ lf ylf flf, nmS 281474976710655 (ysq, fsq) = (lf, ylf, flf) := ⟨_, _, _, rfl⟩
  go_wp2_with fail
  clear c0 c1 c2 c3 c4 c5 c6 c7 c8 c9 c10 c11 z0 z1 z2 z3 z4 z5 z6 z7 z8 z9 z10 z11
  refine (number_t _ hrs elf).mono ?_
  rintro e ulf ⟨rfl, hrs, hg⟩
  have HElf : Hid (nmS 281474976710655 (ysq, fsq) = (lf, ylf, flf)) := elf
  have hgw := grown_add hgw hg (.inl rfl)
  have hR := gr_box hg (by omega) hR
  clear elf hg
  obtain ⟨c0, c1, c2, c3, c4, c5, c6, c7, c8, c9, c10, c11, z0, z1, z2, z3, z4, z5, z6, z7, z8, z9, z10, z11⟩ := cells12 hR
  have hgw : w.grownBy (ulf.setCell ⟨w.heap.size, 9, none⟩ (.int .u64 (lf : Nat))) (some p) := grown_add hgw (gr_set (World.grownBy.refl _ _) _ _) (.inr fun j hj => by cases hj; exact Nat.le_refl _)
  have hrs := hrs.set w.heap.size 9 (.int .u64 (lf : Nat)) (.inr hp)
  have hR : (ulf.setCell ⟨w.heap.size, 9, none⟩ (.int .u64 (lf : Nat))).heap[w.heap.size]? = some (.cells #[.int .u64 (fl : Nat), .int .u64 (a0 : Nat), .int .u64 (a1 : Nat), .int .u64 (a2 : Nat), .int .u64 (a3 : Nat), .int .u64 (a4 : Nat), .int .u64 (a5 : Nat), .int .u64 (tm : Nat), .int .u64 (sq : Nat), .int .u64 (lf : Nat), .slice none 0 0, .slice none 0 0] 34 (0, 0)) := heap_set1 (i := 9) (v := .int .u64 (lf : Nat)) hR
  obtain ⟨ct, yct, fct, ect⟩ : ∃ ct yct fct, nmS 281474976710655 (ylf, flf) = (ct, yct, fct) := ⟨_, _, _, rfl⟩
  go_wp2_with fail
  clear c0 c1 c2 c3 c4 c5 c6 c7 c8 c9 c10 c11 z0 z1 z2 z3 z4 z5 z6 z7 z8 z9 z10 z11
  refine (number_t _ hrs ect).mono ?_
  rintro e uct ⟨rfl, hrs, hg⟩
  have HEct : Hid (nmS 281474976710655 (ylf, flf) = (ct, yct, fct)) := ect
  have hgw := grown_add hgw hg (.inl rfl)
  have hR := gr_box hg (by omega) hR
  clear ect hg
  obtain ⟨bct, hbct⟩ : ∃ bct, bct = decide ((ct : Int) ≤ 8) := ⟨_, rfl⟩
  have HBct : Hid (bct = decide (ct ≤ 8)) := by unfold Hid; rw [hbct]; exact decide_eq_decide.2 (by omega)
  go_wp2_with fail
  rw [← hbct]
  clear hbct
  refine (must_t bct _ hrs).mono ?_
  rintro e wct ⟨rfl, hrs, hg⟩
  have hgw := grown_add hgw hg (.inl rfl)
  have hR := gr_box hg (by omega) hR
  clear hg

  have hct := nmS_le HEct.out
  have hcl : ct < 18446744073709551616 := by omega
  obtain ⟨T, yT, fT, eT⟩ : ∃ T yT fT, blocksS ct [] (yct, mustF bct fct) = (T, yT, fT) := ⟨_, _, _, rfl⟩
  have h80 : ct ≤ 8 ∨ ¬ mustF bct fct = 0 := by
    by_cases h8 : ct ≤ 8
    · exact .inl h8
    · exact .inr (mustF_bad (by rw [HBct.out]; simpa using h8))
  go_wp2_with fail
  go_loopw [] (fun wr => ∃ (l : List Blk) (a : Option Addr) (c : Nat) (y : List UInt8) (g : Int), wr.heap[w.heap.size]? = some (.cells #[.int .u64 (fl : Nat), .int .u64 (a0 : Nat), .int .u64 (a1 : Nat), .int .u64 (a2 : Nat), .int .u64 (a3 : Nat), .int .u64 (a4 : Nat), .int .u64 (a5 : Nat), .int .u64 (tm : Nat), .int .u64 (sq : Nat), .int .u64 (lf : Nat), .slice a l.length c, .slice none 0 0] 34 (0, 0)) ∧ RowB wr (w.heap.size + 1) (.slice a l.length c) l ∧ RS wr p B y g ∧ w.grownBy wr (some p) ∧ Hid (blocksS (ct - l.length) l (y, g) = (T, yT, fT)) ∧ l.length ≤ ct ∧ (ct ≤ 8 ∨ (l = [] ∧ ¬ g = 0)) ∧ (∀ x ∈ l, x.ok) ∧ w.heap.size + 1 ≤ wr.heap.size) (fun wr => ct - lenAt wr w.heap.size)
  case atStart => exact ⟨[], none, 0, yct, mustF bct fct, hR, RowB.nil _ _, hrs, hgw, by unfold Hid; simpa using eT, Nat.zero_le _, by rcases h80 with h1 | h1 <;> simp [h1], fun x hx => (by cases hx), (Array.getElem?_eq_some_iff.1 hR).1⟩
  case round =>
    obtain ⟨l, a, c, y, g, hR, hrow, hrs, hgw, HBS, hlt, h8, hok, hsz⟩ := hrel
    obtain ⟨c0, c1, c2, c3, c4, c5, c6, c7, c8, c9, c10, c11, z0, z1, z2, z3, z4, z5, z6, z7, z8, z9, z10, z11⟩ := cells12 hR
    have HLA : Hid (lenAt wr w.heap.size = l.length) := by unfold Hid lenAt; rw [c10]
    have hwl : IntKind.u64.wrap (l.length : Int) = (l.length : Int) := by rw [IntKind.wrap_u64]; omega
    have hl8 : l.length ≤ 8 := by
      rcases h8 with h1 | ⟨rfl, -⟩
      · omega
      · simp
    by_cases hlc : l.length < ct
    · by_cases hg0 : g = 0
      · subst hg0
        have h8' : ct ≤ 8 := by
          rcases h8 with h1 | ⟨-, h1⟩
          · exact h1
          · exact absurd rfl h1
        obtain ⟨x, y2, g2, eB⟩ : ∃ x y2 g2, blockS l (y, 0) = (x, y2, g2) := ⟨_, _, _, rfl⟩
        have HBS2 : Hid (blocksS (ct - (l.length + 1)) (l ++ [x]) (y2, g2) = (T, yT, fT)) := by
          have h1 := HBS.out
          rw [show ct - l.length = (ct - (l.length + 1)) + 1 by omega, blocksS_step _ _ _ rfl, eB] at h1
          exact h1
        obtain ⟨n, hn⟩ : ∃ n, n = l.length := ⟨_, rfl⟩
        have HROW : Hid (RowB wr (w.heap.size + 1) (.slice a n c) l) := by rw [hn]; exact hrow
        have HRS : Hid (RS wr p B y 0) := hrs
        have HR : Hid (wr.heap[w.heap.size]? = some (.cells #[.int .u64 (fl : Nat), .int .u64 (a0 : Nat), .int .u64 (a1 : Nat), .int .u64 (a2 : Nat), .int .u64 (a3 : Nat), .int .u64 (a4 : Nat), .int .u64 (a5 : Nat), .int .u64 (tm : Nat), .int .u64 (sq : Nat), .int .u64 (lf : Nat), .slice a n c, .slice none 0 0] 34 (0, 0))) := by rw [hn]; exact hR
        have HOKL : Hid (∀ x ∈ l, x.ok) := hok
        have hpw : p < w.heap.size := hp
        rw [← hn] at hwl hlc hl8 c10 HLA
        have HN : Hid (n = l.length) := hn
        clear hrow hrs hR HBS hn hok h8 h80
        go_wp2_with fail
        refine (err_t wr HRS.out).mono ?_
        rintro e u ⟨rfl, hu⟩
        rw [hu]
        clear hu u
        go_wp2_with fail
        have h0n : w.heap.size < w.heap.size + 1 := Nat.lt_succ_self _
        refine wp_region_noPanic ?_
        refine wp_region_held_drew (S := (fun _ => True)) (by kernel_rfl) (by exact trivial) (fun hHeld => ?_)
        refine take_at (i := 0) 57 (v := ?_) rfl rfl (by kernel_rfl) (by kernel_rfl) (by kernel_rfl) (fun _ _ _ h => h) (by rfl) ?_ hHeld ?_
        rotate_left
        · (intro w hSw; (try dsimp only at hSw); go_simp; try with_reducible rfl)
        simp only [Act.put, List.setIfInBounds_toArray, List.set_cons_zero, List.set_cons_succ]
        refine take_at (i := 2) 59 (v := ?_) rfl rfl (by kernel_rfl) (by kernel_rfl) (by kernel_rfl) (fun _ _ _ h => h) (by rfl) ?_ hHeld ?_
        rotate_left
        · (intro w hSw; (try dsimp only at hSw); go_simp; try with_reducible rfl)
        simp only [Act.put, List.setIfInBounds_toArray, List.set_cons_zero, List.set_cons_succ]
        refine take_at (i := 3) 60 (v := ?_) rfl rfl (by kernel_rfl) (by kernel_rfl) (by kernel_rfl) (fun _ _ _ h => h) (by rfl) ?_ hHeld ?_
        rotate_left
        · (intro w hSw; (try dsimp only at hSw); go_simp; try with_reducible rfl)
        simp only [Act.put, List.setIfInBounds_toArray, List.set_cons_zero, List.set_cons_succ]
        refine wpAnyH_ready (rs := [1, 4]) (by kernel_rfl) (by simp) ?_
        refine AllReadyH.cons (o := _) rfl (fun K hK => ?_) ?_
        focus
          rw [if_pos (by rfl)]
          refine val_wp 58 (v := ?_) rfl ?_ ?_
          rotate_left
          · (go_simp; try with_reducible rfl)
          refine hK.out _ _ (by exact trivial) ?_
          clear hK K
          intro hHeld2
          clear hHeld
          have hHeld := hHeld2
          clear hHeld2
          simp only [Act.put, List.setIfInBounds_toArray, List.set_cons_zero, List.set_cons_succ]
          refine val_at (i := 4) 61 (v := ?_) rfl rfl (by kernel_rfl) (by rfl) ?_ ?_ ?_
          rotate_left
          · (go_simp; try with_reducible rfl)
          · (exact trivial)
          intro hHeld2
          clear hHeld
          have hHeld := hHeld2
          clear hHeld2
          simp only [Act.put, List.setIfInBounds_toArray, List.set_cons_zero, List.set_cons_succ]
          refine run_at (i := 5) rfl (by kernel_rfl) (by rfl) (fun K hK => ?_)
          simp only [List.getElem_toArray, List.getElem_cons_zero, List.getElem_cons_succ]
          go_simp
          first | (go_at_call 62; refine (readBlock_n HN.out a c l _ (HRS.out.below (Below.refl _ _).drew) (fun z hz => (RowB.grown (HROW.out.below (Below.refl _ _).drew) hz (by omega)).rd.1) HROW.out.rd.2.1 (by have := HN.out; omega) eB).mono ?_; rintro e w5 ⟨⟨xa, xc, rfl, hown5, hf5⟩, hrs5, hg5, hok5⟩; unfold blkV; have HOW5 : Hid (Own w5 (wr.heap.size) (.slice xa x.d.length xc) x.d) := hown5; have HF5 : Hid (∀ q, xa = some q → wr.heap.size < q.block) := hf5; have HRS5 : Hid (RS w5 p B y2 g2) := hrs5; have HG5 : Hid (wr.grownBy w5 (some p)) := (gr_drw (some p)).trans' hg5; have HOK5 : Hid x.ok := hok5; have hR5 := gr_box HG5.out (by omega) HR.out; clear c0 c1 c2 c3 c4 c5 c6 c7 c8 c9 c10 c11 z0 z1 z2 z3 z4 z5 z6 z7 z8 z9 z10 z11; obtain ⟨c0, c1, c2, c3, c4, c5, c6, c7, c8, c9, c10, c11, z0, z1, z2, z3, z4, z5, z6, z7, z8, z9, z10, z11⟩ := cells12 hR5; have hA10 := fun (ob : Obj) => cell_on (al (Below.refl w5.heap.size w5) ob) c10; have HR5 : Hid _ := hR5; clear hown5 hf5 hrs5 hg5 hok5 hR5) | (refine wpo_appN HN.out _ _ rfl (w.heap.size + 1) (.slice a n c) x xa xc w5.heap.size rfl ((HROW.out.grown HG5.out (by omega)).below (al (Below.refl _ _) _)) rfl (heap_alloc_new w5 _) (Own.below (Own.base HOW5.out (by omega)) (al (Below.refl _ _) _)) (row_far HROW.out HF5.out) (by have := HN.out; omega) (by have := HG5.out.size; simp; omega) ?_; intro g7 cap7 w7 hrow7 hg7 hwh7; obtain ⟨W6, hW6⟩ : ∃ W6 : World, W6 = w5.alloc (.cells #[.int .u64 x.t, .int .u64 x.n, .int .u64 x.f, .slice xa x.d.length xc] 37) := ⟨_, rfl⟩; rw [← hW6] at hg7; have hb56 : Below w5.heap.size w5 W6 := (by rw [hW6]; exact al (Below.refl _ _) _); have hob := HROW.out.rd.2.2.2; have HRS7 : Hid (RS w7 p B y2 g2) := (HRS5.out.below hb56).grownO hg7 (fun r hr => .inr (by have := (own_blk hob r hr).1; omega)); have hR7 := gr_boxO hg7 (fun r hr => by have := (own_blk hob r hr).1; omega) (box_on HR5.out hb56); have HGW7 : Hid (w.grownBy w7 (some p)) := grown_add (gr_below (grown_add hgw HG5.out (.inl rfl)) hb56) hg7 (.inr fun r hr => by have := (own_blk hob r hr).1; omega); clear c0 c1 c2 c3 c4 c5 c6 c7 c8 c9 c10 c11 z0 z1 z2 z3 z4 z5 z6 z7 z8 z9 z10 z11; obtain ⟨c0, c1, c2, c3, c4, c5, c6, c7, c8, c9, c10, c11, z0, z1, z2, z3, z4, z5, z6, z7, z8, z9, z10, z11⟩ := cells12 hR7; have HR7 : Hid _ := hR7; have HROW7 : Hid (RowB w7 (w.heap.size + 1) (.slice (some ⟨g7, 0, none⟩) (n + 1) cap7) (l ++ [x])) := hrow7; clear hrow7 hg7 hwh7 hW6 hb56 hob hR7)
          go_wp2_with fail
          refine hK.out _ _ (by exact trivial) ?_
          clear hK K
          intro hHeld2
          clear hHeld
          have hHeld := hHeld2
          clear hHeld2
          try simp only [Act.put, List.setIfInBounds_toArray, List.set_cons_zero, List.set_cons_succ]
          refine run_at (i := 6) rfl (by kernel_rfl) (by rfl) (fun K hK => ?_)
          simp only [List.getElem_toArray, List.getElem_cons_zero, List.getElem_cons_succ]
          go_simp
          go_wp2_with fail
          refine hK.out _ _ (by exact trivial) ?_
          clear hK K
          intro hHeld2
          clear hHeld
          have hHeld := hHeld2
          clear hHeld2
          try simp only [Act.put, List.setIfInBounds_toArray, List.set_cons_zero, List.set_cons_succ]
          refine run_at (i := 7) rfl (by kernel_rfl) (by rfl) (fun K hK => ?_)
          simp only [List.getElem_toArray, List.getElem_cons_zero, List.getElem_cons_succ]
          first | (go_at_call 62; refine (readBlock_n HN.out a c l _ (HRS.out.below (Below.refl _ _).drew) (fun z hz => (RowB.grown (HROW.out.below (Below.refl _ _).drew) hz (by omega)).rd.1) HROW.out.rd.2.1 (by have := HN.out; omega) eB).mono ?_; rintro e w5 ⟨⟨xa, xc, rfl, hown5, hf5⟩, hrs5, hg5, hok5⟩; unfold blkV; have HOW5 : Hid (Own w5 (wr.heap.size) (.slice xa x.d.length xc) x.d) := hown5; have HF5 : Hid (∀ q, xa = some q → wr.heap.size < q.block) := hf5; have HRS5 : Hid (RS w5 p B y2 g2) := hrs5; have HG5 : Hid (wr.grownBy w5 (some p)) := (gr_drw (some p)).trans' hg5; have HOK5 : Hid x.ok := hok5; have hR5 := gr_box HG5.out (by omega) HR.out; clear c0 c1 c2 c3 c4 c5 c6 c7 c8 c9 c10 c11 z0 z1 z2 z3 z4 z5 z6 z7 z8 z9 z10 z11; obtain ⟨c0, c1, c2, c3, c4, c5, c6, c7, c8, c9, c10, c11, z0, z1, z2, z3, z4, z5, z6, z7, z8, z9, z10, z11⟩ := cells12 hR5; have hA10 := fun (ob : Obj) => cell_on (al (Below.refl w5.heap.size w5) ob) c10; have HR5 : Hid _ := hR5; clear hown5 hf5 hrs5 hg5 hok5 hR5) | (refine wpo_appN HN.out _ _ rfl (w.heap.size + 1) (.slice a n c) x xa xc w5.heap.size rfl ((HROW.out.grown HG5.out (by omega)).below (al (Below.refl _ _) _)) rfl (heap_alloc_new w5 _) (Own.below (Own.base HOW5.out (by omega)) (al (Below.refl _ _) _)) (row_far HROW.out HF5.out) (by have := HN.out; omega) (by have := HG5.out.size; simp; omega) ?_; intro g7 cap7 w7 hrow7 hg7 hwh7; obtain ⟨W6, hW6⟩ : ∃ W6 : World, W6 = w5.alloc (.cells #[.int .u64 x.t, .int .u64 x.n, .int .u64 x.f, .slice xa x.d.length xc] 37) := ⟨_, rfl⟩; rw [← hW6] at hg7; have hb56 : Below w5.heap.size w5 W6 := (by rw [hW6]; exact al (Below.refl _ _) _); have hob := HROW.out.rd.2.2.2; have HRS7 : Hid (RS w7 p B y2 g2) := (HRS5.out.below hb56).grownO hg7 (fun r hr => .inr (by have := (own_blk hob r hr).1; omega)); have hR7 := gr_boxO hg7 (fun r hr => by have := (own_blk hob r hr).1; omega) (box_on HR5.out hb56); have HGW7 : Hid (w.grownBy w7 (some p)) := grown_add (gr_below (grown_add hgw HG5.out (.inl rfl)) hb56) hg7 (.inr fun r hr => by have := (own_blk hob r hr).1; omega); clear c0 c1 c2 c3 c4 c5 c6 c7 c8 c9 c10 c11 z0 z1 z2 z3 z4 z5 z6 z7 z8 z9 z10 z11; obtain ⟨c0, c1, c2, c3, c4, c5, c6, c7, c8, c9, c10, c11, z0, z1, z2, z3, z4, z5, z6, z7, z8, z9, z10, z11⟩ := cells12 hR7; have HR7 : Hid _ := hR7; have HROW7 : Hid (RowB w7 (w.heap.size + 1) (.slice (some ⟨g7, 0, none⟩) (n + 1) cap7) (l ++ [x])) := hrow7; clear hrow7 hg7 hwh7 hW6 hb56 hob hR7)
          refine hK.out _ _ (by exact trivial) ?_
          clear hK K
          intro hHeld2
          clear hHeld
          have hHeld := hHeld2
          clear hHeld2
          try simp only [Act.put, List.setIfInBounds_toArray, List.set_cons_zero, List.set_cons_succ]
          refine take_at (i := 8) 65 (v := ?_) rfl rfl (by kernel_rfl) (by kernel_rfl) (by kernel_rfl) (fun _ _ _ h => h) (by rfl) ?_ hHeld ?_
          rotate_left
          · (intro w hSw; (try dsimp only at hSw); go_simp; try with_reducible rfl)
          simp only [Act.put, List.setIfInBounds_toArray, List.set_cons_zero, List.set_cons_succ]
          refine run_at (i := 9) rfl (by kernel_rfl) (by rfl) (fun K hK => ?_)
          simp only [List.getElem_toArray, List.getElem_cons_zero, List.getElem_cons_succ]
          go_simp
          go_wp2_with fail
          refine hK.out _ _ (by exact trivial) ?_
          clear hK K
          intro hHeld2
          clear hHeld
          have hHeld := hHeld2
          clear hHeld2
          try simp only [Act.put, List.setIfInBounds_toArray, List.set_cons_zero, List.set_cons_succ]
          refine wpAnyH_done (by kernel_rfl) ?_ _
          refine NoPanic.normal ?_
        rotate_left 1
        refine AllReadyH.cons (o := _) rfl (fun K hK => ?_) AllReadyH.nil
        focus
          rw [if_pos (by rfl)]
          refine val_wp 61 (v := ?_) rfl ?_ ?_
          rotate_left
          · (go_simp; try with_reducible rfl)
          refine hK.out _ _ (by exact trivial) ?_
          clear hK K
          intro hHeld2
          clear hHeld
          have hHeld := hHeld2
          clear hHeld2
          simp only [Act.put, List.setIfInBounds_toArray, List.set_cons_zero, List.set_cons_succ]
          refine wpAnyH_ready (rs := [1, 5]) (by kernel_rfl) (by simp) ?_
          refine AllReadyH.cons (o := _) rfl (fun K hK => ?_) ?_
          focus
            rw [if_pos (by rfl)]
            refine val_wp 58 (v := ?_) rfl ?_ ?_
            rotate_left
            · (go_simp; try with_reducible rfl)
            refine hK.out _ _ (by exact trivial) ?_
            clear hK K
            intro hHeld2
            clear hHeld
            have hHeld := hHeld2
            clear hHeld2
            simp only [Act.put, List.setIfInBounds_toArray, List.set_cons_zero, List.set_cons_succ]
            refine run_at (i := 5) rfl (by kernel_rfl) (by rfl) (fun K hK => ?_)
            simp only [List.getElem_toArray, List.getElem_cons_zero, List.getElem_cons_succ]
            go_simp
            first | (go_at_call 62; refine (readBlock_n HN.out a c l _ (HRS.out.below (Below.refl _ _).drew) (fun z hz => (RowB.grown (HROW.out.below (Below.refl _ _).drew) hz (by omega)).rd.1) HROW.out.rd.2.1 (by have := HN.out; omega) eB).mono ?_; rintro e w5 ⟨⟨xa, xc, rfl, hown5, hf5⟩, hrs5, hg5, hok5⟩; unfold blkV; have HOW5 : Hid (Own w5 (wr.heap.size) (.slice xa x.d.length xc) x.d) := hown5; have HF5 : Hid (∀ q, xa = some q → wr.heap.size < q.block) := hf5; have HRS5 : Hid (RS w5 p B y2 g2) := hrs5; have HG5 : Hid (wr.grownBy w5 (some p)) := (gr_drw (some p)).trans' hg5; have HOK5 : Hid x.ok := hok5; have hR5 := gr_box HG5.out (by omega) HR.out; clear c0 c1 c2 c3 c4 c5 c6 c7 c8 c9 c10 c11 z0 z1 z2 z3 z4 z5 z6 z7 z8 z9 z10 z11; obtain ⟨c0, c1, c2, c3, c4, c5, c6, c7, c8, c9, c10, c11, z0, z1, z2, z3, z4, z5, z6, z7, z8, z9, z10, z11⟩ := cells12 hR5; have hA10 := fun (ob : Obj) => cell_on (al (Below.refl w5.heap.size w5) ob) c10; have HR5 : Hid _ := hR5; clear hown5 hf5 hrs5 hg5 hok5 hR5) | (refine wpo_appN HN.out _ _ rfl (w.heap.size + 1) (.slice a n c) x xa xc w5.heap.size rfl ((HROW.out.grown HG5.out (by omega)).below (al (Below.refl _ _) _)) rfl (heap_alloc_new w5 _) (Own.below (Own.base HOW5.out (by omega)) (al (Below.refl _ _) _)) (row_far HROW.out HF5.out) (by have := HN.out; omega) (by have := HG5.out.size; simp; omega) ?_; intro g7 cap7 w7 hrow7 hg7 hwh7; obtain ⟨W6, hW6⟩ : ∃ W6 : World, W6 = w5.alloc (.cells #[.int .u64 x.t, .int .u64 x.n, .int .u64 x.f, .slice xa x.d.length xc] 37) := ⟨_, rfl⟩; rw [← hW6] at hg7; have hb56 : Below w5.heap.size w5 W6 := (by rw [hW6]; exact al (Below.refl _ _) _); have hob := HROW.out.rd.2.2.2; have HRS7 : Hid (RS w7 p B y2 g2) := (HRS5.out.below hb56).grownO hg7 (fun r hr => .inr (by have := (own_blk hob r hr).1; omega)); have hR7 := gr_boxO hg7 (fun r hr => by have := (own_blk hob r hr).1; omega) (box_on HR5.out hb56); have HGW7 : Hid (w.grownBy w7 (some p)) := grown_add (gr_below (grown_add hgw HG5.out (.inl rfl)) hb56) hg7 (.inr fun r hr => by have := (own_blk hob r hr).1; omega); clear c0 c1 c2 c3 c4 c5 c6 c7 c8 c9 c10 c11 z0 z1 z2 z3 z4 z5 z6 z7 z8 z9 z10 z11; obtain ⟨c0, c1, c2, c3, c4, c5, c6, c7, c8, c9, c10, c11, z0, z1, z2, z3, z4, z5, z6, z7, z8, z9, z10, z11⟩ := cells12 hR7; have HR7 : Hid _ := hR7; have HROW7 : Hid (RowB w7 (w.heap.size + 1) (.slice (some ⟨g7, 0, none⟩) (n + 1) cap7) (l ++ [x])) := hrow7; clear hrow7 hg7 hwh7 hW6 hb56 hob hR7)
            go_wp2_with fail
            refine hK.out _ _ (by exact trivial) ?_
            clear hK K
            intro hHeld2
            clear hHeld
            have hHeld := hHeld2
            clear hHeld2
            try simp only [Act.put, List.setIfInBounds_toArray, List.set_cons_zero, List.set_cons_succ]
            refine run_at (i := 6) rfl (by kernel_rfl) (by rfl) (fun K hK => ?_)
            simp only [List.getElem_toArray, List.getElem_cons_zero, List.getElem_cons_succ]
            go_simp
            go_wp2_with fail
            refine hK.out _ _ (by exact trivial) ?_
            clear hK K
            intro hHeld2
            clear hHeld
            have hHeld := hHeld2
            clear hHeld2
            try simp only [Act.put, List.setIfInBounds_toArray, List.set_cons_zero, List.set_cons_succ]
            refine run_at (i := 7) rfl (by kernel_rfl) (by rfl) (fun K hK => ?_)
            simp only [List.getElem_toArray, List.getElem_cons_zero, List.getElem_cons_succ]
            first | (go_at_call 62; refine (readBlock_n HN.out a c l _ (HRS.out.below (Below.refl _ _).drew) (fun z hz => (RowB.grown (HROW.out.below (Below.refl _ _).drew) hz (by omega)).rd.1) HROW.out.rd.2.1 (by have := HN.out; omega) eB).mono ?_; rintro e w5 ⟨⟨xa, xc, rfl, hown5, hf5⟩, hrs5, hg5, hok5⟩; unfold blkV; have HOW5 : Hid (Own w5 (wr.heap.size) (.slice xa x.d.length xc) x.d) := hown5; have HF5 : Hid (∀ q, xa = some q → wr.heap.size < q.block) := hf5; have HRS5 : Hid (RS w5 p B y2 g2) := hrs5; have HG5 : Hid (wr.grownBy w5 (some p)) := (gr_drw (some p)).trans' hg5; have HOK5 : Hid x.ok := hok5; have hR5 := gr_box HG5.out (by omega) HR.out; clear c0 c1 c2 c3 c4 c5 c6 c7 c8 c9 c10 c11 z0 z1 z2 z3 z4 z5 z6 z7 z8 z9 z10 z11; obtain ⟨c0, c1, c2, c3, c4, c5, c6, c7, c8, c9, c10, c11, z0, z1, z2, z3, z4, z5, z6, z7, z8, z9, z10, z11⟩ := cells12 hR5; have hA10 := fun (ob : Obj) => cell_on (al (Below.refl w5.heap.size w5) ob) c10; have HR5 : Hid _ := hR5; clear hown5 hf5 hrs5 hg5 hok5 hR5) | (refine wpo_appN HN.out _ _ rfl (w.heap.size + 1) (.slice a n c) x xa xc w5.heap.size rfl ((HROW.out.grown HG5.out (by omega)).below (al (Below.refl _ _) _)) rfl (heap_alloc_new w5 _) (Own.below (Own.base HOW5.out (by omega)) (al (Below.refl _ _) _)) (row_far HROW.out HF5.out) (by have := HN.out; omega) (by have := HG5.out.size; simp; omega) ?_; intro g7 cap7 w7 hrow7 hg7 hwh7; obtain ⟨W6, hW6⟩ : ∃ W6 : World, W6 = w5.alloc (.cells #[.int .u64 x.t, .int .u64 x.n, .int .u64 x.f, .slice xa x.d.length xc] 37) := ⟨_, rfl⟩; rw [← hW6] at hg7; have hb56 : Below w5.heap.size w5 W6 := (by rw [hW6]; exact al (Below.refl _ _) _); have hob := HROW.out.rd.2.2.2; have HRS7 : Hid (RS w7 p B y2 g2) := (HRS5.out.below hb56).grownO hg7 (fun r hr => .inr (by have := (own_blk hob r hr).1; omega)); have hR7 := gr_boxO hg7 (fun r hr => by have := (own_blk hob r hr).1; omega) (box_on HR5.out hb56); have HGW7 : Hid (w.grownBy w7 (some p)) := grown_add (gr_below (grown_add hgw HG5.out (.inl rfl)) hb56) hg7 (.inr fun r hr => by have := (own_blk hob r hr).1; omega); clear c0 c1 c2 c3 c4 c5 c6 c7 c8 c9 c10 c11 z0 z1 z2 z3 z4 z5 z6 z7 z8 z9 z10 z11; obtain ⟨c0, c1, c2, c3, c4, c5, c6, c7, c8, c9, c10, c11, z0, z1, z2, z3, z4, z5, z6, z7, z8, z9, z10, z11⟩ := cells12 hR7; have HR7 : Hid _ := hR7; have HROW7 : Hid (RowB w7 (w.heap.size + 1) (.slice (some ⟨g7, 0, none⟩) (n + 1) cap7) (l ++ [x])) := hrow7; clear hrow7 hg7 hwh7 hW6 hb56 hob hR7)
            refine hK.out _ _ (by exact trivial) ?_
            clear hK K
            intro hHeld2
            clear hHeld
            have hHeld := hHeld2
            clear hHeld2
            try simp only [Act.put, List.setIfInBounds_toArray, List.set_cons_zero, List.set_cons_succ]
            refine take_at (i := 8) 65 (v := ?_) rfl rfl (by kernel_rfl) (by kernel_rfl) (by kernel_rfl) (fun _ _ _ h => h) (by rfl) ?_ hHeld ?_
            rotate_left
            · (intro w hSw; (try dsimp only at hSw); go_simp; try with_reducible rfl)
            simp only [Act.put, List.setIfInBounds_toArray, List.set_cons_zero, List.set_cons_succ]
            refine run_at (i := 9) rfl (by kernel_rfl) (by rfl) (fun K hK => ?_)
            simp only [List.getElem_toArray, List.getElem_cons_zero, List.getElem_cons_succ]
            go_simp
            go_wp2_with fail
            refine hK.out _ _ (by exact trivial) ?_
            clear hK K
            intro hHeld2
            clear hHeld
            have hHeld := hHeld2
            clear hHeld2
            try simp only [Act.put, List.setIfInBounds_toArray, List.set_cons_zero, List.set_cons_succ]
            refine wpAnyH_done (by kernel_rfl) ?_ _
            refine NoPanic.normal ?_
          rotate_left 1
          refine AllReadyH.cons (o := _) rfl (fun K hK => ?_) AllReadyH.nil
          focus
            rw [if_pos (by rfl)]
            simp only [List.getElem_toArray, List.getElem_cons_zero, List.getElem_cons_succ]
            go_simp
            first | (go_at_call 62; refine (readBlock_n HN.out a c l _ (HRS.out.below (Below.refl _ _).drew) (fun z hz => (RowB.grown (HROW.out.below (Below.refl _ _).drew) hz (by omega)).rd.1) HROW.out.rd.2.1 (by have := HN.out; omega) eB).mono ?_; rintro e w5 ⟨⟨xa, xc, rfl, hown5, hf5⟩, hrs5, hg5, hok5⟩; unfold blkV; have HOW5 : Hid (Own w5 (wr.heap.size) (.slice xa x.d.length xc) x.d) := hown5; have HF5 : Hid (∀ q, xa = some q → wr.heap.size < q.block) := hf5; have HRS5 : Hid (RS w5 p B y2 g2) := hrs5; have HG5 : Hid (wr.grownBy w5 (some p)) := (gr_drw (some p)).trans' hg5; have HOK5 : Hid x.ok := hok5; have hR5 := gr_box HG5.out (by omega) HR.out; clear c0 c1 c2 c3 c4 c5 c6 c7 c8 c9 c10 c11 z0 z1 z2 z3 z4 z5 z6 z7 z8 z9 z10 z11; obtain ⟨c0, c1, c2, c3, c4, c5, c6, c7, c8, c9, c10, c11, z0, z1, z2, z3, z4, z5, z6, z7, z8, z9, z10, z11⟩ := cells12 hR5; have hA10 := fun (ob : Obj) => cell_on (al (Below.refl w5.heap.size w5) ob) c10; have HR5 : Hid _ := hR5; clear hown5 hf5 hrs5 hg5 hok5 hR5) | (refine wpo_appN HN.out _ _ rfl (w.heap.size + 1) (.slice a n c) x xa xc w5.heap.size rfl ((HROW.out.grown HG5.out (by omega)).below (al (Below.refl _ _) _)) rfl (heap_alloc_new w5 _) (Own.below (Own.base HOW5.out (by omega)) (al (Below.refl _ _) _)) (row_far HROW.out HF5.out) (by have := HN.out; omega) (by have := HG5.out.size; simp; omega) ?_; intro g7 cap7 w7 hrow7 hg7 hwh7; obtain ⟨W6, hW6⟩ : ∃ W6 : World, W6 = w5.alloc (.cells #[.int .u64 x.t, .int .u64 x.n, .int .u64 x.f, .slice xa x.d.length xc] 37) := ⟨_, rfl⟩; rw [← hW6] at hg7; have hb56 : Below w5.heap.size w5 W6 := (by rw [hW6]; exact al (Below.refl _ _) _); have hob := HROW.out.rd.2.2.2; have HRS7 : Hid (RS w7 p B y2 g2) := (HRS5.out.below hb56).grownO hg7 (fun r hr => .inr (by have := (own_blk hob r hr).1; omega)); have hR7 := gr_boxO hg7 (fun r hr => by have := (own_blk hob r hr).1; omega) (box_on HR5.out hb56); have HGW7 : Hid (w.grownBy w7 (some p)) := grown_add (gr_below (grown_add hgw HG5.out (.inl rfl)) hb56) hg7 (.inr fun r hr => by have := (own_blk hob r hr).1; omega); clear c0 c1 c2 c3 c4 c5 c6 c7 c8 c9 c10 c11 z0 z1 z2 z3 z4 z5 z6 z7 z8 z9 z10 z11; obtain ⟨c0, c1, c2, c3, c4, c5, c6, c7, c8, c9, c10, c11, z0, z1, z2, z3, z4, z5, z6, z7, z8, z9, z10, z11⟩ := cells12 hR7; have HR7 : Hid _ := hR7; have HROW7 : Hid (RowB w7 (w.heap.size + 1) (.slice (some ⟨g7, 0, none⟩) (n + 1) cap7) (l ++ [x])) := hrow7; clear hrow7 hg7 hwh7 hW6 hb56 hob hR7)
            go_wp2_with fail
            refine hK.out _ _ (by exact trivial) ?_
            clear hK K
            intro hHeld2
            clear hHeld
            have hHeld := hHeld2
            clear hHeld2
            try simp only [Act.put, List.setIfInBounds_toArray, List.set_cons_zero, List.set_cons_succ]
            refine wpAnyH_ready (rs := [1, 6]) (by kernel_rfl) (by simp) ?_
            refine AllReadyH.cons (o := _) rfl (fun K hK => ?_) ?_
            focus
              rw [if_pos (by rfl)]
              refine val_wp 58 (v := ?_) rfl ?_ ?_
              rotate_left
              · (go_simp; try with_reducible rfl)
              refine hK.out _ _ (by exact trivial) ?_
              clear hK K
              intro hHeld2
              clear hHeld
              have hHeld := hHeld2
              clear hHeld2
              simp only [Act.put, List.setIfInBounds_toArray, List.set_cons_zero, List.set_cons_succ]
              refine run_at (i := 6) rfl (by kernel_rfl) (by rfl) (fun K hK => ?_)
              simp only [List.getElem_toArray, List.getElem_cons_zero, List.getElem_cons_succ]
              go_simp
              go_wp2_with fail
              refine hK.out _ _ (by exact trivial) ?_
              clear hK K
              intro hHeld2
              clear hHeld
              have hHeld := hHeld2
              clear hHeld2
              try simp only [Act.put, List.setIfInBounds_toArray, List.set_cons_zero, List.set_cons_succ]
              refine run_at (i := 7) rfl (by kernel_rfl) (by rfl) (fun K hK => ?_)
              simp only [List.getElem_toArray, List.getElem_cons_zero, List.getElem_cons_succ]
              first | (go_at_call 62; refine (readBlock_n HN.out a c l _ (HRS.out.below (Below.refl _ _).drew) (fun z hz => (RowB.grown (HROW.out.below (Below.refl _ _).drew) hz (by omega)).rd.1) HROW.out.rd.2.1 (by have := HN.out; omega) eB).mono ?_; rintro e w5 ⟨⟨xa, xc, rfl, hown5, hf5⟩, hrs5, hg5, hok5⟩; unfold blkV; have HOW5 : Hid (Own w5 (wr.heap.size) (.slice xa x.d.length xc) x.d) := hown5; have HF5 : Hid (∀ q, xa = some q → wr.heap.size < q.block) := hf5; have HRS5 : Hid (RS w5 p B y2 g2) := hrs5; have HG5 : Hid (wr.grownBy w5 (some p)) := (gr_drw (some p)).trans' hg5; have HOK5 : Hid x.ok := hok5; have hR5 := gr_box HG5.out (by omega) HR.out; clear c0 c1 c2 c3 c4 c5 c6 c7 c8 c9 c10 c11 z0 z1 z2 z3 z4 z5 z6 z7 z8 z9 z10 z11; obtain ⟨c0, c1, c2, c3, c4, c5, c6, c7, c8, c9, c10, c11, z0, z1, z2, z3, z4, z5, z6, z7, z8, z9, z10, z11⟩ := cells12 hR5; have hA10 := fun (ob : Obj) => cell_on (al (Below.refl w5.heap.size w5) ob) c10; have HR5 : Hid _ := hR5; clear hown5 hf5 hrs5 hg5 hok5 hR5) | (refine wpo_appN HN.out _ _ rfl (w.heap.size + 1) (.slice a n c) x xa xc w5.heap.size rfl ((HROW.out.grown HG5.out (by omega)).below (al (Below.refl _ _) _)) rfl (heap_alloc_new w5 _) (Own.below (Own.base HOW5.out (by omega)) (al (Below.refl _ _) _)) (row_far HROW.out HF5.out) (by have := HN.out; omega) (by have := HG5.out.size; simp; omega) ?_; intro g7 cap7 w7 hrow7 hg7 hwh7; obtain ⟨W6, hW6⟩ : ∃ W6 : World, W6 = w5.alloc (.cells #[.int .u64 x.t, .int .u64 x.n, .int .u64 x.f, .slice xa x.d.length xc] 37) := ⟨_, rfl⟩; rw [← hW6] at hg7; have hb56 : Below w5.heap.size w5 W6 := (by rw [hW6]; exact al (Below.refl _ _) _); have hob := HROW.out.rd.2.2.2; have HRS7 : Hid (RS w7 p B y2 g2) := (HRS5.out.below hb56).grownO hg7 (fun r hr => .inr (by have := (own_blk hob r hr).1; omega)); have hR7 := gr_boxO hg7 (fun r hr => by have := (own_blk hob r hr).1; omega) (box_on HR5.out hb56); have HGW7 : Hid (w.grownBy w7 (some p)) := grown_add (gr_below (grown_add hgw HG5.out (.inl rfl)) hb56) hg7 (.inr fun r hr => by have := (own_blk hob r hr).1; omega); clear c0 c1 c2 c3 c4 c5 c6 c7 c8 c9 c10 c11 z0 z1 z2 z3 z4 z5 z6 z7 z8 z9 z10 z11; obtain ⟨c0, c1, c2, c3, c4, c5, c6, c7, c8, c9, c10, c11, z0, z1, z2, z3, z4, z5, z6, z7, z8, z9, z10, z11⟩ := cells12 hR7; have HR7 : Hid _ := hR7; have HROW7 : Hid (RowB w7 (w.heap.size + 1) (.slice (some ⟨g7, 0, none⟩) (n + 1) cap7) (l ++ [x])) := hrow7; clear hrow7 hg7 hwh7 hW6 hb56 hob hR7)
              refine hK.out _ _ (by exact trivial) ?_
              clear hK K
              intro hHeld2
              clear hHeld
              have hHeld := hHeld2
              clear hHeld2
              try simp only [Act.put, List.setIfInBounds_toArray, List.set_cons_zero, List.set_cons_succ]
              refine take_at (i := 8) 65 (v := ?_) rfl rfl (by kernel_rfl) (by kernel_rfl) (by kernel_rfl) (fun _ _ _ h => h) (by rfl) ?_ hHeld ?_
              rotate_left
              · (intro w hSw; (try dsimp only at hSw); go_simp; try with_reducible rfl)
              simp only [Act.put, List.setIfInBounds_toArray, List.set_cons_zero, List.set_cons_succ]
              refine run_at (i := 9) rfl (by kernel_rfl) (by rfl) (fun K hK => ?_)
              simp only [List.getElem_toArray, List.getElem_cons_zero, List.getElem_cons_succ]
              go_simp
              go_wp2_with fail
              refine hK.out _ _ (by exact trivial) ?_
              clear hK K
              intro hHeld2
              clear hHeld
              have hHeld := hHeld2
              clear hHeld2
              try simp only [Act.put, List.setIfInBounds_toArray, List.set_cons_zero, List.set_cons_succ]
              refine wpAnyH_done (by kernel_rfl) ?_ _
              refine NoPanic.normal ?_
            rotate_left 1
            refine AllReadyH.cons (o := _) rfl (fun K hK => ?_) AllReadyH.nil
            focus
              rw [if_pos (by rfl)]
              simp only [List.getElem_toArray, List.getElem_cons_zero, List.getElem_cons_succ]
              go_simp
              go_wp2_with fail
              refine hK.out _ _ (by exact trivial) ?_
              clear hK K
              intro hHeld2
              clear hHeld
              have hHeld := hHeld2
              clear hHeld2
              try simp only [Act.put, List.setIfInBounds_toArray, List.set_cons_zero, List.set_cons_succ]
              refine val_at (i := 1) 58 (v := ?_) rfl rfl (by kernel_rfl) (by rfl) ?_ ?_ ?_
              rotate_left
              · (go_simp; try with_reducible rfl)
              · (exact trivial)
              intro hHeld2
              clear hHeld
              have hHeld := hHeld2
              clear hHeld2
              simp only [Act.put, List.setIfInBounds_toArray, List.set_cons_zero, List.set_cons_succ]
              refine run_at (i := 7) rfl (by kernel_rfl) (by rfl) (fun K hK => ?_)
              simp only [List.getElem_toArray, List.getElem_cons_zero, List.getElem_cons_succ]
              first | (go_at_call 62; refine (readBlock_n HN.out a c l _ (HRS.out.below (Below.refl _ _).drew) (fun z hz => (RowB.grown (HROW.out.below (Below.refl _ _).drew) hz (by omega)).rd.1) HROW.out.rd.2.1 (by have := HN.out; omega) eB).mono ?_; rintro e w5 ⟨⟨xa, xc, rfl, hown5, hf5⟩, hrs5, hg5, hok5⟩; unfold blkV; have HOW5 : Hid (Own w5 (wr.heap.size) (.slice xa x.d.length xc) x.d) := hown5; have HF5 : Hid (∀ q, xa = some q → wr.heap.size < q.block) := hf5; have HRS5 : Hid (RS w5 p B y2 g2) := hrs5; have HG5 : Hid (wr.grownBy w5 (some p)) := (gr_drw (some p)).trans' hg5; have HOK5 : Hid x.ok := hok5; have hR5 := gr_box HG5.out (by omega) HR.out; clear c0 c1 c2 c3 c4 c5 c6 c7 c8 c9 c10 c11 z0 z1 z2 z3 z4 z5 z6 z7 z8 z9 z10 z11; obtain ⟨c0, c1, c2, c3, c4, c5, c6, c7, c8, c9, c10, c11, z0, z1, z2, z3, z4, z5, z6, z7, z8, z9, z10, z11⟩ := cells12 hR5; have hA10 := fun (ob : Obj) => cell_on (al (Below.refl w5.heap.size w5) ob) c10; have HR5 : Hid _ := hR5; clear hown5 hf5 hrs5 hg5 hok5 hR5) | (refine wpo_appN HN.out _ _ rfl (w.heap.size + 1) (.slice a n c) x xa xc w5.heap.size rfl ((HROW.out.grown HG5.out (by omega)).below (al (Below.refl _ _) _)) rfl (heap_alloc_new w5 _) (Own.below (Own.base HOW5.out (by omega)) (al (Below.refl _ _) _)) (row_far HROW.out HF5.out) (by have := HN.out; omega) (by have := HG5.out.size; simp; omega) ?_; intro g7 cap7 w7 hrow7 hg7 hwh7; obtain ⟨W6, hW6⟩ : ∃ W6 : World, W6 = w5.alloc (.cells #[.int .u64 x.t, .int .u64 x.n, .int .u64 x.f, .slice xa x.d.length xc] 37) := ⟨_, rfl⟩; rw [← hW6] at hg7; have hb56 : Below w5.heap.size w5 W6 := (by rw [hW6]; exact al (Below.refl _ _) _); have hob := HROW.out.rd.2.2.2; have HRS7 : Hid (RS w7 p B y2 g2) := (HRS5.out.below hb56).grownO hg7 (fun r hr => .inr (by have := (own_blk hob r hr).1; omega)); have hR7 := gr_boxO hg7 (fun r hr => by have := (own_blk hob r hr).1; omega) (box_on HR5.out hb56); have HGW7 : Hid (w.grownBy w7 (some p)) := grown_add (gr_below (grown_add hgw HG5.out (.inl rfl)) hb56) hg7 (.inr fun r hr => by have := (own_blk hob r hr).1; omega); clear c0 c1 c2 c3 c4 c5 c6 c7 c8 c9 c10 c11 z0 z1 z2 z3 z4 z5 z6 z7 z8 z9 z10 z11; obtain ⟨c0, c1, c2, c3, c4, c5, c6, c7, c8, c9, c10, c11, z0, z1, z2, z3, z4, z5, z6, z7, z8, z9, z10, z11⟩ := cells12 hR7; have HR7 : Hid _ := hR7; have HROW7 : Hid (RowB w7 (w.heap.size + 1) (.slice (some ⟨g7, 0, none⟩) (n + 1) cap7) (l ++ [x])) := hrow7; clear hrow7 hg7 hwh7 hW6 hb56 hob hR7)
              refine hK.out _ _ (by exact trivial) ?_
              clear hK K
              intro hHeld2
              clear hHeld
              have hHeld := hHeld2
              clear hHeld2
              try simp only [Act.put, List.setIfInBounds_toArray, List.set_cons_zero, List.set_cons_succ]
              refine take_at (i := 8) 65 (v := ?_) rfl rfl (by kernel_rfl) (by kernel_rfl) (by kernel_rfl) (fun _ _ _ h => h) (by rfl) ?_ hHeld ?_
              rotate_left
              · (intro w hSw; (try dsimp only at hSw); go_simp; try with_reducible rfl)
              simp only [Act.put, List.setIfInBounds_toArray, List.set_cons_zero, List.set_cons_succ]
              refine run_at (i := 9) rfl (by kernel_rfl) (by rfl) (fun K hK => ?_)
              simp only [List.getElem_toArray, List.getElem_cons_zero, List.getElem_cons_succ]
              go_simp
              go_wp2_with fail
              refine hK.out _ _ (by exact trivial) ?_
              clear hK K
              intro hHeld2
              clear hHeld
              have hHeld := hHeld2
              clear hHeld2
              try simp only [Act.put, List.setIfInBounds_toArray, List.set_cons_zero, List.set_cons_succ]
              refine wpAnyH_done (by kernel_rfl) ?_ _
              refine NoPanic.normal ?_
        all_goals
          have hlen : (l ++ [x]).length = n + 1 := by rw [List.length_append, ← HN.out]; rfl
          have HR8 : Hid (_ = _) := heap_set1 (i := 10) (v := .slice (some ⟨g7, 0, none⟩) (n + 1) cap7) HR7.out
          go_wp2
          go_roundw
          case rel =>
            refine ⟨l ++ [x], some ⟨g7, 0, none⟩, cap7, y2, g2, ?_, ?_, HRS7.out.set _ _ _ (.inr hp), grown_add HGW7.out (gr_set (World.grownBy.refl _ _) _ _) (.inr fun j hj => by cases hj; exact Nat.le_refl _), ?_, by rw [hlen]; omega, .inl h8', ?_, ?_⟩
            · rw [hlen]; exact HR8.out
            · rw [hlen]; exact HROW7.out.grown (gr_set (World.grownBy.refl _ _) _ _) h0n
            · rw [hlen]; rw [HN.out]; exact HBS2
            · intro z hz
              rcases List.mem_append.1 hz with hz | hz
              · exact HOKL.out z hz
              · simp at hz; subst hz; exact HOK5.out
            · have h1 := HGW7.out.size
              have h2 := (Array.getElem?_eq_some_iff.1 HR8.out).1
              exact h2
          case measure =>
            have h1 : lenAt (w7.setCell ⟨w.heap.size, 10, none⟩ (.slice (some ⟨g7, 0, none⟩) (n + 1) cap7)) w.heap.size = n + 1 := by
              unfold lenAt
              rw [World.cell?_setCell_same _ _ _ c10]
            rw [h1, HLA.out]
            omega
      · have hT : T = l ∧ yT = y ∧ fT = g := by
          have h1 := HBS.out
          rw [blocksS_bad _ _ _ hg0] at h1
          simp only [Prod.mk.injEq] at h1
          exact ⟨h1.1.symm, h1.2.1.symm, h1.2.2.symm⟩
        obtain ⟨rfl, rfl, rfl⟩ := hT
        have HRS : Hid (RS wr p B yT fT) := hrs
        clear HBS hrs
        go_wp2_with fail
        refine (err_t wr HRS.out).mono ?_
        rintro e u ⟨rfl, hu⟩
        rw [hu]
        clear hu u
        have hrs := HRS.out
        clear HRS
        obtain ⟨py, yP, fP, eP⟩ : ∃ py yP fP, byS 512 (yT, fT) = (py, yP, fP) := ⟨_, _, _, rfl⟩
        obtain ⟨n, hn⟩ : ∃ n, n = T.length := ⟨_, rfl⟩
        have HN : Hid (n = T.length) := hn
        have HR : Hid (wr.heap[w.heap.size]? = some (.cells #[.int .u64 (fl : Nat), .int .u64 (a0 : Nat), .int .u64 (a1 : Nat), .int .u64 (a2 : Nat), .int .u64 (a3 : Nat), .int .u64 (a4 : Nat), .int .u64 (a5 : Nat), .int .u64 (tm : Nat), .int .u64 (sq : Nat), .int .u64 (lf : Nat), .slice a n c, .slice none 0 0] 34 (0, 0))) := by rw [hn]; exact hR
        have HROW : Hid (RowB wr (w.heap.size + 1) (.slice a n c) T) := by rw [hn]; exact hrow
        have HOKL : Hid (∀ x ∈ T, x.ok) := hok
        rw [← hn] at hwl hlc hl8 c10
        clear hn hR hrow hok h8 h80 HLA
        go_wp2_with fail
        refine (bytes_t 512 (by decide) _ hrs eP).mono ?_
        rintro e u9 ⟨pa, pc, rfl, hownP, hrs9, hg9⟩
        have HEP : Hid (byS 512 (yT, fT) = (py, yP, fP)) := eP
        have HP5 : Hid (py.length ≤ 512) := byS_le eP
        obtain ⟨m, hm⟩ : ∃ m, m = py.length := ⟨_, rfl⟩
        rw [← hm] at hownP
        rw [← hm]
        have HM : Hid (m = py.length) := hm
        have HRS9 : Hid (RS u9 p B yP fP) := hrs9
        have HGW9 : Hid (w.grownBy u9 (some p)) := grown_add hgw hg9 (.inl rfl)
        have hR9 := gr_box hg9 (by omega) HR.out
        have HROW9 : Hid (RowB u9 (w.heap.size + 1) (.slice a n c) T) := HROW.out.grown hg9 (by omega)
        have HOWP : Hid (Own u9 (w.heap.size + 1) (.slice pa m pc) py) := Own.base hownP hsz
        clear eP hm hrs9 hg9 hownP c0 c1 c2 c3 c4 c5 c6 c7 c8 c9 c10 c11 z0 z1 z2 z3 z4 z5 z6 z7 z8 z9 z10 z11
        obtain ⟨c0, c1, c2, c3, c4, c5, c6, c7, c8, c9, c10, c11, z0, z1, z2, z3, z4, z5, z6, z7, z8, z9, z10, z11⟩ := cells12 hR9
        have HR9 : Hid _ := heap_set1 (i := 11) (v := .slice pa m pc) hR9
        clear hR9
        go_wp2
        have hfin := heap_set12 (v0 := .int .u64 (fl : Nat)) (v1 := .int .u64 (a0 : Nat)) (v2 := .int .u64 (a1 : Nat)) (v3 := .int .u64 (a2 : Nat)) (v4 := .int .u64 (a3 : Nat)) (v5 := .int .u64 (a4 : Nat)) (v6 := .int .u64 (a5 : Nat)) (v7 := .int .u64 (tm : Nat)) (v8 := .int .u64 (sq : Nat)) (v9 := .int .u64 (lf : Nat)) (v10 := .slice a n c) (v11 := .slice pa m pc) HR9.out
        refine bodyPost_ret (results_cell_row rfl _ _ w.heap.size 34 _ (0, 0) _ rfl hfin Try.underlying34 rfl (by kernel_rfl)) rfl ?_
        have hval : readS (ys, f) = (⟨fl, a0, a1, a2, a3, a4, a5, tm, sq, lf, T, py⟩, yP, fP) := by
          unfold readS muS
          simp only [HE0.out, ← HB0.out, HEfl.out, ← HBfl.out, HEa0.out, HEa1.out, HEa2.out, HEa3.out, HEa4.out, HEa5.out, HEtm.out, HEsq.out, HElf.out, HEct.out, ← HBct.out, eT, HEP.out]
        rw [hval] at hx
        simp only [Prod.mk.injEq] at hx
        obtain ⟨rfl, rfl, rfl⟩ := hx
        have q0 := nmS_le HEfl.out
        have q1 := nmS_le HEa0.out
        have q2 := nmS_le HEa1.out
        have q3 := nmS_le HEa2.out
        have q4 := nmS_le HEa3.out
        have q5 := nmS_le HEa4.out
        have q6 := nmS_le HEa5.out
        have q7 := nmS_le HEtm.out
        have q8 := nmS_le HEsq.out
        have q9 := nmS_le HElf.out
        have q11 := HP5.out
        have hTl := HN.out
        have gs : u9.grownBy (u9.setCell ⟨w.heap.size, 11, none⟩ (.slice pa m pc)) (some w.heap.size) := gr_set (World.grownBy.refl _ _) _ _
        refine ⟨⟨a, c, pa, pc, ?_, ?_, ?_, ?_, ?_⟩, (HRS9.out.grown gs (.inr hp)).grown gr_set12 (.inr hp), grown_add (grown_add HGW9.out gs (.inr fun j hj => by cases hj; exact Nat.le_refl _)) gr_set12 (.inr fun j hj => by cases hj; exact Nat.le_refl _)⟩
        · unfold bunV
          simp only
          rw [← HN.out, ← HM.out]
        · simp only
          rw [← HN.out]
          exact (HROW9.out.grown gs (Nat.lt_succ_self _)).grown gr_set12 (Nat.lt_succ_self _)
        · simp only
          rw [← HM.out]
          have hne : ∀ q, (Value.slice pa m pc).ownBlock = some q → w.heap.size + 1 ≤ q := fun q hq => (World.ownsRow.lt HOWP.out q hq).1
          have hne2 : (Value.slice pa m pc).ownBlock = none ∨ (Value.slice pa m pc).ownBlock ≠ some w.heap.size := by
            cases e : (Value.slice pa m pc).ownBlock with
            | none => left; rfl
            | some q => right; have := hne q e; simp; omega
          exact Own.grown (Own.grown HOWP.out gs hne2) gr_set12 hne2
        · refine ⟨by simp only; omega, by simp only; omega, by simp only; omega, by simp only; omega, by simp only; omega, by simp only; omega, by simp only; omega, by simp only; omega, by simp only; omega, by simp only; omega, HOKL.out, by simp only; omega, by simp only; omega⟩
        · simp only
          omega
    · have hT : T = l ∧ yT = y ∧ fT = g := by
        have h1 := HBS.out
        rw [show ct - l.length = 0 by omega] at h1
        simp only [blocksS, Prod.mk.injEq] at h1
        exact ⟨h1.1.symm, h1.2.1.symm, h1.2.2.symm⟩
      obtain ⟨rfl, rfl, rfl⟩ := hT
      clear HBS
      obtain ⟨py, yP, fP, eP⟩ : ∃ py yP fP, byS 512 (yT, fT) = (py, yP, fP) := ⟨_, _, _, rfl⟩
      obtain ⟨n, hn⟩ : ∃ n, n = T.length := ⟨_, rfl⟩
      have HN : Hid (n = T.length) := hn
      have HR : Hid (wr.heap[w.heap.size]? = some (.cells #[.int .u64 (fl : Nat), .int .u64 (a0 : Nat), .int .u64 (a1 : Nat), .int .u64 (a2 : Nat), .int .u64 (a3 : Nat), .int .u64 (a4 : Nat), .int .u64 (a5 : Nat), .int .u64 (tm : Nat), .int .u64 (sq : Nat), .int .u64 (lf : Nat), .slice a n c, .slice none 0 0] 34 (0, 0))) := by rw [hn]; exact hR
      have HROW : Hid (RowB wr (w.heap.size + 1) (.slice a n c) T) := by rw [hn]; exact hrow
      have HOKL : Hid (∀ x ∈ T, x.ok) := hok
      rw [← hn] at hwl hlc hl8 c10
      clear hn hR hrow hok h8 h80 HLA
      go_wp2_with fail
      refine (bytes_t 512 (by decide) _ hrs eP).mono ?_
      rintro e u9 ⟨pa, pc, rfl, hownP, hrs9, hg9⟩
      have HEP : Hid (byS 512 (yT, fT) = (py, yP, fP)) := eP
      have HP5 : Hid (py.length ≤ 512) := byS_le eP
      obtain ⟨m, hm⟩ : ∃ m, m = py.length := ⟨_, rfl⟩
      rw [← hm] at hownP
      rw [← hm]
      have HM : Hid (m = py.length) := hm
      have HRS9 : Hid (RS u9 p B yP fP) := hrs9
      have HGW9 : Hid (w.grownBy u9 (some p)) := grown_add hgw hg9 (.inl rfl)
      have hR9 := gr_box hg9 (by omega) HR.out
      have HROW9 : Hid (RowB u9 (w.heap.size + 1) (.slice a n c) T) := HROW.out.grown hg9 (by omega)
      have HOWP : Hid (Own u9 (w.heap.size + 1) (.slice pa m pc) py) := Own.base hownP hsz
      clear eP hm hrs9 hg9 hownP c0 c1 c2 c3 c4 c5 c6 c7 c8 c9 c10 c11 z0 z1 z2 z3 z4 z5 z6 z7 z8 z9 z10 z11
      obtain ⟨c0, c1, c2, c3, c4, c5, c6, c7, c8, c9, c10, c11, z0, z1, z2, z3, z4, z5, z6, z7, z8, z9, z10, z11⟩ := cells12 hR9
      have HR9 : Hid _ := heap_set1 (i := 11) (v := .slice pa m pc) hR9
      clear hR9
      go_wp2
      have hfin := heap_set12 (v0 := .int .u64 (fl : Nat)) (v1 := .int .u64 (a0 : Nat)) (v2 := .int .u64 (a1 : Nat)) (v3 := .int .u64 (a2 : Nat)) (v4 := .int .u64 (a3 : Nat)) (v5 := .int .u64 (a4 : Nat)) (v6 := .int .u64 (a5 : Nat)) (v7 := .int .u64 (tm : Nat)) (v8 := .int .u64 (sq : Nat)) (v9 := .int .u64 (lf : Nat)) (v10 := .slice a n c) (v11 := .slice pa m pc) HR9.out
      refine bodyPost_ret (results_cell_row rfl _ _ w.heap.size 34 _ (0, 0) _ rfl hfin Try.underlying34 rfl (by kernel_rfl)) rfl ?_
      have hval : readS (ys, f) = (⟨fl, a0, a1, a2, a3, a4, a5, tm, sq, lf, T, py⟩, yP, fP) := by
        unfold readS muS
        simp only [HE0.out, ← HB0.out, HEfl.out, ← HBfl.out, HEa0.out, HEa1.out, HEa2.out, HEa3.out, HEa4.out, HEa5.out, HEtm.out, HEsq.out, HElf.out, HEct.out, ← HBct.out, eT, HEP.out]
      rw [hval] at hx
      simp only [Prod.mk.injEq] at hx
      obtain ⟨rfl, rfl, rfl⟩ := hx
      have q0 := nmS_le HEfl.out
      have q1 := nmS_le HEa0.out
      have q2 := nmS_le HEa1.out
      have q3 := nmS_le HEa2.out
      have q4 := nmS_le HEa3.out
      have q5 := nmS_le HEa4.out
      have q6 := nmS_le HEa5.out
      have q7 := nmS_le HEtm.out
      have q8 := nmS_le HEsq.out
      have q9 := nmS_le HElf.out
      have q11 := HP5.out
      have hTl := HN.out
      have gs : u9.grownBy (u9.setCell ⟨w.heap.size, 11, none⟩ (.slice pa m pc)) (some w.heap.size) := gr_set (World.grownBy.refl _ _) _ _
      refine ⟨⟨a, c, pa, pc, ?_, ?_, ?_, ?_, ?_⟩, (HRS9.out.grown gs (.inr hp)).grown gr_set12 (.inr hp), grown_add (grown_add HGW9.out gs (.inr fun j hj => by cases hj; exact Nat.le_refl _)) gr_set12 (.inr fun j hj => by cases hj; exact Nat.le_refl _)⟩
      · unfold bunV
        simp only
        rw [← HN.out, ← HM.out]
      · simp only
        rw [← HN.out]
        exact (HROW9.out.grown gs (Nat.lt_succ_self _)).grown gr_set12 (Nat.lt_succ_self _)
      · simp only
        rw [← HM.out]
        have hne : ∀ q, (Value.slice pa m pc).ownBlock = some q → w.heap.size + 1 ≤ q := fun q hq => (World.ownsRow.lt HOWP.out q hq).1
        have hne2 : (Value.slice pa m pc).ownBlock = none ∨ (Value.slice pa m pc).ownBlock ≠ some w.heap.size := by
          cases e : (Value.slice pa m pc).ownBlock with
          | none => left; rfl
          | some q => right; have := hne q e; simp; omega
        exact Own.grown (Own.grown HOWP.out gs hne2) gr_set12 hne2
      · refine ⟨by simp only; omega, by simp only; omega, by simp only; omega, by simp only; omega, by simp only; omega, by simp only; omega, by simp only; omega, by simp only; omega, by simp only; omega, by simp only; omega, HOKL.out, by simp only; omega, by simp only; omega⟩
      · simp only
        omega
end Go.Proofs.Ytdpkommmkcmifaa
