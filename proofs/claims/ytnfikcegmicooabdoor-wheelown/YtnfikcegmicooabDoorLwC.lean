import Derived.Test.YtnfikcegmicooabDoorLwB
namespace Go.Proofs.YtnfikcegmicooabDoor
set_option linter.unusedVariables false
set_option linter.unusedSimpArgs false
open Go.RowKit Go.Maps Go.Shelf
/-- a wheel whose memory lies from B on -/
structure Wn (B : Nat) (w : World) (p N S : Nat) (L : List Tm) : Prop where
  wt : ∃ m V, Wt w p m N S L V ∧ ∀ b, footW p m V b → B ≤ b
  tab : TabZ w
  pos : 0 < B
  le : B ≤ w.heap.size
theorem Wn.below {B : Nat} {w w' : World} {p N S : Nat} {L : List Tm} (h : Wn B w p N S L) (hb : Below w.heap.size w w') : Wn B w' p N S L := by
  obtain ⟨m, V, h1, h2⟩ := h.wt
  exact ⟨⟨m, V, h1.below hb, h2⟩, h.tab.below hb, h.pos, Nat.le_trans h.le hb.size⟩
theorem Wn.step {B : Nat} {w w' : World} {p m N S N' S' : Nat} {L L' : List Tm} {V V' : Nat → Nat → Value} (h : Wt w p m N S L V) (hf : ∀ b, footW p m V b → B ≤ b) (ht : TabZ w) (hp : 0 < B) (hl : B ≤ w.heap.size) (h' : Wt w' p m N' S' L' V') (hs : Stp w w' p m V V') : Wn B w' p N' S' L' ∧ Below B w w' := by
  have hb : Below B w w' := hs.chg.below hf hl
  refine ⟨⟨⟨m, V', h', fun b hb => ?_⟩, hs.tab h.z ht, hp, Nat.le_trans hl hb.size⟩, hb⟩
  rcases hs.new b hb with h1 | h1
  · exact hf b h1
  · omega
theorem new_n (x : Nat) (w : World) (ht : TabZ w) : Calls Tryd.prog 17 #[.int .u64 (x : Int)] w fun e w' => ∃ p, e = .returned (.tuple #[.pointer (some ⟨p, 0, none⟩), .int .i64 0]) ∧ Wn w.heap.size w' p (min x mxN) 0 [] ∧ Below w.heap.size w w' := by
  have hpos : 0 < w.heap.size := World.block_lt_of_cell? w _ (ht 0 (by decide))
  refine Calls.mono (new_t x w hpos) ?_
  rintro e w' ⟨P, M, V, rfl, h1, h2, h3⟩
  exact ⟨P, rfl, ⟨⟨M, V, h1, h3⟩, ht.below h2, hpos, h2.size⟩, h2⟩
section
variable {B : Nat} {w : World} {p N S : Nat} {L : List Tm}
theorem now_n (h : Wn B w p N S L) : Calls Tryd.prog 19 #[.pointer (some ⟨p, 0, none⟩)] w fun e w' => e = .returned (.int .u64 (N : Int)) ∧ w' = w := by
  obtain ⟨m, V, h1, h2⟩ := h.wt
  exact now_t h1
theorem len_n (h : Wn B w p N S L) : Calls Tryd.prog 22 #[.pointer (some ⟨p, 0, none⟩)] w fun e w' => e = .returned (.int .i64 (L.length : Int)) ∧ w' = w := by
  obtain ⟨m, V, h1, h2⟩ := h.wt
  exact len_t h1
theorem next_n (h : Wn B w p N S L) : Calls Tryd.prog 21 #[.pointer (some ⟨p, 0, none⟩)] w fun e w' => (∃ n b, e = .returned (.tuple #[.int .u64 ((n : Nat) : Int), .bool b]) ∧ NextIs L n b) ∧ Wn B w' p N S L ∧ Below B w w' := by
  obtain ⟨m, V, h1, h2⟩ := h.wt
  refine Calls.mono (next_t h1 h.tab) ?_
  rintro e w' ⟨h3, hb⟩
  exact ⟨h3, h.below hb, hb.mono h.le⟩
theorem set_n (h : Wn B w p N S L) (id : Int) (x : Nat) (hid : inI id) (hL : L.length ≤ 4398046511104) (hS : S < 18446744073709551615) :
    Calls Tryd.prog 20 #[.pointer (some ⟨p, 0, none⟩), .int .i64 id, .int .u64 (x : Int)] w fun e w' => e = .returned (.int .i64 0) ∧ Wn B w' p N (S + 1) (setL L N S id x) ∧ Below B w w' := by
  obtain ⟨m, V, h1, h2⟩ := h.wt
  refine Calls.mono (set_t h1 id x hid hL hS) ?_
  rintro e w' ⟨rfl, V', h3, h4⟩
  exact ⟨rfl, Wn.step h1 h2 h.tab h.pos h.le h3 h4⟩
theorem stop_n (h : Wn B w p N S L) (id : Int) (hid : inI id) (hL : L.length ≤ 4398046511104) :
    Calls Tryd.prog 34 #[.pointer (some ⟨p, 0, none⟩), .int .i64 id] w fun e w' => e = .returned (.bool (decide (id ∈ L.map Tm.id))) ∧ Wn B w' p N S (L.filter (fun t => decide (t.id ≠ id))) ∧ Below B w w' := by
  obtain ⟨m, V, h1, h2⟩ := h.wt
  refine Calls.mono (stop_t h1 id hid hL) ?_
  rintro e w' ⟨rfl, V', h3, h4⟩
  exact ⟨rfl, Wn.step h1 h2 h.tab h.pos h.le h3 h4⟩
/-- what an Advance leaves -/
def advL (L : List Tm) (N x : Nat) : List Tm := if N < min x mxN then L.filter (fun t => decide (min x mxN < t.at_)) else L
def AdvA (L : List Tm) (N x : Nat) (D : List Tm) : Prop := if N < min x mxN then AdvIs L (min x mxN) D else D = []
theorem AdvA.uniq {L : List Tm} {N x : Nat} {D D' : List Tm} (h : AdvA L N x D) (h' : AdvA L N x D') : D = D' := by
  unfold AdvA at *
  by_cases h1 : N < min x mxN
  · rw [if_pos h1] at h h'; exact h.uniq h'
  · rw [if_neg h1] at h h'; rw [h, h']
theorem advance_n (h : Wn B w p N S L) (x : Nat) (hL : L.length ≤ 4398046511103) :
    Calls Tryd.prog 10 #[.pointer (some ⟨p, 0, none⟩), .int .u64 (x : Int)] w fun e w' => ∃ v D, e = .returned v ∧ AdvA L N x D ∧ OwnZ w' w.heap.size v (D.map Tm.id) ∧ Wn B w' p (max N (min x mxN)) S (advL L N x) ∧ Below B w w' := by
  obtain ⟨m, V, h1, h2⟩ := h.wt
  by_cases hx : N < min x mxN
  · refine Calls.mono (advance_t h1 x hx hL h.tab) ?_
    rintro e w' ⟨v, D, V', rfl, h3, h4, h5, h6⟩
    refine ⟨v, D, rfl, by unfold AdvA; rw [if_pos hx]; exact h3, h4, ?_⟩
    have h7 := Wn.step h1 h2 h.tab h.pos h.le h5 h6
    unfold advL
    rw [if_pos hx, Nat.max_eq_right (Nat.le_of_lt hx)]
    exact h7
  · refine Calls.mono (advance_no h1 x (Nat.le_of_not_lt hx)) ?_
    rintro e w' ⟨rfl, rfl⟩
    refine ⟨_, [], rfl, by unfold AdvA; rw [if_neg hx], World.ownsRow_nil _ _ _ _, ?_, Below.refl _ _⟩
    unfold advL
    rw [if_neg hx, Nat.max_eq_left (Nat.le_of_not_lt hx)]
    exact h
end
/-- chapter 10's first example -/
theorem ex_l4 : setL (setL (setL (setL [] 10 0 1 12) 10 1 2 11) 10 2 3 12) 10 3 4 5 = [⟨1, 12, 1⟩, ⟨2, 11, 2⟩, ⟨3, 12, 3⟩, ⟨4, 11, 4⟩] := rfl
theorem ex_next : NextIs [⟨1, 12, 1⟩, ⟨2, 11, 2⟩, ⟨3, 12, 3⟩, ⟨4, 11, 4⟩] 11 true := by
  refine .inr ⟨rfl, ⟨⟨2, 11, 2⟩, by simp, by decide, rfl⟩, fun t ht _ => ?_⟩
  simp at ht
  rcases ht with rfl | rfl | rfl | rfl <;> decide
theorem ex_a1 : AdvA [⟨1, 12, 1⟩, ⟨2, 11, 2⟩, ⟨3, 12, 3⟩, ⟨4, 11, 4⟩] 10 11 [⟨2, 11, 2⟩, ⟨4, 11, 4⟩] := by
  unfold AdvA
  rw [if_pos (by decide)]
  refine ⟨by simp [ltT], fun t => ?_⟩
  constructor
  · intro ht
    simp at ht
    rcases ht with rfl | rfl <;> exact ⟨by simp, by decide⟩
  · rintro ⟨ht, h9⟩
    simp at ht
    rcases ht with rfl | rfl | rfl | rfl
    · exact absurd h9 (by decide)
    · simp
    · exact absurd h9 (by decide)
    · simp
theorem ex_l2 : advL [⟨1, 12, 1⟩, ⟨2, 11, 2⟩, ⟨3, 12, 3⟩, ⟨4, 11, 4⟩] 10 11 = [⟨1, 12, 1⟩, ⟨3, 12, 3⟩] := rfl
theorem ex_a2 : AdvA [⟨1, 12, 1⟩, ⟨3, 12, 3⟩] 11 20 [⟨1, 12, 1⟩, ⟨3, 12, 3⟩] := by
  unfold AdvA
  rw [if_pos (by decide)]
  refine ⟨by simp [ltT], fun t => ?_⟩
  constructor
  · intro ht
    refine ⟨ht, ?_⟩
    simp at ht
    rcases ht with rfl | rfl <;> decide
  · rintro ⟨ht, -⟩
    exact ht
theorem ex_l0 : advL [⟨1, 12, 1⟩, ⟨3, 12, 3⟩] 11 20 = [] := rfl
theorem rdZ_lit2 (w : World) (a b : Int) : RdZ (w.alloc (.cells #[.int .i64 a, .int .i64 b] 3)) (.slice (some ⟨w.heap.size, 0, none⟩) 2 2) [a, b] := by
  refine ⟨_, 2, rfl, fun j hj => ⟨w.heap.size, 0, rfl, ?_⟩⟩
  have h9 := heap_alloc_new w (.cells #[.int .i64 a, .int .i64 b] 3)
  have hj2 : j = 0 ∨ j = 1 := by simp at hj; omega
  rcases hj2 with rfl | rfl
  · rw [cell_of_row _ _ _ _ _ _ h9]; rfl
  · rw [cell_of_row _ _ _ _ _ _ h9]; rfl
set_option maxRecDepth 20000 in
set_option maxHeartbeats 3200000 in
theorem knows_t (w : World) (ht : TabZ w) : Calls Tryd.prog 9 #[] w fun e w' => e = .returned (.bool true) ∧ Below w.heap.size w w' := by
  have HT : Hid _ := ht
  clear ht
  go_enter Tryd.func9, Tryd.ntmps9
  go_wp2_with fail
  refine Calls.mono (new_n 10 w HT.out) ?_
  rintro e w1 ⟨p, rfl, h1, hb1⟩
  have h1' : Wn w.heap.size w1 p 10 0 [] := h1
  have H1 : Hid _ := h1'
  have HB1 : Hid _ := hb1
  have hi : ∀ z : Int, 0 ≤ z → z ≤ 4 → inI z := fun z h2 h3 => ⟨by omega, by omega⟩
  have HI : Hid _ := hi
  clear h1 hb1 h1' hi
  go_wp2_with (go_at_call 19; refine Calls.mono (now_n H1.out) ?_; rintro e w' ⟨rfl, hq⟩; have hq := hq.symm; subst hq)
  refine Calls.mono (set_n H1.out 1 12 (HI.out 1 (by decide) (by decide)) (by decide) (by decide)) ?_
  rintro e w2 ⟨rfl, h2, hb2⟩
  go_wp2_with fail
  refine Calls.mono (set_n h2 2 11 (HI.out 2 (by decide) (by decide)) (by decide) (by decide)) ?_
  rintro e w3 ⟨rfl, h3, hb3⟩
  go_wp2_with fail
  refine Calls.mono (set_n h3 3 12 (HI.out 3 (by decide) (by decide)) (by decide) (by decide)) ?_
  rintro e w4 ⟨rfl, h4, hb4⟩
  go_wp2_with fail
  refine Calls.mono (set_n h4 4 5 (HI.out 4 (by decide) (by decide)) (by decide) (by decide)) ?_
  rintro e w5 ⟨rfl, h5, hb5⟩
  rw [ex_l4] at h5
  have HB5 : Hid (Below w.heap.size w w5) := (((HB1.out.trans hb2).trans hb3).trans hb4).trans hb5
  have H5 : Hid _ := h5
  clear h2 h3 h4 h5 hb2 hb3 hb4 hb5
  go_wp2_with fail
  refine Calls.mono (next_n H5.out) ?_
  rintro e w6 ⟨⟨n6, b6, rfl, h6⟩, hw6, hb6⟩
  obtain ⟨rfl, rfl⟩ := h6.uniq ex_next
  have HB6 : Hid (Below w.heap.size w w6) := HB5.out.trans hb6
  have H6 : Hid _ := hw6
  clear h6 hw6 hb6
  go_wp2_with (go_at_call 22; refine Calls.mono (len_n H6.out) ?_; rintro e w' ⟨rfl, hq⟩; have hq := hq.symm; subst hq)
  refine Calls.mono (advance_n H6.out 11 (by decide)) ?_
  rintro e w7 ⟨v7, D7, rfl, hD7, hz7, hw7, hb7⟩
  obtain rfl := hD7.uniq ex_a1
  rw [ex_l2] at hw7
  have hw7' : Wn w.heap.size w7 p 11 4 [⟨1, 12, 1⟩, ⟨3, 12, 3⟩] := hw7
  have HB7 : Hid (Below w.heap.size w w7) := HB6.out.trans hb7
  have H7 : Hid _ := hw7'
  have HZ7 : Hid _ := hz7
  clear hD7 hz7 hw7 hw7' hb7
  go_wp2_with fail
  refine Calls.mono (same_t v7 _ [2, 4] [2, 4] _ (RdZ.below (OwnZ.rd HZ7.out) (al (Below.refl _ _) _)) (rdZ_lit2 w7 2 4) (by decide) (by decide)) ?_
  rintro e w8 ⟨rfl, hd8⟩
  have hb8 : Below w7.heap.size w7 w8 := (al (Below.refl _ _) _).trans (hd8.below _)
  have HB8 : Hid (Below w.heap.size w w8) := HB7.out.trans (hb8.mono H7.out.le)
  have H8 : Hid _ := H7.out.below hb8
  clear hd8 hb8
  go_wp2_with fail
  refine Calls.mono (advance_n H8.out 20 (by decide)) ?_
  rintro e w9 ⟨v9, D9, rfl, hD9, hz9, hw9, hb9⟩
  obtain rfl := hD9.uniq ex_a2
  rw [ex_l0] at hw9
  have HB9 : Hid (Below w.heap.size w w9) := HB8.out.trans hb9
  have H9 : Hid _ := hw9
  have HZ9 : Hid _ := hz9
  clear hD9 hz9 hw9 hb9
  go_wp2_with fail
  refine Calls.mono (same_t v9 _ [1, 3] [1, 3] _ (RdZ.below (OwnZ.rd HZ9.out) (al (Below.refl _ _) _)) (rdZ_lit2 w9 1 3) (by decide) (by decide)) ?_
  rintro e w10 ⟨rfl, hd10⟩
  have hb10 : Below w9.heap.size w9 w10 := (al (Below.refl _ _) _).trans (hd10.below _)
  have HB10 : Hid (Below w.heap.size w w10) := HB9.out.trans (hb10.mono H9.out.le)
  have H10 : Hid _ := H9.out.below hb10
  clear hd10 hb10
  go_wp2_with (go_at_call 22; refine Calls.mono (len_n H10.out) ?_; rintro e w' ⟨rfl, hq⟩; have hq := hq.symm; subst hq)
  go_ret
  exact ⟨rfl, HB10.out⟩
end Go.Proofs.YtnfikcegmicooabDoor
