import Derived.Test.YtnfikcegmicooabDoorRfE
namespace Go.Proofs.YtnfikcegmicooabDoor
set_option linter.unusedVariables false
set_option linter.unusedSimpArgs false
open Go.RowKit Go.Maps Go.Shelf
/-- the blocks of a wheel and of the document's beside it -/
def ftP (p m : Nat) (V : Nat → Nat → Value) (q : Nat) (v : Value) (b : Nat) : Prop := footW p m V b ∨ footR q v b
section
variable {w w' : World} {p m q N S : Nat} {L : List Tm} {V : Nat → Nat → Value} {v : Value}
theorem Wt.types (h : Wt w p m N S L V) {b : Nat} (hb : footW p m V b) : (∃ C, w.heap[b]? = some (.cells C tWh (0, 0))) ∨ (∃ C, w.heap[b]? = some (.cells C tTm (0, 0))) ∨ ∃ es cl, w.heap[b]? = some (.map es cl) := by
  obtain ⟨F, X, ⟨fl, h1, -⟩, -⟩ := h
  rcases hb with rfl | rfl | ⟨k, s, hk, hs, e⟩
  · exact .inl h1.at_
  · exact .inr (.inr h1.map.at_)
  · obtain ⟨cur, h2⟩ := rowM_at (h1.rows k s hk hs) e
    exact .inr (.inl ⟨cur, h2⟩)
theorem RfW.types (h : RfW w q N L v) {b : Nat} (hb : footR q v b) : (∃ C, w.heap[b]? = some (.cells C tRw (0, 0))) ∨ ∃ C, w.heap[b]? = some (.cells C tRt (0, 0)) := by
  rcases hb with rfl | hb
  · exact .inl ⟨_, h.hq⟩
  · obtain ⟨cur, h1⟩ := rowQ_at h.row hb
    exact .inr ⟨cur, h1⟩
theorem Wt.apartR {N' : Nat} {L' : List Tm} (h : Wt w p m N S L V) (h' : RfW w q N' L' v) {b : Nat} (h1 : footW p m V b) (h2 : footR q v b) : False := by
  rcases h.types h1 with ⟨C, e⟩ | ⟨C, e⟩ | ⟨es, cl, e⟩ <;> rcases h'.types h2 with ⟨C', e'⟩ | ⟨C', e'⟩ <;> rw [e] at e' <;> simp only [Option.some.injEq, Obj.cells.injEq, reduceCtorEq] at e'
  · exact absurd e'.2.1 (by decide)
  · exact absurd e'.2.1 (by decide)
  · exact absurd e'.2.1 (by decide)
  · exact absurd e'.2.1 (by decide)
/-- what a call on both may change -/
structure PSt (w w' : World) (p m q : Nat) (V V' : Nat → Nat → Value) (v v' : Value) : Prop where
  chg : Chg (ftP p m V q v) w w'
  new : ∀ b, ftP p m V' q v' b → ftP p m V q v b ∨ w.heap.size ≤ b
theorem PSt.below (h : Below w.heap.size w w') (p m q : Nat) (V : Nat → Nat → Value) (v : Value) : PSt w w' p m q V V v v := ⟨Chg.of_below h, fun _ h => .inl h⟩
theorem PSt.trans {a b c : World} {V V' V'' : Nat → Nat → Value} {v v' v'' : Value} (h : PSt a b p m q V V' v v') (k : PSt b c p m q V' V'' v' v'') : PSt a c p m q V V'' v v'' :=
  ⟨h.chg.trans k.chg h.new, fun i hi => by
    rcases k.new i hi with h1 | h1
    · exact h.new i h1
    · exact .inr (Nat.le_trans h.chg.size h1)⟩
theorem PSt.ofW {V' : Nat → Nat → Value} (h : Stp w w' p m V V') (q : Nat) (v : Value) : PSt w w' p m q V V' v v :=
  ⟨h.chg.mono (fun b hb => .inl hb), fun b hb => by
    rcases hb with h1 | h1
    · rcases h.new b h1 with h2 | h2
      · exact .inl (.inl h2)
      · exact .inr h2
    · exact .inl (.inr h1)⟩
theorem PSt.ofR {v' : Value} (h : RSt w w' q v v') (p m : Nat) (V : Nat → Nat → Value) : PSt w w' p m q V V v v' :=
  ⟨h.chg.mono (fun b hb => .inr hb), fun b hb => by
    rcases hb with h1 | h1 | h1
    · exact .inl (.inl h1)
    · exact .inl (.inr (.inl h1))
    · rcases h.new b h1 with h2 | h2
      · exact .inl (.inr (.inr h2))
      · exact .inr h2⟩
theorem Wt.stR {N' : Nat} {L' : List Tm} {v' : Value} (h : Wt w p m N S L V) (h' : RfW w q N' L' v) (hs : RSt w w' q v v') : Wt w' p m N S L V := h.chg hs.chg (fun b hb hr => h.apartR h' hb hr)
theorem RfW.stW {N' : Nat} {L' : List Tm} {V' : Nat → Nat → Value} (h' : RfW w q N' L' v) (h : Wt w p m N S L V) (hs : Stp w w' p m V V') : RfW w' q N' L' v := h'.kept (fun b hb => hs.chg.block b (h'.lt hb) (fun hw => h.apartR h' hw hb))
theorem setL_len (L : List Tm) (N S : Nat) (id : Int) (x : Nat) : (setL L N S id x).length ≤ L.length + 1 := by
  unfold setL
  rw [List.length_append]
  have := List.length_filter_le (fun t : Tm => decide (t.id ≠ id)) L
  simp only [List.length_singleton]
  omega
theorem Wt.ord (h : Wt w p m N S L V) : Ord N S L := by obtain ⟨F, X, -, -, ho⟩ := h; exact ho
/-- both behind an Advance -/
theorem both_adv (h : Wt w p m N S L V) (x : Nat) (hL : L.length ≤ 4398046511103) (ht : TabZ w) :
    Calls Tryd.prog 10 #[.pointer (some ⟨p, 0, none⟩), .int .u64 (x : Int)] w fun e w' => ∃ z D V', e = .returned z ∧ AdvA L N x D ∧ OwnZ w' w.heap.size z (D.map Tm.id) ∧ Wt w' p m (max N (min x mxN)) S (advL L N x) V' ∧ Stp w w' p m V V' := by
  by_cases hx : N < min x mxN
  · refine Calls.mono (advance_t h x hx hL ht) ?_
    rintro e w' ⟨z, D, V', rfl, h3, h4, h5, h6⟩
    refine ⟨z, D, V', rfl, by unfold AdvA; rw [if_pos hx]; exact h3, h4, ?_, h6⟩
    unfold advL
    rw [if_pos hx, Nat.max_eq_right (Nat.le_of_lt hx)]
    exact h5
  · refine Calls.mono (advance_no h x (Nat.le_of_not_lt hx)) ?_
    rintro e w' ⟨rfl, rfl⟩
    refine ⟨_, [], V, rfl, by unfold AdvA; rw [if_neg hx], World.ownsRow_nil _ _ _ _, ?_, Stp.refl _ _ _ _⟩
    unfold advL
    rw [if_neg hx, Nat.max_eq_left (Nat.le_of_not_lt hx)]
    exact h
theorem both_radv (h : RfW w q N L v) (ho : Ord N S L) (x : Nat) (hL : L.length ≤ 4398046511103) :
    Calls Tryd.prog 11 #[.pointer (some ⟨q, 0, none⟩), .int .u64 (x : Int)] w fun e w' => ∃ z D v', e = .returned z ∧ AdvA L N x D ∧ OwnZ w' w.heap.size z (D.map Tm.id) ∧ RfW w' q (max N (min x mxN)) (advL L N x) v' ∧ RSt w w' q v v' := by
  by_cases hx : N < min x mxN
  · refine Calls.mono (radv_t h ho x hx hL) ?_
    rintro e w' ⟨z, D, v', rfl, h3, h4, h5, h6⟩
    refine ⟨z, D, v', rfl, by unfold AdvA; rw [if_pos hx]; exact h3, h4, ?_, h6⟩
    unfold advL
    rw [if_pos hx, Nat.max_eq_right (Nat.le_of_lt hx)]
    exact h5
  · refine Calls.mono (radv_no h x (Nat.le_of_not_lt hx)) ?_
    rintro e w' ⟨rfl, rfl⟩
    refine ⟨_, [], v, rfl, by unfold AdvA; rw [if_neg hx], World.ownsRow_nil _ _ _ _, ?_, RSt.below (Below.refl _ _) _ _⟩
    unfold advL
    rw [if_neg hx, Nat.max_eq_left (Nat.le_of_not_lt hx)]
    exact h
theorem advL_len (L : List Tm) (N x : Nat) : (advL L N x).length ≤ L.length := by
  unfold advL
  by_cases h : N < min x mxN
  · rw [if_pos h]; exact List.length_filter_le _ _
  · rw [if_neg h]; exact Nat.le_refl _
end
end Go.Proofs.YtnfikcegmicooabDoor
