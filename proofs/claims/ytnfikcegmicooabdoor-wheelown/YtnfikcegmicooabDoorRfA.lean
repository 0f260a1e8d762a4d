import Derived.Test.YtnfikcegmicooabDoorLwC
namespace Go.Proofs.YtnfikcegmicooabDoor
set_option linter.unusedVariables false
set_option linter.unusedSimpArgs false
open Go.RowKit Go.Maps
/-- a timer of the document's list -/
abbrev nev (t : Tm) : Bool := decide (¬ t.at_ ≤ mxN)
abbrev rtv (t : Tm) : List Value := [.int .i64 t.id, .int .u64 (t.at_ : Int), .bool (nev t)]
abbrev tRt : TypeId := 72
abbrev tRts : TypeId := 68
abbrev tRw : TypeId := 70
/-- entries that can be read -/
def RdQ (w : World) (ao : Option Addr) (xs : List Tm) : Prop := ∀ j (hj : j < xs.length), ∃ b o, ao = some ⟨b, o, none⟩ ∧ w.rangeAt b (o + j * 3) (rtv xs[j]) ∧ ∃ cur fr, w.heap[b]? = some (.cells cur tRt fr)
theorem RdQ.below {w w' : World} {ao : Option Addr} {xs : List Tm} (h : RdQ w ao xs) (hb : Below w.heap.size w w') : RdQ w' ao xs := fun j hj => by
  obtain ⟨b, o, h1, h2, cur, fr, h3⟩ := h j hj
  exact ⟨b, o, h1, rangeAt_below h2 hb, cur, fr, (hb.block b (Array.getElem?_eq_some_iff.1 h3).1).trans h3⟩
def flatQ (xs : List Tm) : List Value := xs.flatMap rtv
theorem flatQ_len (xs : List Tm) : (flatQ xs).length = xs.length * 3 := by
  induction xs with
  | nil => rfl
  | cons x xs ih =>
    unfold flatQ at *
    rw [List.flatMap_cons, List.length_append, ih]
    simp
    omega
theorem flatQ_app (xs ys : List Tm) : flatQ (xs ++ ys) = flatQ xs ++ flatQ ys := by simp [flatQ]
theorem flatQ_one (x : Tm) : flatQ [x] = rtv x := by simp [flatQ]
theorem flatQ_get : ∀ (xs : List Tm) (j q : Nat) (h : j < xs.length) (_ : q < 3), (flatQ xs)[j * 3 + q]? = (rtv xs[j])[q]?
  | [], j, _, h, _ => by cases h
  | x :: xs, 0, q, _, hq => by
    have e : flatQ (x :: xs) = rtv x ++ flatQ xs := by simp [flatQ]
    rw [e, List.getElem?_append_left (by simp; omega)]
    simp
  | x :: xs, j + 1, q, h, hq => by
    have h1 := flatQ_get xs j q (by simpa using h) hq
    have e : flatQ (x :: xs) = rtv x ++ flatQ xs := by simp [flatQ]
    rw [e, List.getElem?_append_right (by simp; omega)]
    rw [show (j + 1) * 3 + q - (rtv x).length = j * 3 + q by simp; omega, h1]
    rfl
theorem flatQ_one' (xs : List Tm) : ∀ u ∈ flatQ xs, u.oneCell' = true := by
  intro u hu
  obtain ⟨x, -, hx⟩ := List.mem_flatMap.1 hu
  simp at hx
  rcases hx with rfl | rfl | rfl <;> rfl
def OwnQ (w : World) (B : Nat) (v : Value) (xs : List Tm) : Prop := w.ownsRow B tRt 3 v xs.length (flatQ xs)
theorem OwnQ.below {w w' : World} {B : Nat} {v : Value} {xs : List Tm} (h : OwnQ w B v xs) (hb : Below w.heap.size w w') : OwnQ w' B v xs := by
  refine ⟨h.1, ?_⟩
  rcases h.2 with h0 | ⟨g, cap, cur, e, hB, hg, r⟩
  · exact .inl h0
  · exact .inr ⟨g, cap, cur, e, hB, (hb.block g (Array.getElem?_eq_some_iff.1 hg).1).trans hg, r⟩
theorem OwnQ.rd {w : World} {B g cap : Nat} {xs : List Tm} (h : OwnQ w B (.slice (some ⟨g, 0, none⟩) xs.length cap) xs) : RdQ w (some ⟨g, 0, none⟩) xs := fun j hj => by
  have hblk : ∃ cur fr, w.heap[g]? = some (.cells cur tRt fr) := by
    rcases h.2 with ⟨e, -⟩ | ⟨g', cap', cur, e, -, hg, -⟩
    · cases e
    · cases e; exact ⟨cur, _, hg⟩
  refine ⟨g, 0, rfl, fun q v hv => ?_, hblk⟩
  have hq : q < 3 := by have := (List.getElem?_eq_some_iff.1 hv).1; simpa using this
  rw [Nat.zero_add, World.ownsRow.cellAt h _ (by omega), flatQ_get xs j q hj hq]
  exact hv
theorem OwnQ.val {w : World} {B : Nat} {v : Value} {xs : List Tm} (h : OwnQ w B v xs) : ∃ a c, v = .slice a xs.length c ∧ xs.length ≤ c ∧ (a = none → c = 0) ∧ RdQ w a xs := by
  have h' := h
  rcases h.2 with ⟨rfl, h0⟩ | ⟨g, cap, cur, rfl, hB, hg, hn, hm, r⟩
  · obtain rfl : xs = [] := List.eq_nil_of_length_eq_zero h0
    exact ⟨none, 0, rfl, Nat.le_refl _, fun _ => rfl, fun j hj => absurd hj (Nat.not_lt_zero _)⟩
  · exact ⟨_, cap, rfl, hn, (fun h => by cases h), OwnQ.rd h'⟩
theorem infoQ : (Tryd.prog.info? tRt).map (fun i => (i.zero, i.size, i.bytes)) = some (some (.agg #[.int .i64 0, .int .u64 0, .bool false]), 3, 24) := by kernel_rfl
/-- append of entries that can be read -/
theorem wp_appQ {w : World} {ops : Array Oper} {rest : List Oper} {o : Oper} {a : Act} {Q : Exit → Act → World → Prop} (hgd : o.guard = none) (s x : Operand)
    (ho : o.op = .call { callee := .builtin .append, args := #[s, x], argTypes := #[tRts, tRts] }) (B : Nat) (v : Value) (xs ys : List Tm) (n : Nat) (ao : Option Addr) (cap : Nat) (hn : n = ys.length)
    (hs : a.eval s = v) (hown : OwnQ w B v xs) (hx : a.eval x = .slice ao n cap) (hr : RdQ w ao ys) (hnil : ao = none → cap = 0)
    (hb : xs.length + n ≤ 4398046511104) (hbase : B ≤ w.heap.size)
    (h : ∀ v' w', OwnQ w' B v' (xs ++ ys) → w.grownBy w' v.ownBlock → wpList Tryd.prog ops Q rest (a.put o.dst v') w') : wpList Tryd.prog ops Q (o :: rest) a w := by
  subst hn
  obtain ⟨i0, hi, hz0, hz1, hz2⟩ := info_parts infoQ
  rcases ao with _ | ad
  · have h0 : ys = [] := by
      rcases ys with _ | ⟨y, ys⟩
      · rfl
      · obtain ⟨b, o, h1, _⟩ := hr 0 (by simp); cases h1
    subst h0
    obtain rfl := hnil rfl
    refine wpList_append_own_none hgd s x tRts ho B tRt i0 3 Tryd.underlying68 hi v xs.length (flatQ xs) hs hown hx ?_
    exact h v w (by simpa using hown) ⟨rfl, rfl, rfl, Nat.le_refl _, fun _ _ _ => rfl⟩
  · refine wpList_append_own w hgd s x tRts ho B tRt i0 _ 3 24 Tryd.underlying68 hi hz0 hz1 hz2 rfl (by decide) v xs.length (flatQ xs) hs hown ad ys.length cap (flatQ ys) hx (flatQ_len ys) ?_ (flatQ_one' ys) (by simp only [maxLen]; omega) (by omega) hbase ?_
    · intro j u hj
      have hlt : j < ys.length * 3 := by
        have := (List.getElem?_eq_some_iff.1 hj).1
        rw [flatQ_len] at this
        exact this
      obtain ⟨b, o, h1, h2, -⟩ := hr (j / 3) (by omega)
      cases h1
      rw [Go.WideShapes.add_plain]
      have f1 := flatQ_get ys (j / 3) (j % 3) (by omega) (by omega)
      rw [show j / 3 * 3 + j % 3 = j by omega, hj] at f1
      have h3 := h2 (j % 3) u f1.symm
      rw [show o + j / 3 * 3 + j % 3 = o + j by omega] at h3
      exact h3
    · intro v' w' h1 h2 _
      refine h v' w' ?_ h2
      unfold OwnQ
      rw [List.length_append, flatQ_app]
      exact h1
theorem RdQ.take {w : World} {b o : Nat} {xs : List Tm} (h : RdQ w (some ⟨b, o, none⟩) xs) (n : Nat) : RdQ w (some ⟨b, o, none⟩) (xs.take n) := fun j hj => by
  obtain ⟨b', o', h1, h2, h3⟩ := h j (by rw [List.length_take] at hj; omega)
  refine ⟨b', o', h1, ?_, h3⟩
  rw [List.getElem_take]
  exact h2
theorem RdQ.drop {w : World} {b o : Nat} {xs : List Tm} (h : RdQ w (some ⟨b, o, none⟩) xs) (n : Nat) : RdQ w (some ⟨b, o + n * 3, none⟩) (xs.drop n) := fun j hj => by
  have hl : n + j < xs.length := by rw [List.length_drop] at hj; omega
  obtain ⟨b', o', h1, h2, h3⟩ := h (n + j) hl
  cases h1
  refine ⟨b, o + n * 3, rfl, ?_, h3⟩
  rw [List.getElem_drop, show o + n * 3 + j * 3 = o + (n + j) * 3 by omega]
  exact h2
theorem rowQ_kept {w w' : World} {B : Nat} {v : Value} {xs : List Tm} (h : OwnQ w B v xs) (hk : ∀ b, v.ownBlock = some b → w'.heap[b]? = w.heap[b]?) : OwnQ w' B v xs := by
  refine ⟨h.1, ?_⟩
  rcases h.2 with h0 | ⟨g, cap, cur, e, hB, hg, r⟩
  · exact .inl h0
  · exact .inr ⟨g, cap, cur, e, hB, (hk g (by rw [e]; rfl)).trans hg, r⟩
theorem rowQ_at {w : World} {B : Nat} {v : Value} {xs : List Tm} {b : Nat} (h : OwnQ w B v xs) (hb : v.ownBlock = some b) : ∃ cur, w.heap[b]? = some (.cells cur tRt (0, 0)) := by
  rcases h.2 with ⟨rfl, -⟩ | ⟨g, cap, cur, rfl, -, hg, -⟩
  · cases hb
  · cases hb; exact ⟨cur, hg⟩
theorem OwnQ.base {w : World} {B B' : Nat} {v : Value} {xs : List Tm} (h : OwnQ w B v xs) (hB : B' ≤ B) : OwnQ w B' v xs :=
  ⟨h.1, h.2.imp id (fun ⟨g, cap, cur, h1, h2, h3⟩ => ⟨g, cap, cur, h1, Nat.le_trans hB h2, h3⟩)⟩
theorem OwnQ.one {w : World} {B : Nat} {v : Value} {xs : List Tm} (h : OwnQ w B v xs) (hn : xs ≠ []) : ∃ g c, v = .slice (some ⟨g, 0, none⟩) xs.length c := by
  rcases h.2 with ⟨-, h0⟩ | ⟨g, cap, cur, e, -⟩
  · exact absurd (List.eq_nil_of_length_eq_zero h0) hn
  · exact ⟨g, cap, e⟩
theorem OwnQ.cells3 {w : World} {B g cap n : Nat} {xs : List Tm} (h : OwnQ w B (.slice (some ⟨g, 0, none⟩) n cap) xs) (hn : n = xs.length) (i : Nat) (hi : i < xs.length) :
    w.cell? ⟨g, i * 3, none⟩ = some (.int .i64 xs[i].id) ∧ w.cell? ⟨g, i * 3 + 1, none⟩ = some (.int .u64 (xs[i].at_ : Int)) ∧ w.cell? ⟨g, i * 3 + 2, none⟩ = some (.bool (nev xs[i])) := by
  subst hn
  have h1 := fun r (hr : r < 3) => (World.ownsRow.cellAt h (i * 3 + r) (by omega)).trans (flatQ_get xs i r hi hr)
  exact ⟨h1 0 (by decide), h1 1 (by decide), h1 2 (by decide)⟩
theorem OwnQ.lt {w : World} {B g cap n : Nat} {xs : List Tm} (h : OwnQ w B (.slice (some ⟨g, 0, none⟩) n cap) xs) : g < w.heap.size := by
  obtain ⟨cur, h1⟩ := rowQ_at h (b := g) rfl
  exact (Array.getElem?_eq_some_iff.1 h1).1
theorem OwnQ.most {w : World} {B g cap n : Nat} {xs : List Tm} (h : OwnQ w B (.slice (some ⟨g, 0, none⟩) n cap) xs) : n = xs.length ∧ n ≤ cap ∧ cap ≤ maxLen := by
  rcases h.2 with ⟨e, -⟩ | ⟨g', cap', cur, e, hB, hg, h1, h2, -⟩
  · cases e
  · cases e
    exact ⟨rfl, h1, h2⟩
/-- the document's wheel in memory -/
structure RfW (w : World) (q N : Nat) (L : List Tm) (v : Value) : Prop where
  hq : w.heap[q]? = some (.cells #[.int .u64 (N : Int), v] tRw (0, 0))
  row : OwnQ w 0 v L
def footR (q : Nat) (v : Value) (b : Nat) : Prop := b = q ∨ v.ownBlock = some b
section
variable {w w' : World} {q N : Nat} {L : List Tm} {v : Value}
theorem RfW.qv (h : RfW w q N L v) : v.ownBlock ≠ some q := fun e => by
  obtain ⟨cur, h1⟩ := rowQ_at h.row e
  rw [h.hq] at h1
  simp only [Option.some.injEq, Obj.cells.injEq] at h1
  exact absurd h1.2.1 (by decide)
theorem RfW.lt (h : RfW w q N L v) {b : Nat} (hb : footR q v b) : b < w.heap.size := by
  rcases hb with rfl | hb
  · exact (Array.getElem?_eq_some_iff.1 h.hq).1
  · exact (World.ownsRow.lt h.row b hb).2
theorem RfW.kept (h : RfW w q N L v) (hk : ∀ b, footR q v b → w'.heap[b]? = w.heap[b]?) : RfW w' q N L v := ⟨(hk q (.inl rfl)).trans h.hq, rowQ_kept h.row (fun b hb => hk b (.inr hb))⟩
theorem RfW.below (h : RfW w q N L v) (hb : Below w.heap.size w w') : RfW w' q N L v := h.kept (fun b hf => hb.block b (h.lt hf))
theorem RfW.c0 (h : RfW w q N L v) : w.cell? ⟨q, 0, none⟩ = some (.int .u64 (N : Int)) := by rw [cell_of_row _ _ _ _ _ _ h.hq]; rfl
theorem RfW.c1 (h : RfW w q N L v) : w.cell? ⟨q, 1, none⟩ = some v := by rw [cell_of_row _ _ _ _ _ _ h.hq]; rfl
theorem RfW.fz (h : RfW w q N L v) (i : Nat) : w.frozen? ⟨q, i, none⟩ = false := by simp [World.frozen?, h.hq]
theorem RfW.setN (h : RfW w q N L v) (N' : Nat) : RfW (w.setCell ⟨q, 0, none⟩ (.int .u64 (N' : Int))) q N' L v :=
  ⟨(heap_setCell_same _ _ _ _ _ _ h.hq).trans rfl, rowQ_kept h.row (fun b hb => heap_setCell_other _ _ _ _ (fun e => h.qv (by rw [hb]; exact congrArg some e)))⟩
/-- another list -/
theorem RfW.setV (h : RfW w q N L v) (hk : w'.heap[q]? = w.heap[q]?) {v' : Value} {L' : List Tm} (ho : OwnQ w' 0 v' L') : RfW (w'.setCell ⟨q, 1, none⟩ v') q N L' v' := by
  have hq' := hk.trans h.hq
  refine ⟨(heap_setCell_same _ _ _ _ _ _ hq').trans rfl, rowQ_kept ho (fun b hb => heap_setCell_other _ _ _ _ (fun e => ?_))⟩
  have e' : b = q := e
  subst e'
  obtain ⟨cur, h1⟩ := rowQ_at ho hb
  rw [hq'] at h1
  simp only [Option.some.injEq, Obj.cells.injEq] at h1
  exact absurd h1.2.1 (by decide)
end
/-- what a call on the document's wheel may change -/
structure RSt (w w' : World) (q : Nat) (v v' : Value) : Prop where
  chg : Chg (footR q v) w w'
  new : ∀ b, v'.ownBlock = some b → v.ownBlock = some b ∨ w.heap.size ≤ b
theorem RSt.below {w w' : World} (h : Below w.heap.size w w') (q : Nat) (v : Value) : RSt w w' q v v := ⟨Chg.of_below h, fun _ h => .inl h⟩
theorem RSt.trans {a b c : World} {q : Nat} {v v' v'' : Value} (h : RSt a b q v v') (k : RSt b c q v' v'') : RSt a c q v v'' := by
  refine ⟨h.chg.trans k.chg (fun i hi => ?_), fun i hi => ?_⟩
  · rcases hi with rfl | hi
    · exact .inl (.inl rfl)
    · rcases h.new i hi with h1 | h1
      · exact .inl (.inr h1)
      · exact .inr h1
  · rcases k.new i hi with h1 | h1
    · exact h.new i h1
    · exact .inr (Nat.le_trans h.chg.size h1)
set_option maxRecDepth 20000 in
set_option maxHeartbeats 1600000 in
theorem rclock_t (x : Nat) (w : World) : Calls Tryd.prog 30 #[.int .u64 (x : Int)] w fun e w' => e = .returned (.int .u64 ((min x mxN : Nat) : Int)) ∧ w' = w := by
  go_enter Tryd.func30, Tryd.ntmps30
  go_wp2
  go_ret
  refine ⟨?_, rfl⟩
  have h1 : (min (x : Int) 281474976710655) = ((min x mxN : Nat) : Int) := by have : mxN = 281474976710655 := rfl; omega
  rw [← h1]
  rfl
set_option maxRecDepth 20000 in
set_option maxHeartbeats 1600000 in
theorem rnew_t (x : Nat) (w : World) : Calls Tryd.prog 18 #[.int .u64 (x : Int)] w fun e w' => e = .returned (.pointer (some ⟨w.heap.size, 0, none⟩)) ∧ RfW w' w.heap.size (min x mxN) [] (.slice none 0 0) ∧ Below w.heap.size w w' := by
  go_enter Tryd.func18, Tryd.ntmps18
  go_wp2_with (go_at_call 30; refine Calls.mono (rclock_t x _) ?_; rintro e w' ⟨rfl, hq⟩; have hq := hq.symm; subst hq)
  go_ret
  exact ⟨rfl, ⟨heap_alloc_new w _, World.ownsRow_nil _ _ _ _⟩, al (Below.refl _ _) _⟩
end Go.Proofs.YtnfikcegmicooabDoor
