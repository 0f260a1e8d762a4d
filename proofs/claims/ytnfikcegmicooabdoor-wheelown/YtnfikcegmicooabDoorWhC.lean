import Derived.Test.YtnfikcegmicooabDoorWhB
import Derived.Deep.MidRow
import Derived.Deep.WholeRow
import Derived.Laws.CopyOwn
import Derived.OwnWalk
import Derived.Laws.MakeOwn
import Derived.Deep.AppendLies
import Derived.Laws.AppendOwnNone
import Derived.Lib.AppendZeros
import Derived.Lib.SliceRun
import Derived.Maps.OwnSet
namespace Go.Proofs.YtnfikcegmicooabDoor
set_option linter.unusedVariables false
set_option linter.unusedSimpArgs false
open Go.RowKit Go.Maps
theorem al {w w1 : World} (h : Below w.heap.size w w1) (o : Obj) : Below w.heap.size w (w1.alloc o) := h.alloc h.size o
theorem exec_load {P : Program} {a : Act} {oi : Oper} {t : TypeId} {x : Operand} (ho : oi.op = .load t x) {v : Value} {w : World} (h : (Instr.loadAt t (a.eval x)).run P w = .ok v w) : (execOp a.eval oi).run P w = .ok (.value v) w := by
  unfold execOp
  simp only [ho, Sem.run_bind, h, Result.andThen_ok]
  rfl
theorem rangeAt_below {w w' : World} {b o : Nat} {cs : List Value} (h : w.rangeAt b o cs) (hb : Below w.heap.size w w') : w'.rangeAt b o cs := fun j v hv => (hb.cell (World.block_lt_of_cell? w _ (h j v hv))).trans (h j v hv)
/-- a timer -/
structure Tm where
  id : Int
  at_ : Nat
  ord : Nat
abbrev tmv (t : Tm) : List Value := [.int .i64 t.id, .int .u64 (t.at_ : Int), .int .u64 (t.ord : Int)]
abbrev tma (t : Tm) : Value := .agg #[.int .i64 t.id, .int .u64 (t.at_ : Int), .int .u64 (t.ord : Int)]
abbrev tTm : TypeId := 64
abbrev tTms : TypeId := 53
/-- entries that can be read -/
def RdM (w : World) (ao : Option Addr) (xs : List Tm) : Prop := ∀ j (hj : j < xs.length), ∃ b o, ao = some ⟨b, o, none⟩ ∧ w.rangeAt b (o + j * 3) (tmv xs[j]) ∧ ∃ cur fr, w.heap[b]? = some (.cells cur tTm fr)
theorem RdM.below {w w' : World} {ao : Option Addr} {xs : List Tm} (h : RdM w ao xs) (hb : Below w.heap.size w w') : RdM w' ao xs := fun j hj => by
  obtain ⟨b, o, h1, h2, cur, fr, h3⟩ := h j hj
  exact ⟨b, o, h1, rangeAt_below h2 hb, cur, fr, (hb.block b (Array.getElem?_eq_some_iff.1 h3).1).trans h3⟩
def flatM (xs : List Tm) : List Value := xs.flatMap tmv
theorem flatM_len (xs : List Tm) : (flatM xs).length = xs.length * 3 := by
  induction xs with
  | nil => rfl
  | cons x xs ih =>
    unfold flatM at *
    rw [List.flatMap_cons, List.length_append, ih]
    simp
    omega
theorem flatM_app (xs ys : List Tm) : flatM (xs ++ ys) = flatM xs ++ flatM ys := by simp [flatM]
theorem flatM_one (x : Tm) : flatM [x] = tmv x := by simp [flatM]
theorem flatM_get : ∀ (xs : List Tm) (j q : Nat) (h : j < xs.length) (_ : q < 3), (flatM xs)[j * 3 + q]? = (tmv xs[j])[q]?
  | [], j, _, h, _ => by cases h
  | x :: xs, 0, q, _, hq => by
    have e : flatM (x :: xs) = tmv x ++ flatM xs := by simp [flatM]
    rw [e, List.getElem?_append_left (by simp; omega)]
    simp
  | x :: xs, j + 1, q, h, hq => by
    have h1 := flatM_get xs j q (by simpa using h) hq
    have e : flatM (x :: xs) = tmv x ++ flatM xs := by simp [flatM]
    rw [e, List.getElem?_append_right (by simp; omega)]
    rw [show (j + 1) * 3 + q - (tmv x).length = j * 3 + q by simp; omega, h1]
    rfl
theorem flatM_one' (xs : List Tm) : ∀ u ∈ flatM xs, u.oneCell' = true := by
  intro u hu
  obtain ⟨x, -, hx⟩ := List.mem_flatMap.1 hu
  simp at hx
  rcases hx with rfl | rfl | rfl <;> rfl
def OwnM (w : World) (B : Nat) (v : Value) (xs : List Tm) : Prop := w.ownsRow B tTm 3 v xs.length (flatM xs)
theorem OwnM.below {w w' : World} {B : Nat} {v : Value} {xs : List Tm} (h : OwnM w B v xs) (hb : Below w.heap.size w w') : OwnM w' B v xs := by
  refine ⟨h.1, ?_⟩
  rcases h.2 with h0 | ⟨g, cap, cur, e, hB, hg, r⟩
  · exact .inl h0
  · exact .inr ⟨g, cap, cur, e, hB, (hb.block g (Array.getElem?_eq_some_iff.1 hg).1).trans hg, r⟩
theorem OwnM.rd {w : World} {B g cap : Nat} {xs : List Tm} (h : OwnM w B (.slice (some ⟨g, 0, none⟩) xs.length cap) xs) : RdM w (some ⟨g, 0, none⟩) xs := fun j hj => by
  have hblk : ∃ cur fr, w.heap[g]? = some (.cells cur tTm fr) := by
    rcases h.2 with ⟨e, -⟩ | ⟨g', cap', cur, e, -, hg, -⟩
    · cases e
    · cases e; exact ⟨cur, _, hg⟩
  refine ⟨g, 0, rfl, fun q v hv => ?_, hblk⟩
  have hq : q < 3 := by have := (List.getElem?_eq_some_iff.1 hv).1; simpa using this
  rw [Nat.zero_add, World.ownsRow.cellAt h _ (by omega), flatM_get xs j q hj hq]
  exact hv
theorem OwnM.val {w : World} {B : Nat} {v : Value} {xs : List Tm} (h : OwnM w B v xs) : ∃ a c, v = .slice a xs.length c ∧ xs.length ≤ c ∧ (a = none → c = 0) ∧ RdM w a xs := by
  have h' := h
  rcases h.2 with ⟨rfl, h0⟩ | ⟨g, cap, cur, rfl, hB, hg, hn, hm, r⟩
  · obtain rfl : xs = [] := List.eq_nil_of_length_eq_zero h0
    exact ⟨none, 0, rfl, Nat.le_refl _, fun _ => rfl, fun j hj => absurd hj (Nat.not_lt_zero _)⟩
  · exact ⟨_, cap, rfl, hn, (fun h => by cases h), OwnM.rd h'⟩
theorem infoM : (Tryd.prog.info? tTm).map (fun i => (i.zero, i.size, i.bytes)) = some (some (.agg #[.int .i64 0, .int .u64 0, .int .u64 0]), 3, 24) := by kernel_rfl
/-- append of entries that can be read -/
theorem wp_appM {w : World} {ops : Array Oper} {rest : List Oper} {o : Oper} {a : Act} {Q : Exit → Act → World → Prop} (hgd : o.guard = none) (s x : Operand)
    (ho : o.op = .call { callee := .builtin .append, args := #[s, x], argTypes := #[tTms, tTms] }) (B : Nat) (v : Value) (xs ys : List Tm) (n : Nat) (ao : Option Addr) (cap : Nat) (hn : n = ys.length)
    (hs : a.eval s = v) (hown : OwnM w B v xs) (hx : a.eval x = .slice ao n cap) (hr : RdM w ao ys) (hnil : ao = none → cap = 0)
    (hb : xs.length + n ≤ 4398046511104) (hbase : B ≤ w.heap.size)
    (h : ∀ v' w', OwnM w' B v' (xs ++ ys) → w.grownBy w' v.ownBlock → wpList Tryd.prog ops Q rest (a.put o.dst v') w') : wpList Tryd.prog ops Q (o :: rest) a w := by
  subst hn
  obtain ⟨i0, hi, hz0, hz1, hz2⟩ := info_parts infoM
  rcases ao with _ | ad
  · have h0 : ys = [] := by
      rcases ys with _ | ⟨y, ys⟩
      · rfl
      · obtain ⟨b, o, h1, _⟩ := hr 0 (by simp); cases h1
    subst h0
    obtain rfl := hnil rfl
    refine wpList_append_own_none hgd s x tTms ho B tTm i0 3 Tryd.underlying53 hi v xs.length (flatM xs) hs hown hx ?_
    exact h v w (by simpa using hown) ⟨rfl, rfl, rfl, Nat.le_refl _, fun _ _ _ => rfl⟩
  · refine wpList_append_own w hgd s x tTms ho B tTm i0 _ 3 24 Tryd.underlying53 hi hz0 hz1 hz2 rfl (by decide) v xs.length (flatM xs) hs hown ad ys.length cap (flatM ys) hx (flatM_len ys) ?_ (flatM_one' ys) (by simp only [maxLen]; omega) (by omega) hbase ?_
    · intro j u hj
      have hlt : j < ys.length * 3 := by
        have := (List.getElem?_eq_some_iff.1 hj).1
        rw [flatM_len] at this
        exact this
      obtain ⟨b, o, h1, h2, -⟩ := hr (j / 3) (by omega)
      cases h1
      rw [Go.WideShapes.add_plain]
      have f1 := flatM_get ys (j / 3) (j % 3) (by omega) (by omega)
      rw [show j / 3 * 3 + j % 3 = j by omega, hj] at f1
      have h3 := h2 (j % 3) u f1.symm
      rw [show o + j / 3 * 3 + j % 3 = o + j by omega] at h3
      exact h3
    · intro v' w' h1 h2 _
      refine h v' w' ?_ h2
      unfold OwnM
      rw [List.length_append, flatM_app]
      exact h1
end Go.Proofs.YtnfikcegmicooabDoor
