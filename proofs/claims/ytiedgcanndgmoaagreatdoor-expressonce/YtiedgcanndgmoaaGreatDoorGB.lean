import Derived.Test.YtiedgcanndgmoaaGreatDoorRgP
import Derived.Test.YtiedgcanndgmoaaGreatDoorXK
import Derived.Deep.MidRow
import Derived.Deep.WholeRow
import Derived.Laws.CopyOwn
import Derived.OwnWalk
import Derived.Laws.MakeOwn
import Derived.Deep.AppendLies
import Derived.Laws.AppendOwnNone
namespace Go.Proofs.YtiedgcanndgmoaaGreatDoor
set_option linter.unusedVariables false
set_option linter.unusedSimpArgs false
open Go.RowKit
theorem al {w w1 : World} (h : Below w.heap.size w w1) (o : Obj) : Below w.heap.size w (w1.alloc o) := h.alloc h.size o
theorem exec_load {P : Program} {a : Act} {oi : Oper} {t : TypeId} {x : Operand} (ho : oi.op = .load t x) {v : Value} {w : World} (h : (Instr.loadAt t (a.eval x)).run P w = .ok v w) : (execOp a.eval oi).run P w = .ok (.value v) w := by
  unfold execOp
  simp only [ho, Sem.run_bind, h, Result.andThen_ok]
  rfl
theorem rangeAt_below {w w' : World} {b o : Nat} {cs : List Value} (h : w.rangeAt b o cs) (hb : Below w.heap.size w w') : w'.rangeAt b o cs := fun j v hv => (hb.cell (World.block_lt_of_cell? w _ (h j v hv))).trans (h j v hv)
/-- a range's cells -/
abbrev rv (x : Rg) : List Value := [.int .i64 x.1, .int .i64 x.2]
def flatR (xs : List Rg) : List Value := xs.flatMap rv
theorem flatR_get : ∀ (xs : List Rg) (j : Nat) (h : j < xs.length), (flatR xs)[j * 2]? = some (.int .i64 xs[j].1) ∧ (flatR xs)[j * 2 + 1]? = some (.int .i64 xs[j].2)
  | [], j, h => by cases h
  | x :: xs, 0, _ => by simp [flatR]
  | x :: xs, j + 1, h => by
    have h1 := flatR_get xs j (by simpa using h)
    have e : flatR (x :: xs) = .int .i64 x.1 :: .int .i64 x.2 :: flatR xs := by simp [flatR]
    rw [e, show (j + 1) * 2 = j * 2 + 1 + 1 from by omega]
    simpa using h1
/-- ranges that can be read -/
def RdR (w : World) (ao : Option Addr) (xs : List Rg) : Prop := ∀ j (hj : j < xs.length), ∃ b o, ao = some ⟨b, o, none⟩ ∧ w.cell? ⟨b, o + j * 2, none⟩ = some (.int .i64 xs[j].1) ∧ w.cell? ⟨b, o + j * 2 + 1, none⟩ = some (.int .i64 xs[j].2)
theorem RdR.below {w w' : World} {ao : Option Addr} {xs : List Rg} (h : RdR w ao xs) (hb : Below w.heap.size w w') : RdR w' ao xs := fun j hj => by
  obtain ⟨b, o, h1, h2, h3⟩ := h j hj
  exact ⟨b, o, h1, (hb.cell (p := ⟨b, o + j * 2, none⟩) (World.block_lt_of_cell? w _ h2)).trans h2, (hb.cell (p := ⟨b, o + j * 2 + 1, none⟩) (World.block_lt_of_cell? w _ h3)).trans h3⟩
theorem RdR.range {w : World} {b o : Nat} {xs : List Rg} (h : RdR w (some ⟨b, o, none⟩) xs) (j : Nat) (hj : j < xs.length) : w.rangeAt b (o + j * 2) (rv xs[j]) := by
  obtain ⟨b', o', h1, h2, h3⟩ := h j hj
  cases h1
  intro k u hk
  match k with
  | 0 => simp at hk; subst hk; simpa using h2
  | 1 => simp at hk; subst hk; simpa using h3
  | k + 2 => simp at hk
def OwnR (w : World) (B : Nat) (v : Value) (xs : List Rg) : Prop := w.ownsRow B 134 2 v xs.length (flatR xs)
theorem OwnR.nil (w : World) (B : Nat) : OwnR w B (.slice none 0 0) [] := World.ownsRow_nil _ _ _ _
theorem OwnR.below {w w' : World} {B : Nat} {v : Value} {xs : List Rg} (h : OwnR w B v xs) (hb : Below w.heap.size w w') : OwnR w' B v xs := by
  refine ⟨h.1, ?_⟩
  rcases h.2 with h0 | ⟨g, cap, cur, e, hB, hg, r⟩
  · exact .inl h0
  · exact .inr ⟨g, cap, cur, e, hB, (hb.block g (Array.getElem?_eq_some_iff.1 hg).1).trans hg, r⟩
theorem OwnR.base {w : World} {B B' : Nat} {v : Value} {xs : List Rg} (h : OwnR w B v xs) (hB : B' ≤ B) : OwnR w B' v xs := by
  refine ⟨h.1, ?_⟩
  rcases h.2 with h0 | ⟨g, cap, cur, e, hg, r⟩
  · exact .inl h0
  · exact .inr ⟨g, cap, cur, e, Nat.le_trans hB hg, r⟩
theorem OwnR.rd {w : World} {B g cap : Nat} {xs : List Rg} (h : OwnR w B (.slice (some ⟨g, 0, none⟩) xs.length cap) xs) : RdR w (some ⟨g, 0, none⟩) xs := fun j hj => by
  obtain ⟨h1, h2⟩ := flatR_get xs j hj
  exact ⟨g, 0, rfl, by rw [Nat.zero_add, World.ownsRow.cellAt h _ (by omega), h1], by rw [Nat.zero_add, World.ownsRow.cellAt h _ (by omega), h2]⟩
theorem OwnR.val {w : World} {B : Nat} {v : Value} {xs : List Rg} (h : OwnR w B v xs) : ∃ a c, v = .slice a xs.length c ∧ xs.length ≤ c ∧ c ≤ maxLen ∧ (a = none → c = 0) ∧ RdR w a xs ∧ (∀ q, a = some q → q.off = 0 ∧ q.spot = none ∧ B ≤ q.block ∧ q.block < w.heap.size) := by
  have hlt := World.ownsRow.lt h
  have h' := h
  rcases h.2 with ⟨rfl, h0⟩ | ⟨g, cap, cur, rfl, hB, hg, hn, hm, r⟩
  · obtain rfl : xs = [] := List.eq_nil_of_length_eq_zero h0
    exact ⟨none, 0, rfl, Nat.le_refl _, Nat.zero_le _, fun _ => rfl, fun j hj => absurd hj (Nat.not_lt_zero _), fun q hq => by cases hq⟩
  · exact ⟨_, cap, rfl, hn, hm, (fun h => by cases h), OwnR.rd h', fun q hq => by cases hq; exact ⟨rfl, rfl, hlt g rfl⟩⟩
theorem info_rg : (Tryz.prog.info? 134).map (fun i => (i.zero, i.size)) = some (some (.agg #[.int .i64 0, .int .i64 0]), 2) := by kernel_rfl
theorem rd_lit1 (w : World) (x : Rg) : RdR (w.alloc (.cells #[.int .i64 x.1, .int .i64 x.2] 134 (0, 0))) (some ⟨w.heap.size, 0, none⟩) [x] := fun j hj => by
  obtain rfl : j = 0 := by simp at hj; omega
  refine ⟨_, 0, rfl, ?_, ?_⟩
  · rw [cell_of_row _ _ _ _ _ _ (heap_alloc_new w _)]; rfl
  · rw [cell_of_row _ _ _ _ _ _ (heap_alloc_new w _)]; rfl
end Go.Proofs.YtiedgcanndgmoaaGreatDoor
