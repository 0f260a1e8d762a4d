import Derived.Test.YtnhjkipaclchiaaBase
import Derived.Test.YtnhjkipaclchiaaRegn
import Derived.Deep.MidRow
import Derived.Deep.WholeRow
import Derived.Laws.CopyOwn
import Derived.OwnWalk
import Derived.Laws.MakeOwn
import Derived.Deep.AppendLies
import Derived.Laws.AppendOwnNone
namespace Go.Proofs.Ytnhjkipaclchiaa
set_option linter.unusedVariables false
set_option linter.unusedSimpArgs false
open Go.RowKit
theorem al {w w1 : World} (h : Below w.heap.size w w1) (o : Obj) : Below w.heap.size w (w1.alloc o) := h.alloc h.size o
theorem exec_load {P : Program} {a : Act} {oi : Oper} {t : TypeId} {x : Operand} (ho : oi.op = .load t x) {v : Value} {w : World} (h : (Instr.loadAt t (a.eval x)).run P w = .ok v w) : (execOp a.eval oi).run P w = .ok (.value v) w := by
  unfold execOp
  simp only [ho, Sem.run_bind, h, Result.andThen_ok]
  rfl
theorem rangeAt_below {w w' : World} {b o : Nat} {cs : List Value} (h : w.rangeAt b o cs) (hb : Below w.heap.size w w') : w'.rangeAt b o cs := fun j v hv => (hb.cell (World.block_lt_of_cell? w _ (h j v hv))).trans (h j v hv)
/-- a stamp -/
abbrev St := Nat × Nat
def ltS (a b : St) : Bool := decide (a.1 < b.1) || (decide (a.1 = b.1) && decide (a.2 < b.2))
abbrev sv (s : St) : Value := .agg #[.int .u64 (s.1 : Int), .int .u64 (s.2 : Int)]
abbrev sc (s : St) : List Value := [.int .u64 (s.1 : Int), .int .u64 (s.2 : Int)]
theorem ltS_iff {a b : St} : ltS a b = true ↔ a.1 < b.1 ∨ (a.1 = b.1 ∧ a.2 < b.2) := by unfold ltS; simp
theorem ltS_no {a b : St} : ltS a b = false ↔ ¬ (a.1 < b.1 ∨ (a.1 = b.1 ∧ a.2 < b.2)) := by rw [← ltS_iff]; simp
theorem ltS_trans {a b c : St} (h : ltS a b = true) (k : ltS b c = true) : ltS a c = true := by
  rw [ltS_iff] at *; omega
theorem ltS_irrefl (a : St) : ltS a a = false := by rw [ltS_no]; omega
theorem ltS_tri {a b : St} (h : ltS a b = false) (k : ltS b a = false) : a = b := by
  rw [ltS_no] at *
  exact Prod.ext (by omega) (by omega)
theorem ltS_le_trans {a b c : St} (h : ltS a b = true) (k : ltS c b = false) : ltS a c = true := by
  rw [ltS_iff] at *; rw [ltS_no] at k; omega
/-- an entry -/
structure Ent where
  st : St
  n : Nat
abbrev Ent.v (e : Ent) : Value := .int .u64 (e.n : Int)
theorem Ent.ok (e : Ent) : e.v.oneCell' = true := rfl
abbrev ev (e : Ent) : List Value := [.int .u64 (e.st.1 : Int), .int .u64 (e.st.2 : Int), e.v]
abbrev ea (e : Ent) : Value := .agg #[.int .u64 (e.st.1 : Int), .int .u64 (e.st.2 : Int), e.v]
abbrev tEn : TypeId := 75
/-- entries that can be read -/
def RdE (w : World) (ao : Option Addr) (xs : List Ent) : Prop := ∀ j (hj : j < xs.length), ∃ b o, ao = some ⟨b, o, none⟩ ∧ w.rangeAt b (o + j * 3) (ev xs[j]) ∧ ∃ cur fr, w.heap[b]? = some (.cells cur tEn fr)
theorem RdE.below {w w' : World} {ao : Option Addr} {xs : List Ent} (h : RdE w ao xs) (hb : Below w.heap.size w w') : RdE w' ao xs := fun j hj => by
  obtain ⟨b, o, h1, h2, cur, fr, h3⟩ := h j hj
  exact ⟨b, o, h1, rangeAt_below h2 hb, cur, fr, (hb.block b (Array.getElem?_eq_some_iff.1 h3).1).trans h3⟩
set_option maxRecDepth 20000 in
theorem less_t (a b : St) (w : World) : Calls Try.prog 30 #[sv a, sv b] w fun e w' => e = .returned (.bool (ltS a b)) ∧ Below w.heap.size w w' := by
  obtain ⟨a1, a2⟩ := a
  obtain ⟨b1, b2⟩ := b
  go_enter Try.func30, Try.ntmps30
  by_cases h1 : a1 < b1
  · have h1i : (a1 : Int) < (b1 : Int) := by omega
    go_wp2
    go_ret
    exact ⟨by simp [ltS, h1], al (al (Below.refl _ _) _) _⟩
  · have h1i : ¬ (a1 : Int) < (b1 : Int) := by omega
    by_cases h2 : a1 = b1
    · subst h2
      by_cases h3 : a2 < b2
      · have h3i : (a2 : Int) < (b2 : Int) := by omega
        go_wp2
        go_ret
        exact ⟨by simp [ltS, h3], al (al (Below.refl _ _) _) _⟩
      · have h3i : ¬ (a2 : Int) < (b2 : Int) := by omega
        go_wp2
        go_ret
        exact ⟨by simp [ltS, h3], al (al (Below.refl _ _) _) _⟩
    · have h2i : ¬ (a1 : Int) = (b1 : Int) := by omega
      have h2b : ((a1 : Int) == (b1 : Int)) = false := by simpa using h2i
      go_wp2
      go_ret
      exact ⟨by simp [ltS, h1, h2], al (al (Below.refl _ _) _) _⟩
end Go.Proofs.Ytnhjkipaclchiaa
