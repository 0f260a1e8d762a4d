import Derived.Test.YtmjhbckedagjjabGEnd
namespace Go.Proofs.Ytmjhbckedagjjab
set_option linter.unusedVariables false
set_option linter.unusedSimpArgs false
open Go.RowKit
theorem cntR_le (l : List Rg) (a : Int) : cntR l a ≤ l.length := List.countP_le_length
def LeastOut (xs : List Rg) (w : World) (e : Ending) (w' : World) : Prop := ∃ (v : Value) (out : List Rg), e = .returned v ∧ OwnR w' w.heap.size v out ∧ Lst out ∧ (∀ i, hasR out i ↔ hasR xs i) ∧ out.length ≤ xs.length ∧ Below w.heap.size w w'
def okN (l : List Rg) : Value → Value → Nat
  | f, .bool true => cntR l (intOf f) + 1
  | _, _ => 0
theorem okN_t (l : List Rg) (f : Int) : okN l (.int .i64 f) (.bool true) = cntR l f + 1 := rfl
theorem okN_f (l : List Rg) (f : Int) : okN l (.int .i64 f) (.bool false) = 0 := rfl
theorem LI.start {xs : List Rg} (h : RI xs) : LI xs [] (-9223372036854775808) := ⟨Lst.nil, by simp, (fun h => absurd rfl h), fun i hi => ⟨fun h9 => absurd h9 (hasR_nil i), fun ⟨x, hx, h1, _⟩ => by have := (h x hx).1.1; omega⟩⟩
section
set_option maxRecDepth 20000
set_option maxHeartbeats 1600000
end
end Go.Proofs.Ytmjhbckedagjjab
