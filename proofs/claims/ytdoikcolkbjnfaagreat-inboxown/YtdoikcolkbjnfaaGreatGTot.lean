import Derived.Test.YtdoikcolkbjnfaaGreatGEnd
namespace Go.Proofs.YtdoikcolkbjnfaaGreat
set_option linter.unusedVariables false
set_option linter.unusedSimpArgs false
open Go.RowKit
def LeastOut (xs : List Rg) (w : World) (e : Ending) (w' : World) : Prop := ∃ (v : Value) (out : List Rg), e = .returned v ∧ OwnR w' w.heap.size v out ∧ Lst out ∧ (∀ i, hasR out i ↔ hasR xs i) ∧ out.length ≤ xs.length ∧ Below w.heap.size w w'
theorem LI.start {xs : List Rg} (h : RI xs) : LI xs [] (-9223372036854775808) := ⟨Lst.nil, by simp, (fun h => absurd rfl h), fun i hi => ⟨fun h9 => absurd h9 (hasR_nil i), fun ⟨x, hx, h1, _⟩ => by have := (h x hx).1.1; omega⟩⟩
section
set_option maxRecDepth 20000
set_option maxHeartbeats 1600000
end
end Go.Proofs.YtdoikcolkbjnfaaGreat
namespace Go.Proofs.YtdoikcolkbjnfaaGreat
set_option linter.unusedVariables false
set_option linter.unusedSimpArgs false
open Go.RowKit
theorem LeastOut.base {xs : List Rg} {w0 w : World} {e : Ending} {w' : World} (h : LeastOut xs w e w') (hb : Below w0.heap.size w0 w) : LeastOut xs w0 e w' := by
  obtain ⟨v, out, h1, h2, h3, h4, h5, h6⟩ := h
  exact ⟨v, out, h1, h2.base hb.size, h3, h4, h5, below_next hb h6⟩
section
set_option maxRecDepth 20000
set_option maxHeartbeats 1600000
end
end Go.Proofs.YtdoikcolkbjnfaaGreat
namespace Go.Proofs.YtdoikcolkbjnfaaGreat
set_option linter.unusedVariables false
set_option linter.unusedSimpArgs false
open Go.RowKit
section
set_option maxRecDepth 20000
set_option maxHeartbeats 1600000
end
end Go.Proofs.YtdoikcolkbjnfaaGreat
