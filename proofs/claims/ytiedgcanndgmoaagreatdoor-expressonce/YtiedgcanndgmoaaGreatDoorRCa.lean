import Derived.Test.YtiedgcanndgmoaaGreatDoorCH
import Derived.Test.YtiedgcanndgmoaaGreatDoorRL
namespace Go.Proofs.YtiedgcanndgmoaaGreatDoor
set_option linter.unusedVariables false
set_option linter.unusedSimpArgs false
open Go.RowKit
section
variable {w w' w1 : World} {B : Nat} {v : Value} {E : List Dc} {T : List (List UInt8)}
theorem Lists.cellAt {g n c : Nat} (h : Lists w B (.slice (some ⟨g, 0, none⟩) n c) E T) (hn : n = E.length) {i : Nat} {d : Dc} (hd : E[i]? = some d) : w.cell? ⟨g, i, none⟩ = some d.v := by
  obtain ⟨hi, e⟩ := List.getElem?_eq_some_iff.1 hd
  have := h.row.cell hn i 0 hi (by decide)
  rw [e] at this
  simpa using this
end
end Go.Proofs.YtiedgcanndgmoaaGreatDoor
