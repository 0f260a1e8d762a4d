import Derived.Test.YtkdgjfjcpgiokaaGreatGTot
namespace Go.Proofs.YtkdgjfjcpgiokaaGreat
set_option linter.unusedVariables false
set_option linter.unusedSimpArgs false
open Go.RowKit
def MissOut (xs : List Rg) (m : Int) (w : World) (e : Ending) (w' : World) : Prop := ∃ (v : Value) (out : List Rg), e = .returned v ∧ OwnR w' w.heap.size v out ∧ MissS xs out m ∧ out.length ≤ xs.length + 1 ∧ Below w.heap.size w w'
theorem gapped_yes {out : List Rg} {a f : Int} (h : a < f) : gapped out a f = out ++ [(a, f)] := if_pos h
theorem gapped_no {out : List Rg} {a f : Int} (h : ¬ a < f) : gapped out a f = out := if_neg h
section
set_option maxRecDepth 20000
set_option maxHeartbeats 1600000
end
end Go.Proofs.YtkdgjfjcpgiokaaGreat
