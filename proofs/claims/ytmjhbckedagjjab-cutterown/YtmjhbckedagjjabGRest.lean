import Derived.Test.YtmjhbckedagjjabGRLeast
namespace Go.Proofs.Ytmjhbckedagjjab
set_option linter.unusedVariables false
set_option linter.unusedSimpArgs false
open Go.RowKit
theorem RI.app {l m : List Rg} (h1 : RI l) (h2 : RI m) : RI (l ++ m) := fun x hx => by
  rcases List.mem_append.1 hx with h | h
  · exact h1 x h
  · exact h2 x h
def addL (l : List Rg) (i : Int) : List Rg := if i = 9223372036854775807 then l else l ++ [(i, i + 1)]
theorem LeastOut.base {xs : List Rg} {w0 w : World} {e : Ending} {w' : World} (h : LeastOut xs w e w') (hb : Below w0.heap.size w0 w) : LeastOut xs w0 e w' := by
  obtain ⟨v, out, h1, h2, h3, h4, h5, h6⟩ := h
  exact ⟨v, out, h1, h2.base hb.size, h3, h4, h5, below_next hb h6⟩
section
set_option maxRecDepth 20000
set_option maxHeartbeats 1600000
end
end Go.Proofs.Ytmjhbckedagjjab
