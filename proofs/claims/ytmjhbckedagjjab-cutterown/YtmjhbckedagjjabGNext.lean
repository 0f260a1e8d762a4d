import Derived.Test.YtmjhbckedagjjabGHas
namespace Go.Proofs.Ytmjhbckedagjjab
set_option linter.unusedVariables false
set_option linter.unusedSimpArgs false
open Go.RowKit
def I64 (n : Int) : Prop := -9223372036854775808 ≤ n ∧ n ≤ 9223372036854775807
def RI (l : List Rg) : Prop := ∀ x ∈ l, I64 x.1 ∧ I64 x.2
theorem max_if (a b : Int) : (if a < b then b else a) = max a b := by split <;> omega
def NextOut (xs : List Rg) (at_ : Int) (w : World) (e : Ending) (w' : World) : Prop := ∃ (f : Int) (ok : Bool), e = .returned (.tuple #[.int .i64 f, .bool ok]) ∧ NextS xs at_ f ok ∧ Below w.heap.size w w'
section
set_option maxRecDepth 20000
set_option maxHeartbeats 1600000
end
end Go.Proofs.Ytmjhbckedagjjab
