import Derived.Test.YtmjhbckedagjjabGRest
namespace Go.Proofs.Ytmjhbckedagjjab
set_option linter.unusedVariables false
set_option linter.unusedSimpArgs false
open Go.RowKit
theorem sumU_snoc : ∀ (l : List Rg) (s : Int) (x : Rg), sumU s (l ++ [x]) = (sumU s l + (x.2 - x.1)) % 18446744073709551616
  | [], s, x => rfl
  | y :: l, s, x => sumU_snoc l _ x
theorem sumU_in : ∀ (l : List Rg) (s : Int), 0 ≤ s ∧ s < 18446744073709551616 → 0 ≤ sumU s l ∧ sumU s l < 18446744073709551616
  | [], s, h => h
  | y :: l, s, h => sumU_in l _ (by omega)
def totI (s : Int) : Int := if s > 9223372036854775807 then 9223372036854775807 else s
def TotOut (xs : List Rg) (w : World) (e : Ending) (w' : World) : Prop := ∃ out : List Rg, Lst out ∧ (∀ i, hasR out i ↔ hasR xs i) ∧ e = .returned (.int .i64 (totI (sumU 0 out))) ∧ Below w.heap.size w w'
theorem wrap_sub1 (s x1 x2 : Int) : IntKind.u64.wrap (IntKind.u64.wrap (s + IntKind.u64.wrap x2) - IntKind.u64.wrap x1) = (s + (x2 - x1)) % 18446744073709551616 := by
  simp only [IntKind.wrap_u64]
  omega
theorem wrap_sub2 (s x1 x2 : Int) : IntKind.u64.wrap (s + IntKind.u64.wrap (IntKind.u64.wrap x2 - IntKind.u64.wrap x1)) = (s + (x2 - x1)) % 18446744073709551616 := by
  simp only [IntKind.wrap_u64]
  omega
section
set_option maxRecDepth 20000
set_option maxHeartbeats 1600000
end
end Go.Proofs.Ytmjhbckedagjjab
