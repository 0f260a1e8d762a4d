import Derived.Test.YtmjhbckedagjjabGB
namespace Go.Proofs.Ytmjhbckedagjjab
set_option linter.unusedVariables false
set_option linter.unusedSimpArgs false
open Go.RowKit
/-- has it the number? -/
def hasB (l : List Rg) (i : Int) : Bool := l.any fun x => decide (x.1 ≤ i ∧ i < x.2)
theorem hasB_take {l : List Rg} {i : Int} {k : Nat} (hk : k < l.length) : hasB (l.take (k + 1)) i = (hasB (l.take k) i || decide (l[k].1 ≤ i ∧ i < l[k].2)) := by
  unfold hasB
  rw [List.take_succ_eq_append_getElem hk, List.any_append]
  simp
theorem hasB_all {l : List Rg} {i : Int} {k : Nat} (hk : l.length ≤ k) : hasB (l.take k) i = hasB l i := by rw [List.take_of_length_le hk]
theorem hasB_in {l : List Rg} {i : Int} {k : Nat} (hk : k < l.length) (h : l[k].1 ≤ i ∧ i < l[k].2) : hasB l i = true := by
  unfold hasB
  rw [List.any_eq_true]
  exact ⟨l[k], List.getElem_mem hk, by simpa using h⟩
section
set_option maxRecDepth 20000
set_option maxHeartbeats 800000
theorem empty_t (a b : Int) (w : World) : Calls Try.prog 48 #[.agg #[.int .i64 a, .int .i64 b]] w fun e w' => e = .returned (.bool (decide (b ≤ a))) ∧ Below w.heap.size w w' := by
  go_enter Try.func48, Try.ntmps48
  go_wp2
  go_ret
  exact ⟨rfl, al (Below.refl _ _) _⟩
end
end Go.Proofs.Ytmjhbckedagjjab
