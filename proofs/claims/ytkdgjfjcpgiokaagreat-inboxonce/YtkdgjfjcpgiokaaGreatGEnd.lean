import Derived.Test.YtkdgjfjcpgiokaaGreatNum
namespace Go.Proofs.YtkdgjfjcpgiokaaGreat
set_option linter.unusedVariables false
set_option linter.unusedSimpArgs false
open Go.RowKit
/-- has it the number? -/
def hasB (l : List Rg) (i : Int) : Bool := l.any fun x => decide (x.1 ≤ i ∧ i < x.2)
theorem hasB_take {l : List Rg} {i : Int} {k : Nat} (hk : k < l.length) : hasB (l.take (k + 1)) i = (hasB (l.take k) i || decide (l[k].1 ≤ i ∧ i < l[k].2)) := by
  unfold hasB
  rw [List.take_succ_eq_append_getElem hk, List.any_append]
  simp
theorem hasB_all {l : List Rg} {i : Int} {k : Nat} (hk : l.length ≤ k) : hasB (l.take k) i = hasB l i := by rw [List.take_of_length_le hk]
theorem hasB_in {l : List Rg} {i : Int} {k : Nat} (hk : k < l.length) (h : l[k].1 ≤ i ∧ i < l[k].2) : hasB l i = true := by
  unfold hasB
  rw [List.any_eq_true]
  exact ⟨l[k], List.getElem_mem hk, by simpa using h⟩
section
set_option maxRecDepth 20000
set_option maxHeartbeats 800000
theorem empty_t (a b : Int) (w : World) : Calls Tryz.prog 86 #[.agg #[.int .i64 a, .int .i64 b]] w fun e w' => e = .returned (.bool (decide (b ≤ a))) ∧ Below w.heap.size w w' := by
  go_enter Tryz.func86, Tryz.ntmps86
  go_wp2
  go_ret
  exact ⟨rfl, al (Below.refl _ _) _⟩
end
end Go.Proofs.YtkdgjfjcpgiokaaGreat
namespace Go.Proofs.YtkdgjfjcpgiokaaGreat
set_option linter.unusedVariables false
set_option linter.unusedSimpArgs false
open Go.RowKit
def I64 (n : Int) : Prop := -9223372036854775808 ≤ n ∧ n ≤ 9223372036854775807
def RI (l : List Rg) : Prop := ∀ x ∈ l, I64 x.1 ∧ I64 x.2
theorem max_if (a b : Int) : (if a < b then b else a) = max a b := by split <;> omega
def NextOut (xs : List Rg) (at_ : Int) (w : World) (e : Ending) (w' : World) : Prop := ∃ (f : Int) (ok : Bool), e = .returned (.tuple #[.int .i64 f, .bool ok]) ∧ NextS xs at_ f ok ∧ Below w.heap.size w w'
section
set_option maxRecDepth 20000
set_option maxHeartbeats 1600000
end
end Go.Proofs.YtkdgjfjcpgiokaaGreat
namespace Go.Proofs.YtkdgjfjcpgiokaaGreat
set_option linter.unusedVariables false
set_option linter.unusedSimpArgs false
open Go.RowKit
def mvN : Value → Nat
  | .bool true => 1
  | _ => 0
section
set_option maxRecDepth 20000
set_option maxHeartbeats 1600000
end
end Go.Proofs.YtkdgjfjcpgiokaaGreat
