import Derived.Test.YtnfikcegmicooabDoorLwC
namespace Go.Proofs.YtnfikcegmicooabDoor
set_option linter.unusedVariables false
set_option linter.unusedSimpArgs false
open Go.RowKit Go.Maps Go.Shelf
def isMapNil (x : Option Value) : Bool := match x with
  | some (.map none) => true
  | _ => false
theorem isMapNil_eq {x : Option Value} (h : isMapNil x = true) : x = some (.map none) := by
  unfold isMapNil at h
  split at h
  · rfl
  · cases h
set_option maxRecDepth 100000 in
theorem zero_map : isMapNil Tryd.zeroCells60[522]? = true := by kernel_rfl
theorem u64_of {n : Int} (h : (Lit.int .u64 n).wf = true) : ∃ m : Nat, n = m ∧ m < 18446744073709551616 := by
  have h2 : 0 ≤ n ∧ n ≤ 18446744073709551615 := by simpa [Lit.wf, IntKind.min, IntKind.max, IntKind.signed, IntKind.bits] using h
  exact ⟨n.toNat, by omega, by omega⟩
theorem inI_of {n : Int} (h : (Lit.int .i64 n).wf = true) : inI n := by
  unfold inI
  simpa [Lit.wf, IntKind.min, IntKind.max, IntKind.signed, IntKind.bits] using h
end Go.Proofs.YtnfikcegmicooabDoor
