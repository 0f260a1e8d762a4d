import Derived.Test.YtnpcgegcoakbmaaDoorEB
import Derived.Test.YtnpcgegcoakbmaaDoorConv
import Derived.Test.YtnpcgegcoakbmaaDoorCards
import Derived.Test.YtnpcgegcoakbmaaDoorTie
import Derived.Test.YtnpcgegcoakbmaaDoorOpen
import Derived.Deep.DeepHandedRow
import Derived.Lib.LaidTab
import Derived.ChangeSame
namespace Go.Proofs.YtnpcgegcoakbmaaDoor
set_option linter.unusedVariables false
set_option linter.unusedSimpArgs false
open Go.ChangeShapes Go.WideShapes Go.ChangeAt Go.RowKit
def tabNameZ : String := (Rows.etherNoneRow.named).headD default
theorem gTabZ : Tryd.prog.globalNamed tabNameZ = some 0 := by kernel_rfl
theorem gTabZType : (Tryd.prog.globals[0]?).map (·.type) = some 81 := by kernel_rfl
theorem cellsTabZ : Tryd.prog.cellsOf 81 = 32 := by kernel_rfl
theorem cellsU8z : Tryd.prog.cellsOf 5 = 1 := by kernel_rfl
def tabZI : List Int := Go.Lib.deBruijn32tab.map Int.ofNat
theorem tabZ_of {W : World} {row : OpenClaim} (hrow : row.laid = [(tabNameZ, Rows.laid_math_bits_deBruijn32tab)]) (h : laidMetH Tryd.prog row.laid W) : TabZ W := by
  rw [hrow] at h
  have ht : Lib.TabIs Tryd.prog W tabNameZ .u8 tabZI :=
    Lib.tabIs_of_head (rest := []) gTabZ gTabZType Tryd.underlying81 Tryd.underlying5 cellsU8z cellsTabZ h
  intro j hj
  have h1 := ht.cell gTabZ j (by show j < 32; exact hj)
  rw [h1]
  congr 2
  unfold tabZI
  rw [List.getD_eq_getElem?_getD, List.getD_eq_getElem?_getD, List.getElem?_map]
  cases Go.Lib.deBruijn32tab[j]? <;> rfl
end Go.Proofs.YtnpcgegcoakbmaaDoor
