import Derived.Test.YtpakkpahcpgnnaaGreatDoorVWhJ
import Derived.Test.YtpakkpahcpgnnaaGreatDoorCards
import Derived.Test.YtpakkpahcpgnnaaGreatDoorTie
import Derived.Deep.DeepHandedRow
import Derived.Lib.LaidTab
set_option linter.unusedVariables false
set_option linter.unusedSimpArgs false
namespace Go.Proofs.YtpakkpahcpgnnaaGreatDoor
open Go.ChangeShapes Go.WideShapes Go.ChangeAt Go.RowKit
def tabName : String := (Rows.freightOwnRow.named).headD default
theorem gTab : Tryz.prog.globalNamed tabName = some 0 := by kernel_rfl
theorem gTabType : (Tryz.prog.globals[0]?).map (·.type) = some 266 := by kernel_rfl
theorem cellsTab : Tryz.prog.cellsOf 266 = 64 := by kernel_rfl
theorem cellsU8 : Tryz.prog.cellsOf 5 = 1 := by kernel_rfl
def tabI : List Int := Go.Lib.deBruijn64tab.map Int.ofNat
theorem tabOk_of {W : World} {row : OpenClaim} (hrow : row.laid = [(tabName, Rows.laid_math_bits_deBruijn64tab)]) (h : laidMetH Tryz.prog row.laid W) : Wh.TabZ W := by
 rw [hrow] at h
 have ht : Lib.TabIs Tryz.prog W tabName .u8 tabI :=
  Lib.tabIs_of_head (rest := []) gTab gTabType Tryz.underlying266 Tryz.underlying5 cellsU8 cellsTab h
 intro j hj; have h1 := ht.cell gTab j (by show j < 64; exact hj); rw [h1]
 congr 2
 unfold tabI; rw [List.getD_eq_getElem?_getD, List.getD_eq_getElem?_getD, List.getElem?_map]; cases Go.Lib.deBruijn64tab[j]? <;> rfl
end Go.Proofs.YtpakkpahcpgnnaaGreatDoor
