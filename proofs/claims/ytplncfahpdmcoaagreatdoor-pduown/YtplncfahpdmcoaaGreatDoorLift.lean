import Derived.Test.YtplncfahpdmcoaaGreatDoorConv
import Derived.Test.YtplncfahpdmcoaaGreatDoorCards
import Derived.Test.YtplncfahpdmcoaaGreatDoorTie
import Derived.Test.YtplncfahpdmcoaaGreatDoorOpen
import Derived.Deep.DeepHandedRow
import Derived.Lib.LaidTab
namespace Go.Proofs.YtplncfahpdmcoaaGreatDoor
set_option linter.unusedVariables false
set_option linter.unusedSimpArgs false
open Go.ChangeShapes Go.WideShapes Go.ChangeAt Go.RowKit

def tabName : String := (Rows.pduOwnRow.named).headD default
theorem gTab : Tryz.prog.globalNamed tabName = some 0 := by kernel_rfl
theorem gTabType : (Tryz.prog.globals[0]?).map (·.type) = some 112 := by kernel_rfl
theorem cellsTab : Tryz.prog.cellsOf 112 = 16 := by kernel_rfl
theorem cellsU32 : Tryz.prog.cellsOf 94 = 1 := by kernel_rfl
theorem tabOk_of {W : World} {row : OpenClaim} (hrow : row.laid = [(tabName, Rows.laid_halyard_octet_sums)]) (h : laidMetH Tryz.prog row.laid W) : TabOk W := by
  rw [hrow] at h
  have ht : Lib.TabIs Tryz.prog W tabName .u32 tab :=
    Lib.tabIs_of_head (rest := []) gTab gTabType Tryz.underlying112 Tryz.underlying94 cellsU32 cellsTab h
  intro m
  have hlt : (m % 16).toNat < 16 := by omega
  exact ht.cell gTab (m % 16).toNat hlt
end Go.Proofs.YtplncfahpdmcoaaGreatDoor
