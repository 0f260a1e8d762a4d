import Derived.Test.YtibepnilhmbpeaaDoorKTg
import Derived.Test.YtibepnilhmbpeaaDoorCards
import Derived.Test.YtibepnilhmbpeaaDoorTie
import Derived.Test.YtibepnilhmbpeaaDoorOpen
import Derived.Deep.DeepHandedRow
import Derived.Lib.LaidTab
namespace Go.Proofs.YtibepnilhmbpeaaDoor
set_option linter.unusedVariables false
set_option linter.unusedSimpArgs false
open Go.ChangeShapes Go.WideShapes Go.ChangeAt Go.RowKit

def tabName : String := (Rows.seglogEndlessRow.named).headD default
theorem gTab : Tryd.prog.globalNamed tabName = some 0 := by kernel_rfl
theorem gTabType : (Tryd.prog.globals[0]?).map (·.type) = some 140 := by kernel_rfl
theorem cellsTab : Tryd.prog.cellsOf 140 = 16 := by kernel_rfl
theorem cellsU32 : Tryd.prog.cellsOf 138 = 1 := by kernel_rfl
theorem tabOk_of {W : World} {row : OpenClaim} (hrow : row.laid = [(tabName, Rows.laid_halyard_octet_sums)]) (h : laidMetH Tryd.prog row.laid W) : TabOk W := by
  rw [hrow] at h
  have ht : Lib.TabIs Tryd.prog W tabName .u32 tab :=
    Lib.tabIs_of_head (rest := []) gTab gTabType Tryd.underlying140 Tryd.underlying138 cellsU32 cellsTab h
  intro m
  have hlt : (m % 16).toNat < 16 := by omega
  exact ht.cell gTab (m % 16).toNat hlt
end Go.Proofs.YtibepnilhmbpeaaDoor
