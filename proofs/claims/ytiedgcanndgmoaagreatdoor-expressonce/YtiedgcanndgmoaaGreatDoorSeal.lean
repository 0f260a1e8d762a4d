import Derived.Test.YtiedgcanndgmoaaGreatDoorLfsr
import Derived.Test.YtiedgcanndgmoaaGreatDoorHelp
namespace Go.Proofs.YtiedgcanndgmoaaGreatDoor
set_option linter.unusedVariables false
set_option linter.unusedSimpArgs false
open Go.RowKit
/-- the seal: the sum's four bytes, the lowest first -/
def sealL (xs : List UInt8) : List UInt8 := [UInt8.ofNat (crcS xs % 256), UInt8.ofNat (crcS xs / 256 % 256), UInt8.ofNat (crcS xs / 65536 % 256), UInt8.ofNat (crcS xs / 16777216 % 256)]
end Go.Proofs.YtiedgcanndgmoaaGreatDoor
