import Derived.Test.YtiedgcanndgmoaaGreatDoorLfsr
import Derived.Test.YtiedgcanndgmoaaGreatDoorHelp
namespace Go.Proofs.YtiedgcanndgmoaaGreatDoor
set_option linter.unusedVariables false
set_option linter.unusedSimpArgs false
open Go.RowKit
/-- the seal: the sum's four bytes, the lowest first -/
def sealL (xs : List UInt8) : List UInt8 := [UInt8.ofNat (crcS xs % 256), UInt8.ofNat (crcS xs / 256 % 256), UInt8.ofNat (crcS xs / 65536 % 256), UInt8.ofNat (crcS xs / 16777216 % 256)]
theorem Rd.of_own {w : World} {B : Nat} {ao : Option Addr} {n cap : Nat} {xs : List UInt8} (h : Own w B (.slice ao n cap) xs) : Rd w ao xs := by
  obtain ⟨a, c, hv, -, -, -, hr, -⟩ := h.val
  simp only [Value.slice.injEq] at hv
  rw [hv.1]
  exact hr
end Go.Proofs.YtiedgcanndgmoaaGreatDoor
