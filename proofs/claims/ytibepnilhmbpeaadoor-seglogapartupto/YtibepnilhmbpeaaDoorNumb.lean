import Derived.Test.YtibepnilhmbpeaaDoorHelp
namespace Go.Proofs.YtibepnilhmbpeaaDoor
set_option linter.unusedVariables false
set_option linter.unusedSimpArgs false
open Go.RowKit

/-- the number that the digits say, from n on; none: 2^64 or more -/
def vl : Nat → List UInt8 → Option Nat
  | n, [] => some n
  | n, c :: r => if 144115188075855872 ≤ n then none else vl (n * 128 + c.toNat % 128) r
end Go.Proofs.YtibepnilhmbpeaaDoor
