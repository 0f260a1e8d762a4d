import Derived.Test.YtnpcgegcoakbmaaDoorSeal
namespace Go.Proofs.YtnpcgegcoakbmaaDoor
set_option linter.unusedVariables false
set_option linter.unusedSimpArgs false
open Go.RowKit
def unS (xs : List UInt8) : List UInt8 × Nat :=
  if xs.length < 4 then ([], 10) else if xs.drop (xs.length - 4) = sealL (xs.take (xs.length - 4)) then (xs.take (xs.length - 4), 0) else ([], 13)
end Go.Proofs.YtnpcgegcoakbmaaDoor
