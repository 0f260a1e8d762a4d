import Derived.Test.YtdoikcolkbjnfaaGreatCuP
namespace Go.Proofs.YtdoikcolkbjnfaaGreat
set_option linter.unusedVariables false
set_option linter.unusedSimpArgs false
/-- a unit -/
structure Un where
  kind : Int
  ep : Int
  se : Int
  path : Int
  idx : Int
  cnt : Int
  data : List UInt8
  code : Int
  got : List Rg
def nameOk (n : Int) : Prop := 1 ≤ n ∧ n ≤ 281474976710655
end Go.Proofs.YtdoikcolkbjnfaaGreat
