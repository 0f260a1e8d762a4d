import Derived.Test.YtmjhbckedagjjabGNext
namespace Go.Proofs.Ytmjhbckedagjjab
set_option linter.unusedVariables false
set_option linter.unusedSimpArgs false
open Go.RowKit
def mvN : Value → Nat
  | .bool true => 1
  | _ => 0
section
set_option maxRecDepth 20000
set_option maxHeartbeats 1600000
end
end Go.Proofs.Ytmjhbckedagjjab
