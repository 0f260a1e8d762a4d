import Derived.Test.YtpakkpahcpgnnaaGreatDoorVWhZ
set_option linter.unusedVariables false
set_option linter.unusedSimpArgs false
namespace Go.Proofs.YtpakkpahcpgnnaaGreatDoor
open Go.RowKit Go.Maps
abbrev mxX : Nat := 281474976710655
structure Xe where
 n : Nat
 k : Fk
 o : Nat
 ov : Nat
 at_ : Nat
structure Xs where
 mtu : Nat
 ack : Nat
 ep : Nat
 clk : Nat
 beg : Nat
 N : Nat
 L : List Xe
def goodK (k : Fk) : Prop := 0 ≤ k.1 ∧ k.1 < 8 ∧ k.2 ≤ mxX
theorem chgW {F : Nat → Prop} {w w' : World} (h : Wh.Chg F w w') : Chg F w w' := ⟨h.os, h.tape, h.output, h.size, h.block⟩
theorem chgV {F : Nat → Prop} {w w' : World} (h : Chg F w w') : Wh.Chg F w w' := ⟨h.os, h.tape, h.output, h.size, h.block⟩
section
variable {w w' : World} {p ms mn pw mw : Nat} {V V' V'' : Nat → Nat → Value} {s : Xs} {W : List Wh.Tm}
end
end Go.Proofs.YtpakkpahcpgnnaaGreatDoor
