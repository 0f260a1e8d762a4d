import Derived.Test.YtdpkommmkcmifaaTrM
import Derived.Test.YtdpkommmkcmifaaOpenG
namespace Go.Proofs.Ytdpkommmkcmifaa
set_option linter.unusedVariables false
set_option linter.unusedSimpArgs false
open Go.RowKit
/-- what is opened on the way is the frame -/
theorem TrOk.opens {fl tt s fr tm sq lf : Nat} {h a d : List UInt8} (k : TrOk fl tt s fr tm sq lf h a d) (hodd : fl % 2 = 1) {st : Int} {tm' sq' lf' : Nat} {xs : List UInt8} {fr' : Nat} {nw : Bool} {n : Int} (o : OpenIs (trB fl tt s fr tm sq lf h a d) st tm' sq' lf' xs fr' nw n) :
    n = 0 ∧ st = (s : Nat) ∧ tm' = tm ∧ sq' = sq ∧ lf' = lf ∧ xs = d ∧ fr' = fr ∧ nw = decide (fl / 2 % 2 = 1) := by
  have hc : carS (trB fl tt s fr tm sq lf h a d) = true := by
    unfold carS trB
    simp [hodd, k.s]
  rcases o with ⟨o1, o2, -⟩ | ⟨-, o2, -⟩ | ⟨-, -, o3, o4, o5, o6, o7, o8, o9, o10⟩
  · exact absurd (o1.same k.valid) o2
  · rw [hc] at o2; cases o2
  · exact ⟨o3, o4, o5, o6, o7, o8, o9, o10⟩
end Go.Proofs.Ytdpkommmkcmifaa
