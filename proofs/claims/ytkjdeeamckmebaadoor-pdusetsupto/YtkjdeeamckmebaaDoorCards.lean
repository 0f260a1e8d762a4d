/-
  DERIVED. GIVEN WITH THE SEED: THE CARDS: each row of YtkjdeeamckmebaaDoorRows.lean that lists a variable, with what it lists TIED to the program's text (the seventh form; the later family's looks); each row that meets fmt, with fmt's text TOLD by the authors' own Lean function (tested against real Go, not proved from fmt's source: count such statements apart). THE CARD IS WHAT COUNTS. Prove the row's statement (the work); the ties are given (YtkjdeeamckmebaaDoorTie.lean); close each card by the builder's one call (the guide's Derived/Test/ToyasCard.lean, 'card_holds'). Laid BY PROGRAM, IN A SANDBOX (cutbox-door.mjs). By AI agents, Wed Nov 11 2026. No macro, syntax, notation, axiom, sorry.
-/
import Derived.Test.YtkjdeeamckmebaaDoorRows
import GoSem.ClaimSeven
namespace Go.Proofs.YtkjdeeamckmebaaDoor
namespace Rows

/-- THE TIED CARD OF 'halyardlaw03.PduSets'. -/
def pduSetsCard : Claim7 := { stood := { row := pduSetsRow, standIns := [], harness := (true, "1ceb4c6851335dba248f06effb1f7847331164733fa97d5bdf6acafe7f43b91a"), looks := false }, kinds := [], alts := [], laidByText := true, laidKinds := [.data], laidTests := true, laidLooks := .later }
def PduSetsCardSaid : Prop := Claim7.holds Tryd.pinned (.plain (OpenSpec.ofChange pduSetsSpec)) pduSetsCard

/-- THE SECOND FORM's CARD OF 'halyardlaw03.PduSets'. -/
def pduSetsUptoCard : Claim7 := { stood := { row := pduSetsUptoRow, standIns := [], harness := (true, "1ceb4c6851335dba248f06effb1f7847331164733fa97d5bdf6acafe7f43b91a"), looks := false }, kinds := [], alts := [], laidByText := true, laidKinds := [.data], laidTests := true, laidLooks := .later }
def PduSetsUptoCardSaid : Prop := Claim7.holds Tryd.pinned (.plain (OpenSpec.upto pduSetsSpec)) pduSetsUptoCard
end Rows
end Go.Proofs.YtkjdeeamckmebaaDoor
