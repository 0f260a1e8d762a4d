/-
  DERIVED. GIVEN WITH THE SEED: THE CARDS: each row of YtplncfahpdmcoaaGreatDoorRows.lean that lists a variable, with what it lists TIED to the program's text (the seventh form; the later family's looks); each row that meets fmt, with fmt's text TOLD by the authors' own Lean function (tested against real Go, not proved from fmt's source: count such statements apart). THE CARD IS WHAT COUNTS. Prove the row's statement (the work); the ties are given (YtplncfahpdmcoaaGreatDoorTie.lean); close each card by the builder's one call (the guide's Derived/Test/ToyasCard.lean, 'card_holds'). Laid BY PROGRAM, IN A SANDBOX (cutbox-door.mjs). By AI agents, Wed Nov 11 2026. No macro, syntax, notation, axiom, sorry.
-/
import Derived.Test.YtplncfahpdmcoaaGreatDoorRows
import GoSem.ClaimSeven
namespace Go.Proofs.YtplncfahpdmcoaaGreatDoor
namespace Rows

/-- THE TIED CARD OF 'halyardlaw03.PduOwn'. -/
def pduOwnCard : Claim7 := { stood := { row := pduOwnRow, standIns := [], harness := (true, "6283d2d93aa50477cd8a8a0195c5d0816e47248d451776bbf79027f58470faf6"), looks := false }, kinds := [], alts := [], laidByText := true, laidKinds := [.data], laidTests := true, laidLooks := .later }
def PduOwnCardSaid : Prop := Claim7.holds Tryz.pinned (.plain (OpenSpec.ofChange pduOwnSpec)) pduOwnCard

/-- THE SECOND FORM's CARD OF 'halyardlaw03.PduOwn'. -/
def pduOwnUptoCard : Claim7 := { stood := { row := pduOwnUptoRow, standIns := [], harness := (true, "6283d2d93aa50477cd8a8a0195c5d0816e47248d451776bbf79027f58470faf6"), looks := false }, kinds := [], alts := [], laidByText := true, laidKinds := [.data], laidTests := true, laidLooks := .later }
def PduOwnUptoCardSaid : Prop := Claim7.holds Tryz.pinned (.plain (OpenSpec.upto pduOwnSpec)) pduOwnUptoCard
end Rows
end Go.Proofs.YtplncfahpdmcoaaGreatDoor
