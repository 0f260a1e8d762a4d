/-
  DERIVED. GIVEN WITH THE SEED: THE CARDS: each row of YtnfikcegmicooabDoorRows.lean that lists a variable, with what it lists TIED to the program's text (the seventh form; the later family's looks); each row that meets fmt, with fmt's text TOLD by the authors' own Lean function (tested against real Go, not proved from fmt's source: count such statements apart). THE CARD IS WHAT COUNTS. Prove the row's statement (the work); the ties are given (YtnfikcegmicooabDoorTie.lean); close each card by the builder's one call (the guide's Derived/Test/ToyasCard.lean, 'card_holds'). Laid BY PROGRAM, IN A SANDBOX (cutbox-door.mjs). By AI agents, Wed Nov 11 2026. No macro, syntax, notation, axiom, sorry.
-/
import Derived.Test.YtnfikcegmicooabDoorRows
import GoSem.ClaimSeven
namespace Go.Proofs.YtnfikcegmicooabDoor
namespace Rows

/-- THE TIED CARD OF 'halyardlaw10.WheelSets'. -/
def wheelSetsCard : Claim7 := { stood := { row := wheelSetsRow, standIns := [], harness := (true, "81eb39a4ddd2c9b66d115a747d95c32cc8a16c72790971cfffe8735c367315ab"), looks := false }, kinds := [], alts := [], laidByText := true, laidKinds := [.data], laidTests := true, laidLooks := .later }
def WheelSetsCardSaid : Prop := Claim7.holds Tryd.pinned (.plain (OpenSpec.ofChange wheelSetsSpec)) wheelSetsCard

/-- THE TIED CARD OF 'halyardlaw10.WheelStops'. -/
def wheelStopsCard : Claim7 := { stood := { row := wheelStopsRow, standIns := [], harness := (true, "81eb39a4ddd2c9b66d115a747d95c32cc8a16c72790971cfffe8735c367315ab"), looks := false }, kinds := [], alts := [], laidByText := true, laidKinds := [.data], laidTests := true, laidLooks := .later }
def WheelStopsCardSaid : Prop := Claim7.holds Tryd.pinned (.plain (OpenSpec.ofChange wheelStopsSpec)) wheelStopsCard

/-- THE TIED CARD OF 'halyardlaw10.WheelRings'. -/
def wheelRingsCard : Claim7 := { stood := { row := wheelRingsRow, standIns := [], harness := (true, "81eb39a4ddd2c9b66d115a747d95c32cc8a16c72790971cfffe8735c367315ab"), looks := false }, kinds := [], alts := [], laidByText := true, laidKinds := [.data], laidTests := true, laidLooks := .later }
def WheelRingsCardSaid : Prop := Claim7.holds Tryd.pinned (.plain (OpenSpec.ofChange wheelRingsSpec)) wheelRingsCard

/-- THE TIED CARD OF 'halyardlaw10.WheelOwn'. -/
def wheelOwnCard : Claim7 := { stood := { row := wheelOwnRow, standIns := [], harness := (true, "81eb39a4ddd2c9b66d115a747d95c32cc8a16c72790971cfffe8735c367315ab"), looks := false }, kinds := [], alts := [], laidByText := true, laidKinds := [.data], laidTests := true, laidLooks := .later }
def WheelOwnCardSaid : Prop := Claim7.holds Tryd.pinned (.plain (OpenSpec.ofChange wheelOwnSpec)) wheelOwnCard

/-- THE SECOND FORM's CARD OF 'halyardlaw10.WheelSets'. -/
def wheelSetsUptoCard : Claim7 := { stood := { row := wheelSetsUptoRow, standIns := [], harness := (true, "81eb39a4ddd2c9b66d115a747d95c32cc8a16c72790971cfffe8735c367315ab"), looks := false }, kinds := [], alts := [], laidByText := true, laidKinds := [.data], laidTests := true, laidLooks := .later }
def WheelSetsUptoCardSaid : Prop := Claim7.holds Tryd.pinned (.plain (OpenSpec.upto wheelSetsSpec)) wheelSetsUptoCard

/-- THE SECOND FORM's CARD OF 'halyardlaw10.WheelStops'. -/
def wheelStopsUptoCard : Claim7 := { stood := { row := wheelStopsUptoRow, standIns := [], harness := (true, "81eb39a4ddd2c9b66d115a747d95c32cc8a16c72790971cfffe8735c367315ab"), looks := false }, kinds := [], alts := [], laidByText := true, laidKinds := [.data], laidTests := true, laidLooks := .later }
def WheelStopsUptoCardSaid : Prop := Claim7.holds Tryd.pinned (.plain (OpenSpec.upto wheelStopsSpec)) wheelStopsUptoCard

/-- THE SECOND FORM's CARD OF 'halyardlaw10.WheelRings'. -/
def wheelRingsUptoCard : Claim7 := { stood := { row := wheelRingsUptoRow, standIns := [], harness := (true, "81eb39a4ddd2c9b66d115a747d95c32cc8a16c72790971cfffe8735c367315ab"), looks := false }, kinds := [], alts := [], laidByText := true, laidKinds := [.data], laidTests := true, laidLooks := .later }
def WheelRingsUptoCardSaid : Prop := Claim7.holds Tryd.pinned (.plain (OpenSpec.upto wheelRingsSpec)) wheelRingsUptoCard

/-- THE SECOND FORM's CARD OF 'halyardlaw10.WheelOwn'. -/
def wheelOwnUptoCard : Claim7 := { stood := { row := wheelOwnUptoRow, standIns := [], harness := (true, "81eb39a4ddd2c9b66d115a747d95c32cc8a16c72790971cfffe8735c367315ab"), looks := false }, kinds := [], alts := [], laidByText := true, laidKinds := [.data], laidTests := true, laidLooks := .later }
def WheelOwnUptoCardSaid : Prop := Claim7.holds Tryd.pinned (.plain (OpenSpec.upto wheelOwnSpec)) wheelOwnUptoCard
end Rows
end Go.Proofs.YtnfikcegmicooabDoor
