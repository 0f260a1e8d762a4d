/-
  DERIVED. GIVEN WITH THE SEED: THE CARDS: each row of YtnfikcegmicooaaDoorRows.lean that lists a variable, with what it lists TIED to the program's text (the seventh form; the later family's looks); each row that meets fmt, with fmt's text TOLD by the authors' own Lean function (tested against real Go, not proved from fmt's source: count such statements apart). THE CARD IS WHAT COUNTS. Prove the row's statement (the work); the ties are given (YtnfikcegmicooaaDoorTie.lean); close each card by the builder's one call (the guide's Derived/Test/ToyasCard.lean, 'card_holds'). Laid BY PROGRAM, IN A SANDBOX (cutbox-door.mjs). By AI agents, Wed Nov 11 2026. No macro, syntax, notation, axiom, sorry.
-/
import Derived.Test.YtnfikcegmicooaaDoorRows
import GoSem.ClaimSeven
namespace Go.Proofs.YtnfikcegmicooaaDoor
namespace Rows

/-- THE TIED CARD OF 'halyardlaw10.WheelLong'. -/
def wheelLongCard : Claim7 := { stood := { row := wheelLongRow, standIns := [], harness := (true, "3bf70d365c02f6f81821aaafcd0ffd2baa1e7ca7aeb598e2d8fe98e027e7478a"), looks := false }, kinds := [], alts := [], laidByText := true, laidKinds := [.data], laidTests := true, laidLooks := .later }
def WheelLongCardSaid : Prop := Claim7.holds Tryd.pinned (.plain (OpenSpec.ofChange wheelLongSpec)) wheelLongCard

/-- THE TIED CARD OF 'halyardlaw10.WheelSteps'. -/
def wheelStepsCard : Claim7 := { stood := { row := wheelStepsRow, standIns := [], harness := (true, "3bf70d365c02f6f81821aaafcd0ffd2baa1e7ca7aeb598e2d8fe98e027e7478a"), looks := false }, kinds := [], alts := [], laidByText := true, laidKinds := [.data], laidTests := true, laidLooks := .later }
def WheelStepsCardSaid : Prop := Claim7.holds Tryd.pinned (.plain (OpenSpec.ofChange wheelStepsSpec)) wheelStepsCard

/-- THE TIED CARD OF 'halyardlaw10.WheelNil'. -/
def wheelNilCard : Claim7 := { stood := { row := wheelNilRow, standIns := [], harness := (true, "3bf70d365c02f6f81821aaafcd0ffd2baa1e7ca7aeb598e2d8fe98e027e7478a"), looks := false }, kinds := [], alts := [], laidByText := true, laidKinds := [.data], laidTests := true, laidLooks := .later }
def WheelNilCardSaid : Prop := Claim7.holds Tryd.pinned (.plain (OpenSpec.ofChange wheelNilSpec)) wheelNilCard

/-- THE TIED CARD OF 'halyardlaw10.WheelOnce'. -/
def wheelOnceCard : Claim7 := { stood := { row := wheelOnceRow, standIns := [], harness := (true, "3bf70d365c02f6f81821aaafcd0ffd2baa1e7ca7aeb598e2d8fe98e027e7478a"), looks := false }, kinds := [], alts := [], laidByText := true, laidKinds := [.data], laidTests := true, laidLooks := .later }
def WheelOnceCardSaid : Prop := Claim7.holds Tryd.pinned (.plain (OpenSpec.ofChange wheelOnceSpec)) wheelOnceCard

/-- THE TIED CARD OF 'halyardlaw10.WheelNames'. -/
def wheelNamesCard : Claim7 := { stood := { row := wheelNamesRow, standIns := [], harness := (true, "3bf70d365c02f6f81821aaafcd0ffd2baa1e7ca7aeb598e2d8fe98e027e7478a"), looks := false }, kinds := [], alts := [], laidByText := true, laidKinds := [.data], laidTests := true, laidLooks := .later }
def WheelNamesCardSaid : Prop := Claim7.holds Tryd.pinned (.plain (OpenSpec.ofChange wheelNamesSpec)) wheelNamesCard

/-- THE TIED CARD OF 'halyardlaw10.WheelAll'. -/
def wheelAllCard : Claim7 := { stood := { row := wheelAllRow, standIns := [], harness := (true, "3bf70d365c02f6f81821aaafcd0ffd2baa1e7ca7aeb598e2d8fe98e027e7478a"), looks := false }, kinds := [], alts := [], laidByText := true, laidKinds := [.data], laidTests := true, laidLooks := .later }
def WheelAllCardSaid : Prop := Claim7.holds Tryd.pinned (.plain (OpenSpec.ofChange wheelAllSpec)) wheelAllCard

/-- THE SECOND FORM's CARD OF 'halyardlaw10.WheelLong'. -/
def wheelLongUptoCard : Claim7 := { stood := { row := wheelLongUptoRow, standIns := [], harness := (true, "3bf70d365c02f6f81821aaafcd0ffd2baa1e7ca7aeb598e2d8fe98e027e7478a"), looks := false }, kinds := [], alts := [], laidByText := true, laidKinds := [.data], laidTests := true, laidLooks := .later }
def WheelLongUptoCardSaid : Prop := Claim7.holds Tryd.pinned (.plain (OpenSpec.upto wheelLongSpec)) wheelLongUptoCard

/-- THE SECOND FORM's CARD OF 'halyardlaw10.WheelSteps'. -/
def wheelStepsUptoCard : Claim7 := { stood := { row := wheelStepsUptoRow, standIns := [], harness := (true, "3bf70d365c02f6f81821aaafcd0ffd2baa1e7ca7aeb598e2d8fe98e027e7478a"), looks := false }, kinds := [], alts := [], laidByText := true, laidKinds := [.data], laidTests := true, laidLooks := .later }
def WheelStepsUptoCardSaid : Prop := Claim7.holds Tryd.pinned (.plain (OpenSpec.upto wheelStepsSpec)) wheelStepsUptoCard

/-- THE SECOND FORM's CARD OF 'halyardlaw10.WheelNil'. -/
def wheelNilUptoCard : Claim7 := { stood := { row := wheelNilUptoRow, standIns := [], harness := (true, "3bf70d365c02f6f81821aaafcd0ffd2baa1e7ca7aeb598e2d8fe98e027e7478a"), looks := false }, kinds := [], alts := [], laidByText := true, laidKinds := [.data], laidTests := true, laidLooks := .later }
def WheelNilUptoCardSaid : Prop := Claim7.holds Tryd.pinned (.plain (OpenSpec.upto wheelNilSpec)) wheelNilUptoCard

/-- THE SECOND FORM's CARD OF 'halyardlaw10.WheelOnce'. -/
def wheelOnceUptoCard : Claim7 := { stood := { row := wheelOnceUptoRow, standIns := [], harness := (true, "3bf70d365c02f6f81821aaafcd0ffd2baa1e7ca7aeb598e2d8fe98e027e7478a"), looks := false }, kinds := [], alts := [], laidByText := true, laidKinds := [.data], laidTests := true, laidLooks := .later }
def WheelOnceUptoCardSaid : Prop := Claim7.holds Tryd.pinned (.plain (OpenSpec.upto wheelOnceSpec)) wheelOnceUptoCard

/-- THE SECOND FORM's CARD OF 'halyardlaw10.WheelNames'. -/
def wheelNamesUptoCard : Claim7 := { stood := { row := wheelNamesUptoRow, standIns := [], harness := (true, "3bf70d365c02f6f81821aaafcd0ffd2baa1e7ca7aeb598e2d8fe98e027e7478a"), looks := false }, kinds := [], alts := [], laidByText := true, laidKinds := [.data], laidTests := true, laidLooks := .later }
def WheelNamesUptoCardSaid : Prop := Claim7.holds Tryd.pinned (.plain (OpenSpec.upto wheelNamesSpec)) wheelNamesUptoCard

/-- THE SECOND FORM's CARD OF 'halyardlaw10.WheelAll'. -/
def wheelAllUptoCard : Claim7 := { stood := { row := wheelAllUptoRow, standIns := [], harness := (true, "3bf70d365c02f6f81821aaafcd0ffd2baa1e7ca7aeb598e2d8fe98e027e7478a"), looks := false }, kinds := [], alts := [], laidByText := true, laidKinds := [.data], laidTests := true, laidLooks := .later }
def WheelAllUptoCardSaid : Prop := Claim7.holds Tryd.pinned (.plain (OpenSpec.upto wheelAllSpec)) wheelAllUptoCard
end Rows
end Go.Proofs.YtnfikcegmicooaaDoor
