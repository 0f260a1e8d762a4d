/-
  DERIVED. GIVEN WITH THE SEED: THE CARDS: each row of YtinphflminaijabDoorRows.lean that lists a variable, with what it lists TIED to the program's text (the seventh form; the later family's looks); each row that meets fmt, with fmt's text TOLD by the authors' own Lean function (tested against real Go, not proved from fmt's source: count such statements apart). THE CARD IS WHAT COUNTS. Prove the row's statement (the work); the ties are given (YtinphflminaijabDoorTie.lean); close each card by the builder's one call (the guide's Derived/Test/ToyasCard.lean, 'card_holds'). Laid BY PROGRAM, IN A SANDBOX (cutbox-door.mjs). By AI agents, Wed Nov 11 2026. No macro, syntax, notation, axiom, sorry.
-/
import Derived.Test.YtinphflminaijabDoorRows
import GoSem.ClaimSeven
namespace Go.Proofs.YtinphflminaijabDoor
namespace Rows

/-- THE TIED CARD OF 'halyardlaw01.OctetSeal'. -/
def octetSealCard : Claim7 := { stood := { row := octetSealRow, standIns := [], harness := (true, "6798414791ab85311c0568dcec2955ec71818c82ac5d8b46a4d3bd4be04a5df8"), looks := false }, kinds := [], alts := [], laidByText := true, laidKinds := [.data], laidTests := true, laidLooks := .later }
def OctetSealCardSaid : Prop := Claim7.holds Tryd.pinned (.plain (OpenSpec.ofChange octetSealSpec)) octetSealCard

/-- THE TIED CARD OF 'halyardlaw01.OctetNumbers'. -/
def octetNumbersCard : Claim7 := { stood := { row := octetNumbersRow, standIns := [], harness := (true, "6798414791ab85311c0568dcec2955ec71818c82ac5d8b46a4d3bd4be04a5df8"), looks := false }, kinds := [], alts := [], laidByText := true, laidKinds := [.data], laidTests := true, laidLooks := .later }
def OctetNumbersCardSaid : Prop := Claim7.holds Tryd.pinned (.plain (OpenSpec.ofChange octetNumbersSpec)) octetNumbersCard

/-- THE TIED CARD OF 'halyardlaw01.OctetBurst'. -/
def octetBurstCard : Claim7 := { stood := { row := octetBurstRow, standIns := [], harness := (true, "6798414791ab85311c0568dcec2955ec71818c82ac5d8b46a4d3bd4be04a5df8"), looks := false }, kinds := [], alts := [], laidByText := true, laidKinds := [.data], laidTests := true, laidLooks := .later }
def OctetBurstCardSaid : Prop := Claim7.holds Tryd.pinned (.plain (OpenSpec.ofChange octetBurstSpec)) octetBurstCard

/-- THE TIED CARD OF 'halyardlaw01.OctetBursts'. -/
def octetBurstsCard : Claim7 := { stood := { row := octetBurstsRow, standIns := [], harness := (true, "6798414791ab85311c0568dcec2955ec71818c82ac5d8b46a4d3bd4be04a5df8"), looks := false }, kinds := [], alts := [], laidByText := true, laidKinds := [.data], laidTests := true, laidLooks := .later }
def OctetBurstsCardSaid : Prop := Claim7.holds Tryd.pinned (.plain (OpenSpec.ofChange octetBurstsSpec)) octetBurstsCard

/-- THE TIED CARD OF 'halyardlaw01.OctetOver'. -/
def octetOverCard : Claim7 := { stood := { row := octetOverRow, standIns := [], harness := (true, "6798414791ab85311c0568dcec2955ec71818c82ac5d8b46a4d3bd4be04a5df8"), looks := false }, kinds := [], alts := [], laidByText := true, laidKinds := [.data], laidTests := true, laidLooks := .later }
def OctetOverCardSaid : Prop := Claim7.holds Tryd.pinned (.plain (OpenSpec.ofChange octetOverSpec)) octetOverCard

/-- THE TIED CARD OF 'halyardlaw01.OctetBack'. -/
def octetBackCard : Claim7 := { stood := { row := octetBackRow, standIns := [], harness := (true, "6798414791ab85311c0568dcec2955ec71818c82ac5d8b46a4d3bd4be04a5df8"), looks := false }, kinds := [], alts := [], laidByText := true, laidKinds := [.data], laidTests := true, laidLooks := .later }
def OctetBackCardSaid : Prop := Claim7.holds Tryd.pinned (.plain (OpenSpec.ofChange octetBackSpec)) octetBackCard

/-- THE SECOND FORM's CARD OF 'halyardlaw01.OctetSeal'. -/
def octetSealUptoCard : Claim7 := { stood := { row := octetSealUptoRow, standIns := [], harness := (true, "6798414791ab85311c0568dcec2955ec71818c82ac5d8b46a4d3bd4be04a5df8"), looks := false }, kinds := [], alts := [], laidByText := true, laidKinds := [.data], laidTests := true, laidLooks := .later }
def OctetSealUptoCardSaid : Prop := Claim7.holds Tryd.pinned (.plain (OpenSpec.upto octetSealSpec)) octetSealUptoCard

/-- THE SECOND FORM's CARD OF 'halyardlaw01.OctetNumbers'. -/
def octetNumbersUptoCard : Claim7 := { stood := { row := octetNumbersUptoRow, standIns := [], harness := (true, "6798414791ab85311c0568dcec2955ec71818c82ac5d8b46a4d3bd4be04a5df8"), looks := false }, kinds := [], alts := [], laidByText := true, laidKinds := [.data], laidTests := true, laidLooks := .later }
def OctetNumbersUptoCardSaid : Prop := Claim7.holds Tryd.pinned (.plain (OpenSpec.upto octetNumbersSpec)) octetNumbersUptoCard

/-- THE SECOND FORM's CARD OF 'halyardlaw01.OctetBurst'. -/
def octetBurstUptoCard : Claim7 := { stood := { row := octetBurstUptoRow, standIns := [], harness := (true, "6798414791ab85311c0568dcec2955ec71818c82ac5d8b46a4d3bd4be04a5df8"), looks := false }, kinds := [], alts := [], laidByText := true, laidKinds := [.data], laidTests := true, laidLooks := .later }
def OctetBurstUptoCardSaid : Prop := Claim7.holds Tryd.pinned (.plain (OpenSpec.upto octetBurstSpec)) octetBurstUptoCard

/-- THE SECOND FORM's CARD OF 'halyardlaw01.OctetBursts'. -/
def octetBurstsUptoCard : Claim7 := { stood := { row := octetBurstsUptoRow, standIns := [], harness := (true, "6798414791ab85311c0568dcec2955ec71818c82ac5d8b46a4d3bd4be04a5df8"), looks := false }, kinds := [], alts := [], laidByText := true, laidKinds := [.data], laidTests := true, laidLooks := .later }
def OctetBurstsUptoCardSaid : Prop := Claim7.holds Tryd.pinned (.plain (OpenSpec.upto octetBurstsSpec)) octetBurstsUptoCard

/-- THE SECOND FORM's CARD OF 'halyardlaw01.OctetOver'. -/
def octetOverUptoCard : Claim7 := { stood := { row := octetOverUptoRow, standIns := [], harness := (true, "6798414791ab85311c0568dcec2955ec71818c82ac5d8b46a4d3bd4be04a5df8"), looks := false }, kinds := [], alts := [], laidByText := true, laidKinds := [.data], laidTests := true, laidLooks := .later }
def OctetOverUptoCardSaid : Prop := Claim7.holds Tryd.pinned (.plain (OpenSpec.upto octetOverSpec)) octetOverUptoCard

/-- THE SECOND FORM's CARD OF 'halyardlaw01.OctetBack'. -/
def octetBackUptoCard : Claim7 := { stood := { row := octetBackUptoRow, standIns := [], harness := (true, "6798414791ab85311c0568dcec2955ec71818c82ac5d8b46a4d3bd4be04a5df8"), looks := false }, kinds := [], alts := [], laidByText := true, laidKinds := [.data], laidTests := true, laidLooks := .later }
def OctetBackUptoCardSaid : Prop := Claim7.holds Tryd.pinned (.plain (OpenSpec.upto octetBackSpec)) octetBackUptoCard
end Rows
end Go.Proofs.YtinphflminaijabDoor
