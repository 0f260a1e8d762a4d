/-
  DERIVED. GIVEN WITH THE SEED: THE CARDS: each row of YtinphflminaijacDoorRows.lean that lists a variable, with what it lists TIED to the program's text (the seventh form; the later family's looks); each row that meets fmt, with fmt's text TOLD by the authors' own Lean function (tested against real Go, not proved from fmt's source: count such statements apart). THE CARD IS WHAT COUNTS. Prove the row's statement (the work); the ties are given (YtinphflminaijacDoorTie.lean); close each card by the builder's one call (the guide's Derived/Test/ToyasCard.lean, 'card_holds'). Laid BY PROGRAM, IN A SANDBOX (cutbox-door.mjs). By AI agents, Wed Nov 11 2026. No macro, syntax, notation, axiom, sorry.
-/
import Derived.Test.YtinphflminaijacDoorRows
import GoSem.ClaimSeven
namespace Go.Proofs.YtinphflminaijacDoor
namespace Rows

/-- THE TIED CARD OF 'halyardlaw01.OctetNil'. -/
def octetNilCard : Claim7 := { stood := { row := octetNilRow, standIns := [], harness := (true, "1aba7dcaa4ae650c398d3242ff8c2e63115d084834ac3b2ad53409f12d90d609"), looks := false }, kinds := [], alts := [], laidByText := true, laidKinds := [.data], laidTests := true, laidLooks := .later }
def OctetNilCardSaid : Prop := Claim7.holds Tryd.pinned (.plain (OpenSpec.ofChange octetNilSpec)) octetNilCard

/-- THE TIED CARD OF 'halyardlaw01.OctetUnseals'. -/
def octetUnsealsCard : Claim7 := { stood := { row := octetUnsealsRow, standIns := [], harness := (true, "1aba7dcaa4ae650c398d3242ff8c2e63115d084834ac3b2ad53409f12d90d609"), looks := false }, kinds := [], alts := [], laidByText := true, laidKinds := [.data], laidTests := true, laidLooks := .later }
def OctetUnsealsCardSaid : Prop := Claim7.holds Tryd.pinned (.plain (OpenSpec.ofChange octetUnsealsSpec)) octetUnsealsCard

/-- THE TIED CARD OF 'halyardlaw01.OctetOwn'. -/
def octetOwnCard : Claim7 := { stood := { row := octetOwnRow, standIns := [], harness := (true, "1aba7dcaa4ae650c398d3242ff8c2e63115d084834ac3b2ad53409f12d90d609"), looks := false }, kinds := [], alts := [], laidByText := true, laidKinds := [.data], laidTests := true, laidLooks := .later }
def OctetOwnCardSaid : Prop := Claim7.holds Tryd.pinned (.plain (OpenSpec.ofChange octetOwnSpec)) octetOwnCard

/-- THE SECOND FORM's CARD OF 'halyardlaw01.OctetNil'. -/
def octetNilUptoCard : Claim7 := { stood := { row := octetNilUptoRow, standIns := [], harness := (true, "1aba7dcaa4ae650c398d3242ff8c2e63115d084834ac3b2ad53409f12d90d609"), looks := false }, kinds := [], alts := [], laidByText := true, laidKinds := [.data], laidTests := true, laidLooks := .later }
def OctetNilUptoCardSaid : Prop := Claim7.holds Tryd.pinned (.plain (OpenSpec.upto octetNilSpec)) octetNilUptoCard

/-- THE SECOND FORM's CARD OF 'halyardlaw01.OctetUnseals'. -/
def octetUnsealsUptoCard : Claim7 := { stood := { row := octetUnsealsUptoRow, standIns := [], harness := (true, "1aba7dcaa4ae650c398d3242ff8c2e63115d084834ac3b2ad53409f12d90d609"), looks := false }, kinds := [], alts := [], laidByText := true, laidKinds := [.data], laidTests := true, laidLooks := .later }
def OctetUnsealsUptoCardSaid : Prop := Claim7.holds Tryd.pinned (.plain (OpenSpec.upto octetUnsealsSpec)) octetUnsealsUptoCard

/-- THE SECOND FORM's CARD OF 'halyardlaw01.OctetOwn'. -/
def octetOwnUptoCard : Claim7 := { stood := { row := octetOwnUptoRow, standIns := [], harness := (true, "1aba7dcaa4ae650c398d3242ff8c2e63115d084834ac3b2ad53409f12d90d609"), looks := false }, kinds := [], alts := [], laidByText := true, laidKinds := [.data], laidTests := true, laidLooks := .later }
def OctetOwnUptoCardSaid : Prop := Claim7.holds Tryd.pinned (.plain (OpenSpec.upto octetOwnSpec)) octetOwnUptoCard
end Rows
end Go.Proofs.YtinphflminaijacDoor
