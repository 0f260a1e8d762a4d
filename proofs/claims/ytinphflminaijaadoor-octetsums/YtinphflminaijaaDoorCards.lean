/-
  DERIVED. GIVEN WITH THE SEED: THE CARDS: each row of YtinphflminaijaaDoorRows.lean that lists a variable, with what it lists TIED to the program's text (the seventh form; the later family's looks); each row that meets fmt, with fmt's text TOLD by the authors' own Lean function (tested against real Go, not proved from fmt's source: count such statements apart). THE CARD IS WHAT COUNTS. Prove the row's statement (the work); the ties are given (YtinphflminaijaaDoorTie.lean); close each card by the builder's one call (the guide's Derived/Test/ToyasCard.lean, 'card_holds'). Laid BY PROGRAM, IN A SANDBOX (cutbox-door.mjs). By AI agents, Wed Nov 11 2026. No macro, syntax, notation, axiom, sorry.
-/
import Derived.Test.YtinphflminaijaaDoorRows
import GoSem.ClaimSeven
namespace Go.Proofs.YtinphflminaijaaDoor
namespace Rows

/-- THE TIED CARD OF 'halyardlaw01.OctetOneWay'. -/
def octetOneWayCard : Claim7 := { stood := { row := octetOneWayRow, standIns := [], harness := (true, "03d08872e7f2b5a83150676cec535430da21fd5fa5bda940ee7fc5cb2fd8b1ec"), looks := false }, kinds := [], alts := [], laidByText := true, laidKinds := [.data], laidTests := true, laidLooks := .later }
def OctetOneWayCardSaid : Prop := Claim7.holds Tryd.pinned (.plain (OpenSpec.ofChange octetOneWaySpec)) octetOneWayCard

/-- THE TIED CARD OF 'halyardlaw01.OctetNames'. -/
def octetNamesCard : Claim7 := { stood := { row := octetNamesRow, standIns := [], harness := (true, "03d08872e7f2b5a83150676cec535430da21fd5fa5bda940ee7fc5cb2fd8b1ec"), looks := false }, kinds := [], alts := [], laidByText := true, laidKinds := [.data], laidTests := true, laidLooks := .later }
def OctetNamesCardSaid : Prop := Claim7.holds Tryd.pinned (.plain (OpenSpec.ofChange octetNamesSpec)) octetNamesCard

/-- THE TIED CARD OF 'halyardlaw01.OctetTwice'. -/
def octetTwiceCard : Claim7 := { stood := { row := octetTwiceRow, standIns := [], harness := (true, "03d08872e7f2b5a83150676cec535430da21fd5fa5bda940ee7fc5cb2fd8b1ec"), looks := false }, kinds := [], alts := [], laidByText := true, laidKinds := [.data], laidTests := true, laidLooks := .later }
def OctetTwiceCardSaid : Prop := Claim7.holds Tryd.pinned (.plain (OpenSpec.ofChange octetTwiceSpec)) octetTwiceCard

/-- THE TIED CARD OF 'halyardlaw01.OctetSums'. -/
def octetSumsCard : Claim7 := { stood := { row := octetSumsRow, standIns := [], harness := (true, "03d08872e7f2b5a83150676cec535430da21fd5fa5bda940ee7fc5cb2fd8b1ec"), looks := false }, kinds := [], alts := [], laidByText := true, laidKinds := [.data], laidTests := true, laidLooks := .later }
def OctetSumsCardSaid : Prop := Claim7.holds Tryd.pinned (.plain (OpenSpec.ofChange octetSumsSpec)) octetSumsCard

/-- THE SECOND FORM's CARD OF 'halyardlaw01.OctetOneWay'. -/
def octetOneWayUptoCard : Claim7 := { stood := { row := octetOneWayUptoRow, standIns := [], harness := (true, "03d08872e7f2b5a83150676cec535430da21fd5fa5bda940ee7fc5cb2fd8b1ec"), looks := false }, kinds := [], alts := [], laidByText := true, laidKinds := [.data], laidTests := true, laidLooks := .later }
def OctetOneWayUptoCardSaid : Prop := Claim7.holds Tryd.pinned (.plain (OpenSpec.upto octetOneWaySpec)) octetOneWayUptoCard

/-- THE SECOND FORM's CARD OF 'halyardlaw01.OctetNames'. -/
def octetNamesUptoCard : Claim7 := { stood := { row := octetNamesUptoRow, standIns := [], harness := (true, "03d08872e7f2b5a83150676cec535430da21fd5fa5bda940ee7fc5cb2fd8b1ec"), looks := false }, kinds := [], alts := [], laidByText := true, laidKinds := [.data], laidTests := true, laidLooks := .later }
def OctetNamesUptoCardSaid : Prop := Claim7.holds Tryd.pinned (.plain (OpenSpec.upto octetNamesSpec)) octetNamesUptoCard

/-- THE SECOND FORM's CARD OF 'halyardlaw01.OctetTwice'. -/
def octetTwiceUptoCard : Claim7 := { stood := { row := octetTwiceUptoRow, standIns := [], harness := (true, "03d08872e7f2b5a83150676cec535430da21fd5fa5bda940ee7fc5cb2fd8b1ec"), looks := false }, kinds := [], alts := [], laidByText := true, laidKinds := [.data], laidTests := true, laidLooks := .later }
def OctetTwiceUptoCardSaid : Prop := Claim7.holds Tryd.pinned (.plain (OpenSpec.upto octetTwiceSpec)) octetTwiceUptoCard

/-- THE SECOND FORM's CARD OF 'halyardlaw01.OctetSums'. -/
def octetSumsUptoCard : Claim7 := { stood := { row := octetSumsUptoRow, standIns := [], harness := (true, "03d08872e7f2b5a83150676cec535430da21fd5fa5bda940ee7fc5cb2fd8b1ec"), looks := false }, kinds := [], alts := [], laidByText := true, laidKinds := [.data], laidTests := true, laidLooks := .later }
def OctetSumsUptoCardSaid : Prop := Claim7.holds Tryd.pinned (.plain (OpenSpec.upto octetSumsSpec)) octetSumsUptoCard
end Rows
end Go.Proofs.YtinphflminaijaaDoor
