/-
  DERIVED. GIVEN WITH THE SEED: THE CARDS: each row of YtiedgcanndgmoaaGreatDoorRows.lean that lists a variable, with what it lists TIED to the program's text (the seventh form; the later family's looks); each row that meets fmt, with fmt's text TOLD by the authors' own Lean function (tested against real Go, not proved from fmt's source: count such statements apart). THE CARD IS WHAT COUNTS. Prove the row's statement (the work); the ties are given (YtiedgcanndgmoaaGreatDoorTie.lean); close each card by the builder's one call (the guide's Derived/Test/ToyasCard.lean, 'card_holds'). Laid BY PROGRAM, IN A SANDBOX (cutbox-door.mjs). By AI agents, Wed Nov 11 2026. No macro, syntax, notation, axiom, sorry.
-/
import Derived.Test.YtiedgcanndgmoaaGreatDoorRows
import GoSem.ClaimSeven
namespace Go.Proofs.YtiedgcanndgmoaaGreatDoor
namespace Rows

/-- THE TIED CARD OF 'halyardlaw14.ExpressOnce'. -/
def expressOnceCard : Claim7 := { stood := { row := expressOnceRow, standIns := [], harness := (true, "adefa04eeb264fde609fec5ce56be2f73082bff9ac296ad9633e673ca1ea19e8"), looks := false }, kinds := [], alts := [], laidByText := true, laidKinds := [.data], laidTests := true, laidLooks := .later }
def ExpressOnceCardSaid : Prop := Claim7.holds Tryz.pinned (.plain (OpenSpec.ofChange expressOnceSpec)) expressOnceCard

/-- THE TIED CARD OF 'halyardlaw14.ExpressCalls'. -/
def expressCallsCard : Claim7 := { stood := { row := expressCallsRow, standIns := [], harness := (true, "adefa04eeb264fde609fec5ce56be2f73082bff9ac296ad9633e673ca1ea19e8"), looks := false }, kinds := [], alts := [], laidByText := true, laidKinds := [.data], laidTests := true, laidLooks := .later }
def ExpressCallsCardSaid : Prop := Claim7.holds Tryz.pinned (.plain (OpenSpec.ofChange expressCallsSpec)) expressCallsCard

/-- THE SECOND FORM's CARD OF 'halyardlaw14.ExpressOnce'. -/
def expressOnceUptoCard : Claim7 := { stood := { row := expressOnceUptoRow, standIns := [], harness := (true, "adefa04eeb264fde609fec5ce56be2f73082bff9ac296ad9633e673ca1ea19e8"), looks := false }, kinds := [], alts := [], laidByText := true, laidKinds := [.data], laidTests := true, laidLooks := .later }
def ExpressOnceUptoCardSaid : Prop := Claim7.holds Tryz.pinned (.plain (OpenSpec.upto expressOnceSpec)) expressOnceUptoCard

/-- THE SECOND FORM's CARD OF 'halyardlaw14.ExpressCalls'. -/
def expressCallsUptoCard : Claim7 := { stood := { row := expressCallsUptoRow, standIns := [], harness := (true, "adefa04eeb264fde609fec5ce56be2f73082bff9ac296ad9633e673ca1ea19e8"), looks := false }, kinds := [], alts := [], laidByText := true, laidKinds := [.data], laidTests := true, laidLooks := .later }
def ExpressCallsUptoCardSaid : Prop := Claim7.holds Tryz.pinned (.plain (OpenSpec.upto expressCallsSpec)) expressCallsUptoCard
end Rows
end Go.Proofs.YtiedgcanndgmoaaGreatDoor
