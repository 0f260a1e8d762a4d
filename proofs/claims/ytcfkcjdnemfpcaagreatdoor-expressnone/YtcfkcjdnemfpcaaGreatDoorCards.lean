/-
  DERIVED. GIVEN WITH THE SEED: THE CARDS: each row of YtcfkcjdnemfpcaaGreatDoorRows.lean that lists a variable, with what it lists TIED to the program's text (the seventh form; the later family's looks); each row that meets fmt, with fmt's text TOLD by the authors' own Lean function (tested against real Go, not proved from fmt's source: count such statements apart). THE CARD IS WHAT COUNTS. Prove the row's statement (the work); the ties are given (YtcfkcjdnemfpcaaGreatDoorTie.lean); close each card by the builder's one call (the guide's Derived/Test/ToyasCard.lean, 'card_holds'). Laid BY PROGRAM, IN A SANDBOX (cutbox-door.mjs). By AI agents, Wed Nov 11 2026. No macro, syntax, notation, axiom, sorry.
-/
import Derived.Test.YtcfkcjdnemfpcaaGreatDoorRows
import GoSem.ClaimSeven
namespace Go.Proofs.YtcfkcjdnemfpcaaGreatDoor
namespace Rows

/-- THE TIED CARD OF 'halyardlaw14.ExpressNone'. -/
def expressNoneCard : Claim7 := { stood := { row := expressNoneRow, standIns := [], harness := (true, "94d4e5a579169648af05413feee5326488a396198160c4a1a59fd18057e64c17"), looks := false }, kinds := [], alts := [], laidByText := true, laidKinds := [.data], laidTests := true, laidLooks := .later }
def ExpressNoneCardSaid : Prop := Claim7.holds Tryz.pinned (.plain (OpenSpec.ofChange expressNoneSpec)) expressNoneCard

/-- THE TIED CARD OF 'halyardlaw14.ExpressOnce'. -/
def expressOnceCard : Claim7 := { stood := { row := expressOnceRow, standIns := [], harness := (true, "94d4e5a579169648af05413feee5326488a396198160c4a1a59fd18057e64c17"), looks := false }, kinds := [], alts := [], laidByText := true, laidKinds := [.data], laidTests := true, laidLooks := .later }
def ExpressOnceCardSaid : Prop := Claim7.holds Tryz.pinned (.plain (OpenSpec.ofChange expressOnceSpec)) expressOnceCard

/-- THE TIED CARD OF 'halyardlaw14.ExpressCalls'. -/
def expressCallsCard : Claim7 := { stood := { row := expressCallsRow, standIns := [], harness := (true, "94d4e5a579169648af05413feee5326488a396198160c4a1a59fd18057e64c17"), looks := false }, kinds := [], alts := [], laidByText := true, laidKinds := [.data], laidTests := true, laidLooks := .later }
def ExpressCallsCardSaid : Prop := Claim7.holds Tryz.pinned (.plain (OpenSpec.ofChange expressCallsSpec)) expressCallsCard

/-- THE SECOND FORM's CARD OF 'halyardlaw14.ExpressNone'. -/
def expressNoneUptoCard : Claim7 := { stood := { row := expressNoneUptoRow, standIns := [], harness := (true, "94d4e5a579169648af05413feee5326488a396198160c4a1a59fd18057e64c17"), looks := false }, kinds := [], alts := [], laidByText := true, laidKinds := [.data], laidTests := true, laidLooks := .later }
def ExpressNoneUptoCardSaid : Prop := Claim7.holds Tryz.pinned (.plain (OpenSpec.upto expressNoneSpec)) expressNoneUptoCard

/-- THE SECOND FORM's CARD OF 'halyardlaw14.ExpressOnce'. -/
def expressOnceUptoCard : Claim7 := { stood := { row := expressOnceUptoRow, standIns := [], harness := (true, "94d4e5a579169648af05413feee5326488a396198160c4a1a59fd18057e64c17"), looks := false }, kinds := [], alts := [], laidByText := true, laidKinds := [.data], laidTests := true, laidLooks := .later }
def ExpressOnceUptoCardSaid : Prop := Claim7.holds Tryz.pinned (.plain (OpenSpec.upto expressOnceSpec)) expressOnceUptoCard

/-- THE SECOND FORM's CARD OF 'halyardlaw14.ExpressCalls'. -/
def expressCallsUptoCard : Claim7 := { stood := { row := expressCallsUptoRow, standIns := [], harness := (true, "94d4e5a579169648af05413feee5326488a396198160c4a1a59fd18057e64c17"), looks := false }, kinds := [], alts := [], laidByText := true, laidKinds := [.data], laidTests := true, laidLooks := .later }
def ExpressCallsUptoCardSaid : Prop := Claim7.holds Tryz.pinned (.plain (OpenSpec.upto expressCallsSpec)) expressCallsUptoCard
end Rows
end Go.Proofs.YtcfkcjdnemfpcaaGreatDoor
