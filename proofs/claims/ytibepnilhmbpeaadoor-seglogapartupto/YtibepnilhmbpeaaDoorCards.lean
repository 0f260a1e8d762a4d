/-
  DERIVED. GIVEN WITH THE SEED: THE CARDS: each row of YtibepnilhmbpeaaDoorRows.lean that lists a variable, with what it lists TIED to the program's text (the seventh form; the later family's looks); each row that meets fmt, with fmt's text TOLD by the authors' own Lean function (tested against real Go, not proved from fmt's source: count such statements apart). THE CARD IS WHAT COUNTS. Prove the row's statement (the work); the ties are given (YtibepnilhmbpeaaDoorTie.lean); close each card by the builder's one call (the guide's Derived/Test/ToyasCard.lean, 'card_holds'). Laid BY PROGRAM, IN A SANDBOX (cutbox-door.mjs). By AI agents, Wed Nov 11 2026. No macro, syntax, notation, axiom, sorry.
-/
import Derived.Test.YtibepnilhmbpeaaDoorRows
import GoSem.ClaimSeven
namespace Go.Proofs.YtibepnilhmbpeaaDoor
namespace Rows

/-- THE TIED CARD OF 'halyardlaw05.SeglogEndless'. -/
def seglogEndlessCard : Claim7 := { stood := { row := seglogEndlessRow, standIns := [], harness := (true, "5703040686889e38b9c17659b1a1bceb419a368b43a77e81620dfb9f11eae77a"), looks := false }, kinds := [], alts := [], laidByText := true, laidKinds := [.data], laidTests := true, laidLooks := .later }
def SeglogEndlessCardSaid : Prop := Claim7.holds Tryd.pinned (.plain (OpenSpec.ofChange seglogEndlessSpec)) seglogEndlessCard

/-- THE TIED CARD OF 'halyardlaw05.SeglogApart'. -/
def seglogApartCard : Claim7 := { stood := { row := seglogApartRow, standIns := [], harness := (true, "5703040686889e38b9c17659b1a1bceb419a368b43a77e81620dfb9f11eae77a"), looks := false }, kinds := [], alts := [], laidByText := true, laidKinds := [.data], laidTests := true, laidLooks := .later }
def SeglogApartCardSaid : Prop := Claim7.holds Tryd.pinned (.plain (OpenSpec.ofChange seglogApartSpec)) seglogApartCard

/-- THE TIED CARD OF 'halyardlaw05.SeglogNil'. -/
def seglogNilCard : Claim7 := { stood := { row := seglogNilRow, standIns := [], harness := (true, "5703040686889e38b9c17659b1a1bceb419a368b43a77e81620dfb9f11eae77a"), looks := false }, kinds := [], alts := [], laidByText := true, laidKinds := [.data], laidTests := true, laidLooks := .later }
def SeglogNilCardSaid : Prop := Claim7.holds Tryd.pinned (.plain (OpenSpec.ofChange seglogNilSpec)) seglogNilCard

/-- THE TIED CARD OF 'halyardlaw05.SeglogRanges'. -/
def seglogRangesCard : Claim7 := { stood := { row := seglogRangesRow, standIns := [], harness := (true, "5703040686889e38b9c17659b1a1bceb419a368b43a77e81620dfb9f11eae77a"), looks := false }, kinds := [], alts := [], laidByText := true, laidKinds := [.data], laidTests := true, laidLooks := .later }
def SeglogRangesCardSaid : Prop := Claim7.holds Tryd.pinned (.plain (OpenSpec.ofChange seglogRangesSpec)) seglogRangesCard

/-- THE TIED CARD OF 'halyardlaw05.SeglogOwn'. -/
def seglogOwnCard : Claim7 := { stood := { row := seglogOwnRow, standIns := [], harness := (true, "5703040686889e38b9c17659b1a1bceb419a368b43a77e81620dfb9f11eae77a"), looks := false }, kinds := [], alts := [], laidByText := true, laidKinds := [.data], laidTests := true, laidLooks := .later }
def SeglogOwnCardSaid : Prop := Claim7.holds Tryd.pinned (.plain (OpenSpec.ofChange seglogOwnSpec)) seglogOwnCard

/-- THE SECOND FORM's CARD OF 'halyardlaw05.SeglogEndless'. -/
def seglogEndlessUptoCard : Claim7 := { stood := { row := seglogEndlessUptoRow, standIns := [], harness := (true, "5703040686889e38b9c17659b1a1bceb419a368b43a77e81620dfb9f11eae77a"), looks := false }, kinds := [], alts := [], laidByText := true, laidKinds := [.data], laidTests := true, laidLooks := .later }
def SeglogEndlessUptoCardSaid : Prop := Claim7.holds Tryd.pinned (.plain (OpenSpec.upto seglogEndlessSpec)) seglogEndlessUptoCard

/-- THE SECOND FORM's CARD OF 'halyardlaw05.SeglogApart'. -/
def seglogApartUptoCard : Claim7 := { stood := { row := seglogApartUptoRow, standIns := [], harness := (true, "5703040686889e38b9c17659b1a1bceb419a368b43a77e81620dfb9f11eae77a"), looks := false }, kinds := [], alts := [], laidByText := true, laidKinds := [.data], laidTests := true, laidLooks := .later }
def SeglogApartUptoCardSaid : Prop := Claim7.holds Tryd.pinned (.plain (OpenSpec.upto seglogApartSpec)) seglogApartUptoCard

/-- THE SECOND FORM's CARD OF 'halyardlaw05.SeglogNil'. -/
def seglogNilUptoCard : Claim7 := { stood := { row := seglogNilUptoRow, standIns := [], harness := (true, "5703040686889e38b9c17659b1a1bceb419a368b43a77e81620dfb9f11eae77a"), looks := false }, kinds := [], alts := [], laidByText := true, laidKinds := [.data], laidTests := true, laidLooks := .later }
def SeglogNilUptoCardSaid : Prop := Claim7.holds Tryd.pinned (.plain (OpenSpec.upto seglogNilSpec)) seglogNilUptoCard

/-- THE SECOND FORM's CARD OF 'halyardlaw05.SeglogRanges'. -/
def seglogRangesUptoCard : Claim7 := { stood := { row := seglogRangesUptoRow, standIns := [], harness := (true, "5703040686889e38b9c17659b1a1bceb419a368b43a77e81620dfb9f11eae77a"), looks := false }, kinds := [], alts := [], laidByText := true, laidKinds := [.data], laidTests := true, laidLooks := .later }
def SeglogRangesUptoCardSaid : Prop := Claim7.holds Tryd.pinned (.plain (OpenSpec.upto seglogRangesSpec)) seglogRangesUptoCard

/-- THE SECOND FORM's CARD OF 'halyardlaw05.SeglogOwn'. -/
def seglogOwnUptoCard : Claim7 := { stood := { row := seglogOwnUptoRow, standIns := [], harness := (true, "5703040686889e38b9c17659b1a1bceb419a368b43a77e81620dfb9f11eae77a"), looks := false }, kinds := [], alts := [], laidByText := true, laidKinds := [.data], laidTests := true, laidLooks := .later }
def SeglogOwnUptoCardSaid : Prop := Claim7.holds Tryd.pinned (.plain (OpenSpec.upto seglogOwnSpec)) seglogOwnUptoCard
end Rows
end Go.Proofs.YtibepnilhmbpeaaDoor
