/-
  No cell of these rows narrows 'for every input' (looked for: loops, veiled, ifaces, maps, wideKeys, modest, calm, conditions, laid).
  DERIVED. THE GIVEN ROWS OF THIS SEAT. 6 by the template 'for every input the law returns true; each argument reads behind the call as it read before'; 0 by the template 'total and deterministic' (their statements: YtibolgpaolnheaaTotals.lean).
  GIVEN WITH THE SEED: the statements are not yours to turn. If you find one false, say at which input.
  Laid BY PROGRAM, IN A SANDBOX (cutbox-rows.mjs): the forced cells as the released guide's own fill.sh prints them over the translation 2941320d648cb2af… (all of the seat's roots in one cut). By AI agents, Wed Nov 11 2026. No macro, syntax, notation, axiom, sorry.
-/
import Derived.Test.YtibolgpaolnheaaChecked
import GoSem.Claim
import GoSem.ClaimJoined
import GoSem.ClaimMapViews
import Derived.JoinedTies
import Derived.KernelRfl
namespace Go.Proofs.Ytibolgpaolnheaa
/- THE CELL 'sum', in the pinned program and in every row, IS THE sha256 OF THE DUMP (.gsa) THAT YtibolgpaolnheaaProg.lean LOADS. Nothing in Lean hashes anything: it is a label: what it is worth is what the hold of that sum in a sandbox is worth. -/
noncomputable def Try.pinned : Pinned := { name := "ytibolgpaolnheaa", sum := "2941320d648cb2af31627389b1a8446d0f4f19e349e1f27d7d80556c2ecd0a60", checked := Try.checked }
namespace Rows
def none {H : Type} : Left H := { results := [], args := [] }

/-- 'halyardlaw07.PagesNames': WHATEVER THE INPUT: true; the input reads as it did. -/
def pagesNamesSpec : ChangeSpec := { name := "pagesNames", fn := fun _ => fun
  | [] => { results := [.lit (.bool true)], args := [] }
  | _ => none }
def pagesNamesRow : OpenClaim := { program := "ytibolgpaolnheaa", sum := "2941320d648cb2af31627389b1a8446d0f4f19e349e1f27d7d80556c2ecd0a60", func := "halyard/halyardlaw07.PagesNames", spec := "pagesNames", inPlace := ["slices.overlaps[[]halyard/pages.entry[uint64]]"], unfollowed := true, recurses := true, apart := false }
def PagesNamesSaid : Prop := pagesNamesRow.holds Try.pinned (OpenSpec.ofChange pagesNamesSpec)

/-- ITS FALSE NEIGHBOUR: 'it returns false'. Refute it at one input. -/
def pagesNamesWrong : ChangeSpec := { name := "pagesNames", fn := fun _ => fun
  | [] => { results := [.lit (.bool false)], args := [] }
  | _ => none }
def PagesNamesWrongFalsely : Prop := pagesNamesRow.holds Try.pinned (OpenSpec.ofChange pagesNamesWrong)

/-- 'halyardlaw07.PagesBlind': WHATEVER THE INPUT: true; the input reads as it did. -/
def pagesBlindSpec : ChangeSpec := { name := "pagesBlind", fn := fun _ => fun
  | [d1, d2] => { results := [.lit (.bool true)], args := [d1, d2] }
  | _ => none }
def pagesBlindRow : OpenClaim := { program := "ytibolgpaolnheaa", sum := "2941320d648cb2af31627389b1a8446d0f4f19e349e1f27d7d80556c2ecd0a60", func := "halyard/halyardlaw07.PagesBlind", spec := "pagesBlind", inPlace := ["slices.overlaps[[]halyard/pages.entry[uint64]]", "slices.overlaps[[]halyard/pages.entry[string]]"], unfollowed := true, recurses := true, apart := false }
def PagesBlindSaid : Prop := pagesBlindRow.holds Try.pinned (OpenSpec.ofChange pagesBlindSpec)

/-- ITS FALSE NEIGHBOUR: 'it returns false'. Refute it at one input. -/
def pagesBlindWrong : ChangeSpec := { name := "pagesBlind", fn := fun _ => fun
  | [d1, d2] => { results := [.lit (.bool false)], args := [d1, d2] }
  | _ => none }
def PagesBlindWrongFalsely : Prop := pagesBlindRow.holds Try.pinned (OpenSpec.ofChange pagesBlindWrong)

/-- 'halyardlaw07.PagesMap': WHATEVER THE INPUT: true; the input reads as it did. -/
def pagesMapSpec : ChangeSpec := { name := "pagesMap", fn := fun _ => fun
  | [d1, d2, d3] => { results := [.lit (.bool true)], args := [d1, d2, d3] }
  | _ => none }
def pagesMapRow : OpenClaim := { program := "ytibolgpaolnheaa", sum := "2941320d648cb2af31627389b1a8446d0f4f19e349e1f27d7d80556c2ecd0a60", func := "halyard/halyardlaw07.PagesMap", spec := "pagesMap", inPlace := ["slices.overlaps[[]halyard/pages.entry[uint64]]"], unfollowed := true, recurses := true, apart := false }
def PagesMapSaid : Prop := pagesMapRow.holds Try.pinned (OpenSpec.ofChange pagesMapSpec)

/-- ITS FALSE NEIGHBOUR: 'it returns false'. Refute it at one input. -/
def pagesMapWrong : ChangeSpec := { name := "pagesMap", fn := fun _ => fun
  | [d1, d2, d3] => { results := [.lit (.bool false)], args := [d1, d2, d3] }
  | _ => none }
def PagesMapWrongFalsely : Prop := pagesMapRow.holds Try.pinned (OpenSpec.ofChange pagesMapWrong)

/-- 'halyardlaw07.PagesTight': WHATEVER THE INPUT: true; the input reads as it did. -/
def pagesTightSpec : ChangeSpec := { name := "pagesTight", fn := fun _ => fun
  | [d1, d2] => { results := [.lit (.bool true)], args := [d1, d2] }
  | _ => none }
def pagesTightRow : OpenClaim := { program := "ytibolgpaolnheaa", sum := "2941320d648cb2af31627389b1a8446d0f4f19e349e1f27d7d80556c2ecd0a60", func := "halyard/halyardlaw07.PagesTight", spec := "pagesTight", inPlace := ["slices.overlaps[[]halyard/pages.entry[uint64]]"], unfollowed := true, recurses := true, apart := false }
def PagesTightSaid : Prop := pagesTightRow.holds Try.pinned (OpenSpec.ofChange pagesTightSpec)

/-- ITS FALSE NEIGHBOUR: 'it returns false'. Refute it at one input. -/
def pagesTightWrong : ChangeSpec := { name := "pagesTight", fn := fun _ => fun
  | [d1, d2] => { results := [.lit (.bool false)], args := [d1, d2] }
  | _ => none }
def PagesTightWrongFalsely : Prop := pagesTightRow.holds Try.pinned (OpenSpec.ofChange pagesTightWrong)

/-- 'halyardlaw07.PagesWalks': WHATEVER THE INPUT: true; the input reads as it did. -/
def pagesWalksSpec : ChangeSpec := { name := "pagesWalks", fn := fun _ => fun
  | [d1, d2, d3, d4] => { results := [.lit (.bool true)], args := [d1, d2, d3, d4] }
  | _ => none }
def pagesWalksRow : OpenClaim := { program := "ytibolgpaolnheaa", sum := "2941320d648cb2af31627389b1a8446d0f4f19e349e1f27d7d80556c2ecd0a60", func := "halyard/halyardlaw07.PagesWalks", spec := "pagesWalks", inPlace := ["slices.overlaps[[]halyard/pages.entry[uint64]]"], unfollowed := true, recurses := true, apart := false }
def PagesWalksSaid : Prop := pagesWalksRow.holds Try.pinned (OpenSpec.ofChange pagesWalksSpec)

/-- ITS FALSE NEIGHBOUR: 'it returns false'. Refute it at one input. -/
def pagesWalksWrong : ChangeSpec := { name := "pagesWalks", fn := fun _ => fun
  | [d1, d2, d3, d4] => { results := [.lit (.bool false)], args := [d1, d2, d3, d4] }
  | _ => none }
def PagesWalksWrongFalsely : Prop := pagesWalksRow.holds Try.pinned (OpenSpec.ofChange pagesWalksWrong)

/-- 'halyardlaw07.PagesSought': WHATEVER THE INPUT: true; the input reads as it did. -/
def pagesSoughtSpec : ChangeSpec := { name := "pagesSought", fn := fun _ => fun
  | [d1, d2, d3] => { results := [.lit (.bool true)], args := [d1, d2, d3] }
  | _ => none }
def pagesSoughtRow : OpenClaim := { program := "ytibolgpaolnheaa", sum := "2941320d648cb2af31627389b1a8446d0f4f19e349e1f27d7d80556c2ecd0a60", func := "halyard/halyardlaw07.PagesSought", spec := "pagesSought", inPlace := ["slices.overlaps[[]halyard/pages.entry[uint64]]"], unfollowed := true, recurses := true, apart := false }
def PagesSoughtSaid : Prop := pagesSoughtRow.holds Try.pinned (OpenSpec.ofChange pagesSoughtSpec)

/-- ITS FALSE NEIGHBOUR: 'it returns false'. Refute it at one input. -/
def pagesSoughtWrong : ChangeSpec := { name := "pagesSought", fn := fun _ => fun
  | [d1, d2, d3] => { results := [.lit (.bool false)], args := [d1, d2, d3] }
  | _ => none }
def PagesSoughtWrongFalsely : Prop := pagesSoughtRow.holds Try.pinned (OpenSpec.ofChange pagesSoughtWrong)

/- THE SECOND FORM. 'bulk': how many values and letters a reading holds, each counted each time it is reached (what is shared counts as often as it is met; a slice's spare places count too). A statement '..UptoSaid' is the law's where the arguments, and the package variables that the reading takes, are together of bulk at most 1048576: NARROWER than '..Said'. Prove '..Said' where nothing that the law and all that it calls make is longer than what came in: it says more and counts as full. Else prove '..UptoSaid'. A law counts once. -/
mutual
def uptoBulk {H : Type} : DataW H → Nat
  | .lit (.string bytes) => bytes.length + 1
  | .lit _ => 1
  | .nil => 1
  | .ptr d => uptoBulk d + 1
  | .slice elems spare => uptoBulkAll elems + uptoBulkAll spare + 1
  | .agg parts => uptoBulkAll parts + 1
  | .iface _ d => uptoBulk d + 1
  | .map entries => uptoBulkEntries entries + 1
  | .held _ => 1
def uptoBulkAll {H : Type} : List (DataW H) → Nat
  | [] => 0
  | d :: r => uptoBulk d + uptoBulkAll r
def uptoBulkEntries {H : Type} : List (Lit × DataW H) → Nat
  | [] => 0
  | x :: r => uptoBulkEntry x + uptoBulkEntries r
def uptoBulkEntry {H : Type} : Lit × DataW H → Nat
  | (.string bytes, d) => bytes.length + uptoBulk d + 1
  | (_, d) => uptoBulk d + 1
 end
def uptoSmall : (H : Type) → List (DataW H) → Bool := fun _ ds => decide (uptoBulkAll ds ≤ 1048576)
def OpenSpec.upto (s : _root_.Go.ChangeSpec) : _root_.Go.OpenSpec := { _root_.Go.OpenSpec.ofChange s with cond := some uptoSmall }

/-- 'halyardlaw07.PagesNames', WHERE WHAT IT READS IS OF BULK AT MOST 1048576: true; the input reads as it did. -/
def pagesNamesUptoRow : OpenClaim := { program := "ytibolgpaolnheaa", sum := "2941320d648cb2af31627389b1a8446d0f4f19e349e1f27d7d80556c2ecd0a60", func := "halyard/halyardlaw07.PagesNames", spec := "pagesNames", inPlace := ["slices.overlaps[[]halyard/pages.entry[uint64]]"], unfollowed := true, recurses := true, apart := false, narrowed := true }
def PagesNamesUptoSaid : Prop := pagesNamesUptoRow.holds Try.pinned (OpenSpec.upto pagesNamesSpec)

/-- 'halyardlaw07.PagesBlind', WHERE WHAT IT READS IS OF BULK AT MOST 1048576: true; the input reads as it did. -/
def pagesBlindUptoRow : OpenClaim := { program := "ytibolgpaolnheaa", sum := "2941320d648cb2af31627389b1a8446d0f4f19e349e1f27d7d80556c2ecd0a60", func := "halyard/halyardlaw07.PagesBlind", spec := "pagesBlind", inPlace := ["slices.overlaps[[]halyard/pages.entry[uint64]]", "slices.overlaps[[]halyard/pages.entry[string]]"], unfollowed := true, recurses := true, apart := false, narrowed := true }
def PagesBlindUptoSaid : Prop := pagesBlindUptoRow.holds Try.pinned (OpenSpec.upto pagesBlindSpec)

/-- 'halyardlaw07.PagesMap', WHERE WHAT IT READS IS OF BULK AT MOST 1048576: true; the input reads as it did. -/
def pagesMapUptoRow : OpenClaim := { program := "ytibolgpaolnheaa", sum := "2941320d648cb2af31627389b1a8446d0f4f19e349e1f27d7d80556c2ecd0a60", func := "halyard/halyardlaw07.PagesMap", spec := "pagesMap", inPlace := ["slices.overlaps[[]halyard/pages.entry[uint64]]"], unfollowed := true, recurses := true, apart := false, narrowed := true }
def PagesMapUptoSaid : Prop := pagesMapUptoRow.holds Try.pinned (OpenSpec.upto pagesMapSpec)

/-- 'halyardlaw07.PagesTight', WHERE WHAT IT READS IS OF BULK AT MOST 1048576: true; the input reads as it did. -/
def pagesTightUptoRow : OpenClaim := { program := "ytibolgpaolnheaa", sum := "2941320d648cb2af31627389b1a8446d0f4f19e349e1f27d7d80556c2ecd0a60", func := "halyard/halyardlaw07.PagesTight", spec := "pagesTight", inPlace := ["slices.overlaps[[]halyard/pages.entry[uint64]]"], unfollowed := true, recurses := true, apart := false, narrowed := true }
def PagesTightUptoSaid : Prop := pagesTightUptoRow.holds Try.pinned (OpenSpec.upto pagesTightSpec)

/-- 'halyardlaw07.PagesWalks', WHERE WHAT IT READS IS OF BULK AT MOST 1048576: true; the input reads as it did. -/
def pagesWalksUptoRow : OpenClaim := { program := "ytibolgpaolnheaa", sum := "2941320d648cb2af31627389b1a8446d0f4f19e349e1f27d7d80556c2ecd0a60", func := "halyard/halyardlaw07.PagesWalks", spec := "pagesWalks", inPlace := ["slices.overlaps[[]halyard/pages.entry[uint64]]"], unfollowed := true, recurses := true, apart := false, narrowed := true }
def PagesWalksUptoSaid : Prop := pagesWalksUptoRow.holds Try.pinned (OpenSpec.upto pagesWalksSpec)

/-- 'halyardlaw07.PagesSought', WHERE WHAT IT READS IS OF BULK AT MOST 1048576: true; the input reads as it did. -/
def pagesSoughtUptoRow : OpenClaim := { program := "ytibolgpaolnheaa", sum := "2941320d648cb2af31627389b1a8446d0f4f19e349e1f27d7d80556c2ecd0a60", func := "halyard/halyardlaw07.PagesSought", spec := "pagesSought", inPlace := ["slices.overlaps[[]halyard/pages.entry[uint64]]"], unfollowed := true, recurses := true, apart := false, narrowed := true }
def PagesSoughtUptoSaid : Prop := pagesSoughtUptoRow.holds Try.pinned (OpenSpec.upto pagesSoughtSpec)

end Rows
end Go.Proofs.Ytibolgpaolnheaa
