/-
  No cell of these rows narrows 'for every input' (looked for: loops, veiled, ifaces, maps, wideKeys, modest, calm, conditions, laid).
  DERIVED. THE GIVEN ROWS OF THIS SEAT. 6 by the template 'for every input the law returns true; each argument reads behind the call as it read before'; 0 by the template 'total and deterministic' (their statements: YtibolgpaolnheabTotals.lean).
  GIVEN WITH THE SEED: the statements are not yours to turn. If you find one false, say at which input.
  Laid BY PROGRAM, IN A SANDBOX (cutbox-rows.mjs): the forced cells as the released guide's own fill.sh prints them over the translation 49cb352114864117… (all of the seat's roots in one cut). By AI agents, Wed Nov 11 2026. No macro, syntax, notation, axiom, sorry.
-/
import Derived.Test.YtibolgpaolnheabChecked
import GoSem.Claim
import GoSem.ClaimJoined
import GoSem.ClaimMapViews
import Derived.JoinedTies
import Derived.KernelRfl
namespace Go.Proofs.Ytibolgpaolnheab
/- THE CELL 'sum', in the pinned program and in every row, IS THE sha256 OF THE DUMP (.gsa) THAT YtibolgpaolnheabProg.lean LOADS. Nothing in Lean hashes anything: it is a label: what it is worth is what the hold of that sum in a sandbox is worth. -/
noncomputable def Try.pinned : Pinned := { name := "ytibolgpaolnheab", sum := "49cb352114864117e2551731d507a83f1362fdfdb42aa3f4adb018093e0f5e2d", checked := Try.checked }
namespace Rows
def none {H : Type} : Left H := { results := [], args := [] }

/-- 'halyardlaw07.PagesNil': WHATEVER THE INPUT: true; the input reads as it did. -/
def pagesNilSpec : ChangeSpec := { name := "pagesNil", fn := fun _ => fun
  | [d] => { results := [.lit (.bool true)], args := [d] }
  | _ => none }
def pagesNilRow : OpenClaim := { program := "ytibolgpaolnheab", sum := "49cb352114864117e2551731d507a83f1362fdfdb42aa3f4adb018093e0f5e2d", func := "halyard/halyardlaw07.PagesNil", spec := "pagesNil", inPlace := ["slices.overlaps[[]halyard/pages.entry[uint64]]"], unfollowed := true, recurses := true, apart := false }
def PagesNilSaid : Prop := pagesNilRow.holds Try.pinned (OpenSpec.ofChange pagesNilSpec)

/-- ITS FALSE NEIGHBOUR: 'it returns false'. Refute it at one input. -/
def pagesNilWrong : ChangeSpec := { name := "pagesNil", fn := fun _ => fun
  | [d] => { results := [.lit (.bool false)], args := [d] }
  | _ => none }
def PagesNilWrongFalsely : Prop := pagesNilRow.holds Try.pinned (OpenSpec.ofChange pagesNilWrong)

/-- 'halyardlaw07.PagesTwo': WHATEVER THE INPUT: true; the input reads as it did. -/
def pagesTwoSpec : ChangeSpec := { name := "pagesTwo", fn := fun _ => fun
  | [d1, d2] => { results := [.lit (.bool true)], args := [d1, d2] }
  | _ => none }
def pagesTwoRow : OpenClaim := { program := "ytibolgpaolnheab", sum := "49cb352114864117e2551731d507a83f1362fdfdb42aa3f4adb018093e0f5e2d", func := "halyard/halyardlaw07.PagesTwo", spec := "pagesTwo", inPlace := ["slices.overlaps[[]halyard/pages.entry[uint64]]"], unfollowed := true, recurses := true, apart := false }
def PagesTwoSaid : Prop := pagesTwoRow.holds Try.pinned (OpenSpec.ofChange pagesTwoSpec)

/-- ITS FALSE NEIGHBOUR: 'it returns false'. Refute it at one input. -/
def pagesTwoWrong : ChangeSpec := { name := "pagesTwo", fn := fun _ => fun
  | [d1, d2] => { results := [.lit (.bool false)], args := [d1, d2] }
  | _ => none }
def PagesTwoWrongFalsely : Prop := pagesTwoRow.holds Try.pinned (OpenSpec.ofChange pagesTwoWrong)

/-- 'halyardlaw07.PagesPuts': WHATEVER THE INPUT: true; the input reads as it did. -/
def pagesPutsSpec : ChangeSpec := { name := "pagesPuts", fn := fun _ => fun
  | [d] => { results := [.lit (.bool true)], args := [d] }
  | _ => none }
def pagesPutsRow : OpenClaim := { program := "ytibolgpaolnheab", sum := "49cb352114864117e2551731d507a83f1362fdfdb42aa3f4adb018093e0f5e2d", func := "halyard/halyardlaw07.PagesPuts", spec := "pagesPuts", inPlace := ["slices.overlaps[[]halyard/pages.entry[uint64]]"], unfollowed := true, recurses := true, apart := false }
def PagesPutsSaid : Prop := pagesPutsRow.holds Try.pinned (OpenSpec.ofChange pagesPutsSpec)

/-- ITS FALSE NEIGHBOUR: 'it returns false'. Refute it at one input. -/
def pagesPutsWrong : ChangeSpec := { name := "pagesPuts", fn := fun _ => fun
  | [d] => { results := [.lit (.bool false)], args := [d] }
  | _ => none }
def PagesPutsWrongFalsely : Prop := pagesPutsRow.holds Try.pinned (OpenSpec.ofChange pagesPutsWrong)

/-- 'halyardlaw07.PagesShapes': WHATEVER THE INPUT: true; the input reads as it did. -/
def pagesShapesSpec : ChangeSpec := { name := "pagesShapes", fn := fun _ => fun
  | [d] => { results := [.lit (.bool true)], args := [d] }
  | _ => none }
def pagesShapesRow : OpenClaim := { program := "ytibolgpaolnheab", sum := "49cb352114864117e2551731d507a83f1362fdfdb42aa3f4adb018093e0f5e2d", func := "halyard/halyardlaw07.PagesShapes", spec := "pagesShapes", inPlace := ["slices.overlaps[[]halyard/pages.entry[uint64]]"], unfollowed := true, recurses := true, apart := false }
def PagesShapesSaid : Prop := pagesShapesRow.holds Try.pinned (OpenSpec.ofChange pagesShapesSpec)

/-- ITS FALSE NEIGHBOUR: 'it returns false'. Refute it at one input. -/
def pagesShapesWrong : ChangeSpec := { name := "pagesShapes", fn := fun _ => fun
  | [d] => { results := [.lit (.bool false)], args := [d] }
  | _ => none }
def PagesShapesWrongFalsely : Prop := pagesShapesRow.holds Try.pinned (OpenSpec.ofChange pagesShapesWrong)

/-- 'halyardlaw07.PagesLooks': WHATEVER THE INPUT: true; the input reads as it did. -/
def pagesLooksSpec : ChangeSpec := { name := "pagesLooks", fn := fun _ => fun
  | [d] => { results := [.lit (.bool true)], args := [d] }
  | _ => none }
def pagesLooksRow : OpenClaim := { program := "ytibolgpaolnheab", sum := "49cb352114864117e2551731d507a83f1362fdfdb42aa3f4adb018093e0f5e2d", func := "halyard/halyardlaw07.PagesLooks", spec := "pagesLooks", inPlace := ["slices.overlaps[[]halyard/pages.entry[uint64]]"], unfollowed := true, recurses := true, apart := false }
def PagesLooksSaid : Prop := pagesLooksRow.holds Try.pinned (OpenSpec.ofChange pagesLooksSpec)

/-- ITS FALSE NEIGHBOUR: 'it returns false'. Refute it at one input. -/
def pagesLooksWrong : ChangeSpec := { name := "pagesLooks", fn := fun _ => fun
  | [d] => { results := [.lit (.bool false)], args := [d] }
  | _ => none }
def PagesLooksWrongFalsely : Prop := pagesLooksRow.holds Try.pinned (OpenSpec.ofChange pagesLooksWrong)

/-- 'halyardlaw07.PagesGoes': WHATEVER THE INPUT: true; the input reads as it did. -/
def pagesGoesSpec : ChangeSpec := { name := "pagesGoes", fn := fun _ => fun
  | [d] => { results := [.lit (.bool true)], args := [d] }
  | _ => none }
def pagesGoesRow : OpenClaim := { program := "ytibolgpaolnheab", sum := "49cb352114864117e2551731d507a83f1362fdfdb42aa3f4adb018093e0f5e2d", func := "halyard/halyardlaw07.PagesGoes", spec := "pagesGoes", inPlace := ["slices.overlaps[[]halyard/pages.entry[uint64]]"], unfollowed := true, recurses := true, apart := false }
def PagesGoesSaid : Prop := pagesGoesRow.holds Try.pinned (OpenSpec.ofChange pagesGoesSpec)

/-- ITS FALSE NEIGHBOUR: 'it returns false'. Refute it at one input. -/
def pagesGoesWrong : ChangeSpec := { name := "pagesGoes", fn := fun _ => fun
  | [d] => { results := [.lit (.bool false)], args := [d] }
  | _ => none }
def PagesGoesWrongFalsely : Prop := pagesGoesRow.holds Try.pinned (OpenSpec.ofChange pagesGoesWrong)

/- THE SECOND FORM. 'bulk': how many values and letters a reading holds, each counted each time it is reached (what is shared counts as often as it is met; a slice's spare places count too). A statement '..UptoSaid' is the law's where the arguments, and the package variables that the reading takes, are together of bulk at most 1048576: NARROWER than '..Said'. Prove '..Said' where nothing that the law and all that it calls make is longer than what came in: it says more and counts as full. Else prove '..UptoSaid'. A law counts once. -/
mutual
def uptoBulk {H : Type} : DataW H → Nat
  | .lit (.string bytes) => bytes.length + 1
  | .lit _ => 1
  | .nil => 1
  | .ptr d => uptoBulk d + 1
  | .slice elems spare => uptoBulkAll elems + uptoBulkAll spare + 1
  | .agg parts => uptoBulkAll parts + 1
  | .iface _ d => uptoBulk d + 1
  | .map entries => uptoBulkEntries entries + 1
  | .held _ => 1
def uptoBulkAll {H : Type} : List (DataW H) → Nat
  | [] => 0
  | d :: r => uptoBulk d + uptoBulkAll r
def uptoBulkEntries {H : Type} : List (Lit × DataW H) → Nat
  | [] => 0
  | x :: r => uptoBulkEntry x + uptoBulkEntries r
def uptoBulkEntry {H : Type} : Lit × DataW H → Nat
  | (.string bytes, d) => bytes.length + uptoBulk d + 1
  | (_, d) => uptoBulk d + 1
 end
def uptoSmall : (H : Type) → List (DataW H) → Bool := fun _ ds => decide (uptoBulkAll ds ≤ 1048576)
def OpenSpec.upto (s : _root_.Go.ChangeSpec) : _root_.Go.OpenSpec := { _root_.Go.OpenSpec.ofChange s with cond := some uptoSmall }

/-- 'halyardlaw07.PagesNil', WHERE WHAT IT READS IS OF BULK AT MOST 1048576: true; the input reads as it did. -/
def pagesNilUptoRow : OpenClaim := { program := "ytibolgpaolnheab", sum := "49cb352114864117e2551731d507a83f1362fdfdb42aa3f4adb018093e0f5e2d", func := "halyard/halyardlaw07.PagesNil", spec := "pagesNil", inPlace := ["slices.overlaps[[]halyard/pages.entry[uint64]]"], unfollowed := true, recurses := true, apart := false, narrowed := true }
def PagesNilUptoSaid : Prop := pagesNilUptoRow.holds Try.pinned (OpenSpec.upto pagesNilSpec)

/-- 'halyardlaw07.PagesTwo', WHERE WHAT IT READS IS OF BULK AT MOST 1048576: true; the input reads as it did. -/
def pagesTwoUptoRow : OpenClaim := { program := "ytibolgpaolnheab", sum := "49cb352114864117e2551731d507a83f1362fdfdb42aa3f4adb018093e0f5e2d", func := "halyard/halyardlaw07.PagesTwo", spec := "pagesTwo", inPlace := ["slices.overlaps[[]halyard/pages.entry[uint64]]"], unfollowed := true, recurses := true, apart := false, narrowed := true }
def PagesTwoUptoSaid : Prop := pagesTwoUptoRow.holds Try.pinned (OpenSpec.upto pagesTwoSpec)

/-- 'halyardlaw07.PagesPuts', WHERE WHAT IT READS IS OF BULK AT MOST 1048576: true; the input reads as it did. -/
def pagesPutsUptoRow : OpenClaim := { program := "ytibolgpaolnheab", sum := "49cb352114864117e2551731d507a83f1362fdfdb42aa3f4adb018093e0f5e2d", func := "halyard/halyardlaw07.PagesPuts", spec := "pagesPuts", inPlace := ["slices.overlaps[[]halyard/pages.entry[uint64]]"], unfollowed := true, recurses := true, apart := false, narrowed := true }
def PagesPutsUptoSaid : Prop := pagesPutsUptoRow.holds Try.pinned (OpenSpec.upto pagesPutsSpec)

/-- 'halyardlaw07.PagesShapes', WHERE WHAT IT READS IS OF BULK AT MOST 1048576: true; the input reads as it did. -/
def pagesShapesUptoRow : OpenClaim := { program := "ytibolgpaolnheab", sum := "49cb352114864117e2551731d507a83f1362fdfdb42aa3f4adb018093e0f5e2d", func := "halyard/halyardlaw07.PagesShapes", spec := "pagesShapes", inPlace := ["slices.overlaps[[]halyard/pages.entry[uint64]]"], unfollowed := true, recurses := true, apart := false, narrowed := true }
def PagesShapesUptoSaid : Prop := pagesShapesUptoRow.holds Try.pinned (OpenSpec.upto pagesShapesSpec)

/-- 'halyardlaw07.PagesLooks', WHERE WHAT IT READS IS OF BULK AT MOST 1048576: true; the input reads as it did. -/
def pagesLooksUptoRow : OpenClaim := { program := "ytibolgpaolnheab", sum := "49cb352114864117e2551731d507a83f1362fdfdb42aa3f4adb018093e0f5e2d", func := "halyard/halyardlaw07.PagesLooks", spec := "pagesLooks", inPlace := ["slices.overlaps[[]halyard/pages.entry[uint64]]"], unfollowed := true, recurses := true, apart := false, narrowed := true }
def PagesLooksUptoSaid : Prop := pagesLooksUptoRow.holds Try.pinned (OpenSpec.upto pagesLooksSpec)

/-- 'halyardlaw07.PagesGoes', WHERE WHAT IT READS IS OF BULK AT MOST 1048576: true; the input reads as it did. -/
def pagesGoesUptoRow : OpenClaim := { program := "ytibolgpaolnheab", sum := "49cb352114864117e2551731d507a83f1362fdfdb42aa3f4adb018093e0f5e2d", func := "halyard/halyardlaw07.PagesGoes", spec := "pagesGoes", inPlace := ["slices.overlaps[[]halyard/pages.entry[uint64]]"], unfollowed := true, recurses := true, apart := false, narrowed := true }
def PagesGoesUptoSaid : Prop := pagesGoesUptoRow.holds Try.pinned (OpenSpec.upto pagesGoesSpec)

end Rows
end Go.Proofs.Ytibolgpaolnheab
