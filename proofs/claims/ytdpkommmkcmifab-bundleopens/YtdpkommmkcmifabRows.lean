/-
  No cell of these rows narrows 'for every input' (looked for: loops, veiled, ifaces, maps, wideKeys, modest, calm, conditions, laid).
  DERIVED. THE GIVEN ROWS OF THIS SEAT. 4 by the template 'for every input the law returns true; each argument reads behind the call as it read before'; 0 by the template 'total and deterministic' (their statements: YtdpkommmkcmifabTotals.lean).
  GIVEN WITH THE SEED: the statements are not yours to turn. If you find one false, say at which input.
  Laid BY PROGRAM, IN A SANDBOX (cutbox-rows.mjs): the forced cells as the released guide's own fill.sh prints them over the translation 8118d7730fe141d1… (all of the seat's roots in one cut). By AI agents, Wed Nov 11 2026. No macro, syntax, notation, axiom, sorry.
-/
import Derived.Test.YtdpkommmkcmifabChecked
import GoSem.Claim
import GoSem.ClaimJoined
import GoSem.ClaimMapViews
import Derived.JoinedTies
import Derived.KernelRfl
namespace Go.Proofs.Ytdpkommmkcmifab
/- THE CELL 'sum', in the pinned program and in every row, IS THE sha256 OF THE DUMP (.gsa) THAT YtdpkommmkcmifabProg.lean LOADS. Nothing in Lean hashes anything: it is a label: what it is worth is what the hold of that sum in a sandbox is worth. -/
noncomputable def Try.pinned : Pinned := { name := "ytdpkommmkcmifab", sum := "8118d7730fe141d1204ef7bd575554aefbf191234be2a9aa74323e155133c367", checked := Try.checked }
namespace Rows
def none {H : Type} : Left H := { results := [], args := [] }

/-- 'halyardlaw02.BundleOwn': WHATEVER THE INPUT: true; the input reads as it did. -/
def bundleOwnSpec : ChangeSpec := { name := "bundleOwn", fn := fun _ => fun
  | [d1, d2] => { results := [.lit (.bool true)], args := [d1, d2] }
  | _ => none }
def bundleOwnRow : OpenClaim := { program := "ytdpkommmkcmifab", sum := "8118d7730fe141d1204ef7bd575554aefbf191234be2a9aa74323e155133c367", func := "halyard/halyardlaw02.BundleOwn", spec := "bundleOwn", unfollowed := true, recurses := true, apart := false }
def BundleOwnSaid : Prop := bundleOwnRow.holds Try.pinned (OpenSpec.ofChange bundleOwnSpec)

/-- ITS FALSE NEIGHBOUR: 'it returns false'. Refute it at one input. -/
def bundleOwnWrong : ChangeSpec := { name := "bundleOwn", fn := fun _ => fun
  | [d1, d2] => { results := [.lit (.bool false)], args := [d1, d2] }
  | _ => none }
def BundleOwnWrongFalsely : Prop := bundleOwnRow.holds Try.pinned (OpenSpec.ofChange bundleOwnWrong)

/-- 'halyardlaw02.BundleValids': WHATEVER THE INPUT: true; the input reads as it did. -/
def bundleValidsSpec : ChangeSpec := { name := "bundleValids", fn := fun _ => fun
  | [d] => { results := [.lit (.bool true)], args := [d] }
  | _ => none }
def bundleValidsRow : OpenClaim := { program := "ytdpkommmkcmifab", sum := "8118d7730fe141d1204ef7bd575554aefbf191234be2a9aa74323e155133c367", func := "halyard/halyardlaw02.BundleValids", spec := "bundleValids", unfollowed := true, recurses := true, apart := false }
def BundleValidsSaid : Prop := bundleValidsRow.holds Try.pinned (OpenSpec.ofChange bundleValidsSpec)

/-- ITS FALSE NEIGHBOUR: 'it returns false'. Refute it at one input. -/
def bundleValidsWrong : ChangeSpec := { name := "bundleValids", fn := fun _ => fun
  | [d] => { results := [.lit (.bool false)], args := [d] }
  | _ => none }
def BundleValidsWrongFalsely : Prop := bundleValidsRow.holds Try.pinned (OpenSpec.ofChange bundleValidsWrong)

/-- 'halyardlaw02.BundleOpens': WHATEVER THE INPUT: true; the input reads as it did. -/
def bundleOpensSpec : ChangeSpec := { name := "bundleOpens", fn := fun _ => fun
  | [d] => { results := [.lit (.bool true)], args := [d] }
  | _ => none }
def bundleOpensRow : OpenClaim := { program := "ytdpkommmkcmifab", sum := "8118d7730fe141d1204ef7bd575554aefbf191234be2a9aa74323e155133c367", func := "halyard/halyardlaw02.BundleOpens", spec := "bundleOpens", unfollowed := true, recurses := true, apart := false }
def BundleOpensSaid : Prop := bundleOpensRow.holds Try.pinned (OpenSpec.ofChange bundleOpensSpec)

/-- ITS FALSE NEIGHBOUR: 'it returns false'. Refute it at one input. -/
def bundleOpensWrong : ChangeSpec := { name := "bundleOpens", fn := fun _ => fun
  | [d] => { results := [.lit (.bool false)], args := [d] }
  | _ => none }
def BundleOpensWrongFalsely : Prop := bundleOpensRow.holds Try.pinned (OpenSpec.ofChange bundleOpensWrong)

/-- 'halyardlaw02.BundleHops': WHATEVER THE INPUT: true; the input reads as it did. -/
def bundleHopsSpec : ChangeSpec := { name := "bundleHops", fn := fun _ => fun
  | [d1, d2] => { results := [.lit (.bool true)], args := [d1, d2] }
  | _ => none }
def bundleHopsRow : OpenClaim := { program := "ytdpkommmkcmifab", sum := "8118d7730fe141d1204ef7bd575554aefbf191234be2a9aa74323e155133c367", func := "halyard/halyardlaw02.BundleHops", spec := "bundleHops", unfollowed := true, recurses := true, apart := false }
def BundleHopsSaid : Prop := bundleHopsRow.holds Try.pinned (OpenSpec.ofChange bundleHopsSpec)

/-- ITS FALSE NEIGHBOUR: 'it returns false'. Refute it at one input. -/
def bundleHopsWrong : ChangeSpec := { name := "bundleHops", fn := fun _ => fun
  | [d1, d2] => { results := [.lit (.bool false)], args := [d1, d2] }
  | _ => none }
def BundleHopsWrongFalsely : Prop := bundleHopsRow.holds Try.pinned (OpenSpec.ofChange bundleHopsWrong)

/- THE SECOND FORM. 'bulk': how many values and letters a reading holds, each counted each time it is reached (what is shared counts as often as it is met; a slice's spare places count too). A statement '..UptoSaid' is the law's where the arguments, and the package variables that the reading takes, are together of bulk at most 1048576: NARROWER than '..Said'. Prove '..Said' where nothing that the law and all that it calls make is longer than what came in: it says more and counts as full. Else prove '..UptoSaid'. A law counts once. -/
mutual
def uptoBulk {H : Type} : DataW H → Nat
  | .lit (.string bytes) => bytes.length + 1
  | .lit _ => 1
  | .nil => 1
  | .ptr d => uptoBulk d + 1
  | .slice elems spare => uptoBulkAll elems + uptoBulkAll spare + 1
  | .agg parts => uptoBulkAll parts + 1
  | .iface _ d => uptoBulk d + 1
  | .map entries => uptoBulkEntries entries + 1
  | .held _ => 1
def uptoBulkAll {H : Type} : List (DataW H) → Nat
  | [] => 0
  | d :: r => uptoBulk d + uptoBulkAll r
def uptoBulkEntries {H : Type} : List (Lit × DataW H) → Nat
  | [] => 0
  | x :: r => uptoBulkEntry x + uptoBulkEntries r
def uptoBulkEntry {H : Type} : Lit × DataW H → Nat
  | (.string bytes, d) => bytes.length + uptoBulk d + 1
  | (_, d) => uptoBulk d + 1
 end
def uptoSmall : (H : Type) → List (DataW H) → Bool := fun _ ds => decide (uptoBulkAll ds ≤ 1048576)
def OpenSpec.upto (s : _root_.Go.ChangeSpec) : _root_.Go.OpenSpec := { _root_.Go.OpenSpec.ofChange s with cond := some uptoSmall }

/-- 'halyardlaw02.BundleOwn', WHERE WHAT IT READS IS OF BULK AT MOST 1048576: true; the input reads as it did. -/
def bundleOwnUptoRow : OpenClaim := { program := "ytdpkommmkcmifab", sum := "8118d7730fe141d1204ef7bd575554aefbf191234be2a9aa74323e155133c367", func := "halyard/halyardlaw02.BundleOwn", spec := "bundleOwn", unfollowed := true, recurses := true, apart := false, narrowed := true }
def BundleOwnUptoSaid : Prop := bundleOwnUptoRow.holds Try.pinned (OpenSpec.upto bundleOwnSpec)

/-- 'halyardlaw02.BundleValids', WHERE WHAT IT READS IS OF BULK AT MOST 1048576: true; the input reads as it did. -/
def bundleValidsUptoRow : OpenClaim := { program := "ytdpkommmkcmifab", sum := "8118d7730fe141d1204ef7bd575554aefbf191234be2a9aa74323e155133c367", func := "halyard/halyardlaw02.BundleValids", spec := "bundleValids", unfollowed := true, recurses := true, apart := false, narrowed := true }
def BundleValidsUptoSaid : Prop := bundleValidsUptoRow.holds Try.pinned (OpenSpec.upto bundleValidsSpec)

/-- 'halyardlaw02.BundleOpens', WHERE WHAT IT READS IS OF BULK AT MOST 1048576: true; the input reads as it did. -/
def bundleOpensUptoRow : OpenClaim := { program := "ytdpkommmkcmifab", sum := "8118d7730fe141d1204ef7bd575554aefbf191234be2a9aa74323e155133c367", func := "halyard/halyardlaw02.BundleOpens", spec := "bundleOpens", unfollowed := true, recurses := true, apart := false, narrowed := true }
def BundleOpensUptoSaid : Prop := bundleOpensUptoRow.holds Try.pinned (OpenSpec.upto bundleOpensSpec)

/-- 'halyardlaw02.BundleHops', WHERE WHAT IT READS IS OF BULK AT MOST 1048576: true; the input reads as it did. -/
def bundleHopsUptoRow : OpenClaim := { program := "ytdpkommmkcmifab", sum := "8118d7730fe141d1204ef7bd575554aefbf191234be2a9aa74323e155133c367", func := "halyard/halyardlaw02.BundleHops", spec := "bundleHops", unfollowed := true, recurses := true, apart := false, narrowed := true }
def BundleHopsUptoSaid : Prop := bundleHopsUptoRow.holds Try.pinned (OpenSpec.upto bundleHopsSpec)

end Rows
end Go.Proofs.Ytdpkommmkcmifab
