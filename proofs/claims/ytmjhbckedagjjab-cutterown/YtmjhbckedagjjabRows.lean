/-
  No cell of these rows narrows 'for every input' (looked for: loops, veiled, ifaces, maps, wideKeys, modest, calm, conditions, laid).
  DERIVED. THE GIVEN ROWS OF THIS SEAT. 4 by the template 'for every input the law returns true; each argument reads behind the call as it read before'; 0 by the template 'total and deterministic' (their statements: YtmjhbckedagjjabTotals.lean).
  GIVEN WITH THE SEED: the statements are not yours to turn. If you find one false, say at which input.
  Laid BY PROGRAM, IN A SANDBOX (cutbox-rows.mjs): the forced cells as the released guide's own fill.sh prints them over the translation 7422436446bb4f15… (all of the seat's roots in one cut). By AI agents, Wed Nov 11 2026. No macro, syntax, notation, axiom, sorry.
-/
import Derived.Test.YtmjhbckedagjjabChecked
import GoSem.Claim
import GoSem.ClaimJoined
import GoSem.ClaimMapViews
import Derived.JoinedTies
import Derived.KernelRfl
namespace Go.Proofs.Ytmjhbckedagjjab
/- THE CELL 'sum', in the pinned program and in every row, IS THE sha256 OF THE DUMP (.gsa) THAT YtmjhbckedagjjabProg.lean LOADS. Nothing in Lean hashes anything: it is a label: what it is worth is what the hold of that sum in a sandbox is worth. -/
noncomputable def Try.pinned : Pinned := { name := "ytmjhbckedagjjab", sum := "7422436446bb4f1587470eaef01eb01fecbfef3aedd328c4037cf753fe0800d8", checked := Try.checked }
namespace Rows
def none {H : Type} : Left H := { results := [], args := [] }

/-- 'halyardlaw12.CutterPlays': WHATEVER THE INPUT: true; the input reads as it did. -/
def cutterPlaysSpec : ChangeSpec := { name := "cutterPlays", fn := fun _ => fun
  | [d] => { results := [.lit (.bool true)], args := [d] }
  | _ => none }
def cutterPlaysRow : OpenClaim := { program := "ytmjhbckedagjjab", sum := "7422436446bb4f1587470eaef01eb01fecbfef3aedd328c4037cf753fe0800d8", func := "halyard/halyardlaw12.CutterPlays", spec := "cutterPlays", unfollowed := true, recurses := true, apart := false }
def CutterPlaysSaid : Prop := cutterPlaysRow.holds Try.pinned (OpenSpec.ofChange cutterPlaysSpec)

/-- ITS FALSE NEIGHBOUR: 'it returns false'. Refute it at one input. -/
def cutterPlaysWrong : ChangeSpec := { name := "cutterPlays", fn := fun _ => fun
  | [d] => { results := [.lit (.bool false)], args := [d] }
  | _ => none }
def CutterPlaysWrongFalsely : Prop := cutterPlaysRow.holds Try.pinned (OpenSpec.ofChange cutterPlaysWrong)

/-- 'halyardlaw12.CutterTwo': WHATEVER THE INPUT: true; the input reads as it did. -/
def cutterTwoSpec : ChangeSpec := { name := "cutterTwo", fn := fun _ => fun
  | [d1, d2] => { results := [.lit (.bool true)], args := [d1, d2] }
  | _ => none }
def cutterTwoRow : OpenClaim := { program := "ytmjhbckedagjjab", sum := "7422436446bb4f1587470eaef01eb01fecbfef3aedd328c4037cf753fe0800d8", func := "halyard/halyardlaw12.CutterTwo", spec := "cutterTwo", unfollowed := true, recurses := true, apart := false }
def CutterTwoSaid : Prop := cutterTwoRow.holds Try.pinned (OpenSpec.ofChange cutterTwoSpec)

/-- ITS FALSE NEIGHBOUR: 'it returns false'. Refute it at one input. -/
def cutterTwoWrong : ChangeSpec := { name := "cutterTwo", fn := fun _ => fun
  | [d1, d2] => { results := [.lit (.bool false)], args := [d1, d2] }
  | _ => none }
def CutterTwoWrongFalsely : Prop := cutterTwoRow.holds Try.pinned (OpenSpec.ofChange cutterTwoWrong)

/-- 'halyardlaw12.CutterNil': WHATEVER THE INPUT: true; the input reads as it did. -/
def cutterNilSpec : ChangeSpec := { name := "cutterNil", fn := fun _ => fun
  | [d] => { results := [.lit (.bool true)], args := [d] }
  | _ => none }
def cutterNilRow : OpenClaim := { program := "ytmjhbckedagjjab", sum := "7422436446bb4f1587470eaef01eb01fecbfef3aedd328c4037cf753fe0800d8", func := "halyard/halyardlaw12.CutterNil", spec := "cutterNil", unfollowed := true, recurses := true, apart := false }
def CutterNilSaid : Prop := cutterNilRow.holds Try.pinned (OpenSpec.ofChange cutterNilSpec)

/-- ITS FALSE NEIGHBOUR: 'it returns false'. Refute it at one input. -/
def cutterNilWrong : ChangeSpec := { name := "cutterNil", fn := fun _ => fun
  | [d] => { results := [.lit (.bool false)], args := [d] }
  | _ => none }
def CutterNilWrongFalsely : Prop := cutterNilRow.holds Try.pinned (OpenSpec.ofChange cutterNilWrong)

/-- 'halyardlaw12.CutterOwn': WHATEVER THE INPUT: true; the input reads as it did. -/
def cutterOwnSpec : ChangeSpec := { name := "cutterOwn", fn := fun _ => fun
  | [d1, d2, d3] => { results := [.lit (.bool true)], args := [d1, d2, d3] }
  | _ => none }
def cutterOwnRow : OpenClaim := { program := "ytmjhbckedagjjab", sum := "7422436446bb4f1587470eaef01eb01fecbfef3aedd328c4037cf753fe0800d8", func := "halyard/halyardlaw12.CutterOwn", spec := "cutterOwn", unfollowed := true, recurses := true, apart := false }
def CutterOwnSaid : Prop := cutterOwnRow.holds Try.pinned (OpenSpec.ofChange cutterOwnSpec)

/-- ITS FALSE NEIGHBOUR: 'it returns false'. Refute it at one input. -/
def cutterOwnWrong : ChangeSpec := { name := "cutterOwn", fn := fun _ => fun
  | [d1, d2, d3] => { results := [.lit (.bool false)], args := [d1, d2, d3] }
  | _ => none }
def CutterOwnWrongFalsely : Prop := cutterOwnRow.holds Try.pinned (OpenSpec.ofChange cutterOwnWrong)

/- THE SECOND FORM. 'bulk': how many values and letters a reading holds, each counted each time it is reached (what is shared counts as often as it is met; a slice's spare places count too). A statement '..UptoSaid' is the law's where the arguments, and the package variables that the reading takes, are together of bulk at most 1048576: NARROWER than '..Said'. Prove '..Said' where nothing that the law and all that it calls make is longer than what came in: it says more and counts as full. Else prove '..UptoSaid'. A law counts once. -/
mutual
def uptoBulk {H : Type} : DataW H → Nat
  | .lit (.string bytes) => bytes.length + 1
  | .lit _ => 1
  | .nil => 1
  | .ptr d => uptoBulk d + 1
  | .slice elems spare => uptoBulkAll elems + uptoBulkAll spare + 1
  | .agg parts => uptoBulkAll parts + 1
  | .iface _ d => uptoBulk d + 1
  | .map entries => uptoBulkEntries entries + 1
  | .held _ => 1
def uptoBulkAll {H : Type} : List (DataW H) → Nat
  | [] => 0
  | d :: r => uptoBulk d + uptoBulkAll r
def uptoBulkEntries {H : Type} : List (Lit × DataW H) → Nat
  | [] => 0
  | x :: r => uptoBulkEntry x + uptoBulkEntries r
def uptoBulkEntry {H : Type} : Lit × DataW H → Nat
  | (.string bytes, d) => bytes.length + uptoBulk d + 1
  | (_, d) => uptoBulk d + 1
 end
def uptoSmall : (H : Type) → List (DataW H) → Bool := fun _ ds => decide (uptoBulkAll ds ≤ 1048576)
def OpenSpec.upto (s : _root_.Go.ChangeSpec) : _root_.Go.OpenSpec := { _root_.Go.OpenSpec.ofChange s with cond := some uptoSmall }

/-- 'halyardlaw12.CutterPlays', WHERE WHAT IT READS IS OF BULK AT MOST 1048576: true; the input reads as it did. -/
def cutterPlaysUptoRow : OpenClaim := { program := "ytmjhbckedagjjab", sum := "7422436446bb4f1587470eaef01eb01fecbfef3aedd328c4037cf753fe0800d8", func := "halyard/halyardlaw12.CutterPlays", spec := "cutterPlays", unfollowed := true, recurses := true, apart := false, narrowed := true }
def CutterPlaysUptoSaid : Prop := cutterPlaysUptoRow.holds Try.pinned (OpenSpec.upto cutterPlaysSpec)

/-- 'halyardlaw12.CutterTwo', WHERE WHAT IT READS IS OF BULK AT MOST 1048576: true; the input reads as it did. -/
def cutterTwoUptoRow : OpenClaim := { program := "ytmjhbckedagjjab", sum := "7422436446bb4f1587470eaef01eb01fecbfef3aedd328c4037cf753fe0800d8", func := "halyard/halyardlaw12.CutterTwo", spec := "cutterTwo", unfollowed := true, recurses := true, apart := false, narrowed := true }
def CutterTwoUptoSaid : Prop := cutterTwoUptoRow.holds Try.pinned (OpenSpec.upto cutterTwoSpec)

/-- 'halyardlaw12.CutterNil', WHERE WHAT IT READS IS OF BULK AT MOST 1048576: true; the input reads as it did. -/
def cutterNilUptoRow : OpenClaim := { program := "ytmjhbckedagjjab", sum := "7422436446bb4f1587470eaef01eb01fecbfef3aedd328c4037cf753fe0800d8", func := "halyard/halyardlaw12.CutterNil", spec := "cutterNil", unfollowed := true, recurses := true, apart := false, narrowed := true }
def CutterNilUptoSaid : Prop := cutterNilUptoRow.holds Try.pinned (OpenSpec.upto cutterNilSpec)

/-- 'halyardlaw12.CutterOwn', WHERE WHAT IT READS IS OF BULK AT MOST 1048576: true; the input reads as it did. -/
def cutterOwnUptoRow : OpenClaim := { program := "ytmjhbckedagjjab", sum := "7422436446bb4f1587470eaef01eb01fecbfef3aedd328c4037cf753fe0800d8", func := "halyard/halyardlaw12.CutterOwn", spec := "cutterOwn", unfollowed := true, recurses := true, apart := false, narrowed := true }
def CutterOwnUptoSaid : Prop := cutterOwnUptoRow.holds Try.pinned (OpenSpec.upto cutterOwnSpec)

end Rows
end Go.Proofs.Ytmjhbckedagjjab
