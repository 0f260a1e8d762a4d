/-
  NARROWER THAN 'FOR EVERY INPUT', by the rows' own cells (each row's printed sentence says how): SeglogEndless: laid · SeglogApart: laid · SeglogNil: laid · SeglogRanges: laid · SeglogOwn: laid.
  DERIVED. THE GIVEN ROWS OF THIS SEAT. 5 by the template 'for every input the law returns true; each argument reads behind the call as it read before'; 0 by the template 'total and deterministic' (their statements: YtibepnilhmbpeaaDoorTotals.lean).
  GIVEN WITH THE SEED: the statements are not yours to turn. If you find one false, say at which input.
  Laid BY PROGRAM, IN A SANDBOX (cutbox-rows.mjs): the forced cells as the released guide's own fill.sh prints them over the translation 621ba3ddb7456799… (all of the seat's roots in one cut). By AI agents, Wed Nov 11 2026. No macro, syntax, notation, axiom, sorry.
-/
import Derived.Test.YtibepnilhmbpeaaDoorChecked
import GoSem.Claim
import GoSem.ClaimJoined
import GoSem.ClaimMapViews
import Derived.JoinedTies
import Derived.KernelRfl
namespace Go.Proofs.YtibepnilhmbpeaaDoor
/- THE CELL 'sum', in the pinned program and in every row, IS THE sha256 OF THE DUMP (.gsa) THAT YtibepnilhmbpeaaDoorProg.lean LOADS. Nothing in Lean hashes anything: it is a label: what it is worth is what the hold of that sum in a sandbox is worth. -/
noncomputable def Tryd.pinned : Pinned := { name := "ytibepnilhmbpeaadoor", sum := "621ba3ddb745679908d0fff3f472b03c9cbfed94193fc72abd79debfe3998436", checked := Tryd.checked }
namespace Rows
def none {H : Type} : Left H := { results := [], args := [] }

/- WHAT THE LISTED PACKAGE-LEVEL VARIABLES READ AS WHEN THE CALL BEGINS. Each datum BY PROGRAM (the guide's laid-datum.mjs) off the statement by which the dump's own 'gosem.cut.vars' lays the variable. In a bare row this is a premise. The card (YtibepnilhmbpeaaDoorCards.lean) ties it to the program's text. -/
def laid_halyard_octet_sums {H : Type} : DataW H := .agg [.lit (.int .u32 0), .lit (.int .u32 498536548), .lit (.int .u32 997073096), .lit (.int .u32 651767980), .lit (.int .u32 1994146192), .lit (.int .u32 1802195444), .lit (.int .u32 1303535960), .lit (.int .u32 1342533948), .lit (.int .u32 3988292384), .lit (.int .u32 4027552580), .lit (.int .u32 3604390888), .lit (.int .u32 3412177804), .lit (.int .u32 2607071920), .lit (.int .u32 2262029012), .lit (.int .u32 2685067896), .lit (.int .u32 3183342108)]

/-- 'halyardlaw05.SeglogEndless': WHATEVER THE INPUT: true; the input reads as it did. -/
def seglogEndlessSpec : ChangeSpec := { name := "seglogEndless", fn := fun _ => fun
  | [d1, d2, d3] => { results := [.lit (.bool true)], args := [d1, d2, d3] }
  | _ => none }
def seglogEndlessRow : OpenClaim := { program := "ytibepnilhmbpeaadoor", sum := "621ba3ddb745679908d0fff3f472b03c9cbfed94193fc72abd79debfe3998436", func := "halyard/halyardlaw05.SeglogEndless", spec := "seglogEndless", unfollowed := true, recurses := true, named := ["halyard/octet.sums"], apart := false, laid := [("halyard/octet.sums", laid_halyard_octet_sums)] }
def SeglogEndlessSaid : Prop := seglogEndlessRow.holds Tryd.pinned (OpenSpec.ofChange seglogEndlessSpec)

/-- ITS FALSE NEIGHBOUR: 'it returns false'. Refute it at one input. -/
def seglogEndlessWrong : ChangeSpec := { name := "seglogEndless", fn := fun _ => fun
  | [d1, d2, d3] => { results := [.lit (.bool false)], args := [d1, d2, d3] }
  | _ => none }
def SeglogEndlessWrongFalsely : Prop := seglogEndlessRow.holds Tryd.pinned (OpenSpec.ofChange seglogEndlessWrong)

/-- 'halyardlaw05.SeglogApart': WHATEVER THE INPUT: true; the input reads as it did. -/
def seglogApartSpec : ChangeSpec := { name := "seglogApart", fn := fun _ => fun
  | [d1, d2, d3, d4] => { results := [.lit (.bool true)], args := [d1, d2, d3, d4] }
  | _ => none }
def seglogApartRow : OpenClaim := { program := "ytibepnilhmbpeaadoor", sum := "621ba3ddb745679908d0fff3f472b03c9cbfed94193fc72abd79debfe3998436", func := "halyard/halyardlaw05.SeglogApart", spec := "seglogApart", unfollowed := true, recurses := true, named := ["halyard/octet.sums"], apart := false, laid := [("halyard/octet.sums", laid_halyard_octet_sums)] }
def SeglogApartSaid : Prop := seglogApartRow.holds Tryd.pinned (OpenSpec.ofChange seglogApartSpec)

/-- ITS FALSE NEIGHBOUR: 'it returns false'. Refute it at one input. -/
def seglogApartWrong : ChangeSpec := { name := "seglogApart", fn := fun _ => fun
  | [d1, d2, d3, d4] => { results := [.lit (.bool false)], args := [d1, d2, d3, d4] }
  | _ => none }
def SeglogApartWrongFalsely : Prop := seglogApartRow.holds Tryd.pinned (OpenSpec.ofChange seglogApartWrong)

/-- 'halyardlaw05.SeglogNil': WHATEVER THE INPUT: true; the input reads as it did. -/
def seglogNilSpec : ChangeSpec := { name := "seglogNil", fn := fun _ => fun
  | [] => { results := [.lit (.bool true)], args := [] }
  | _ => none }
def seglogNilRow : OpenClaim := { program := "ytibepnilhmbpeaadoor", sum := "621ba3ddb745679908d0fff3f472b03c9cbfed94193fc72abd79debfe3998436", func := "halyard/halyardlaw05.SeglogNil", spec := "seglogNil", unfollowed := true, recurses := true, named := ["halyard/octet.sums"], apart := false, laid := [("halyard/octet.sums", laid_halyard_octet_sums)] }
def SeglogNilSaid : Prop := seglogNilRow.holds Tryd.pinned (OpenSpec.ofChange seglogNilSpec)

/-- ITS FALSE NEIGHBOUR: 'it returns false'. Refute it at one input. -/
def seglogNilWrong : ChangeSpec := { name := "seglogNil", fn := fun _ => fun
  | [] => { results := [.lit (.bool false)], args := [] }
  | _ => none }
def SeglogNilWrongFalsely : Prop := seglogNilRow.holds Tryd.pinned (OpenSpec.ofChange seglogNilWrong)

/-- 'halyardlaw05.SeglogRanges': WHATEVER THE INPUT: true; the input reads as it did. -/
def seglogRangesSpec : ChangeSpec := { name := "seglogRanges", fn := fun _ => fun
  | [d1, d2, d3, d4] => { results := [.lit (.bool true)], args := [d1, d2, d3, d4] }
  | _ => none }
def seglogRangesRow : OpenClaim := { program := "ytibepnilhmbpeaadoor", sum := "621ba3ddb745679908d0fff3f472b03c9cbfed94193fc72abd79debfe3998436", func := "halyard/halyardlaw05.SeglogRanges", spec := "seglogRanges", unfollowed := true, recurses := true, named := ["halyard/octet.sums"], apart := false, laid := [("halyard/octet.sums", laid_halyard_octet_sums)] }
def SeglogRangesSaid : Prop := seglogRangesRow.holds Tryd.pinned (OpenSpec.ofChange seglogRangesSpec)

/-- ITS FALSE NEIGHBOUR: 'it returns false'. Refute it at one input. -/
def seglogRangesWrong : ChangeSpec := { name := "seglogRanges", fn := fun _ => fun
  | [d1, d2, d3, d4] => { results := [.lit (.bool false)], args := [d1, d2, d3, d4] }
  | _ => none }
def SeglogRangesWrongFalsely : Prop := seglogRangesRow.holds Tryd.pinned (OpenSpec.ofChange seglogRangesWrong)

/-- 'halyardlaw05.SeglogOwn': WHATEVER THE INPUT: true; the input reads as it did. -/
def seglogOwnSpec : ChangeSpec := { name := "seglogOwn", fn := fun _ => fun
  | [d1, d2, d3] => { results := [.lit (.bool true)], args := [d1, d2, d3] }
  | _ => none }
def seglogOwnRow : OpenClaim := { program := "ytibepnilhmbpeaadoor", sum := "621ba3ddb745679908d0fff3f472b03c9cbfed94193fc72abd79debfe3998436", func := "halyard/halyardlaw05.SeglogOwn", spec := "seglogOwn", unfollowed := true, recurses := true, named := ["halyard/octet.sums"], apart := false, laid := [("halyard/octet.sums", laid_halyard_octet_sums)] }
def SeglogOwnSaid : Prop := seglogOwnRow.holds Tryd.pinned (OpenSpec.ofChange seglogOwnSpec)

/-- ITS FALSE NEIGHBOUR: 'it returns false'. Refute it at one input. -/
def seglogOwnWrong : ChangeSpec := { name := "seglogOwn", fn := fun _ => fun
  | [d1, d2, d3] => { results := [.lit (.bool false)], args := [d1, d2, d3] }
  | _ => none }
def SeglogOwnWrongFalsely : Prop := seglogOwnRow.holds Tryd.pinned (OpenSpec.ofChange seglogOwnWrong)

/- THE SECOND FORM. 'bulk': how many values and letters a reading holds, each counted each time it is reached (what is shared counts as often as it is met; a slice's spare places count too). A statement '..UptoSaid' is the law's where the arguments, and the package variables that the reading takes, are together of bulk at most 1048576: NARROWER than '..Said'. Prove '..Said' where nothing that the law and all that it calls make is longer than what came in: it says more and counts as full. Else prove '..UptoSaid'. A law counts once. -/
mutual
def uptoBulk {H : Type} : DataW H → Nat
  | .lit (.string bytes) => bytes.length + 1
  | .lit _ => 1
  | .nil => 1
  | .ptr d => uptoBulk d + 1
  | .slice elems spare => uptoBulkAll elems + uptoBulkAll spare + 1
  | .agg parts => uptoBulkAll parts + 1
  | .iface _ d => uptoBulk d + 1
  | .map entries => uptoBulkEntries entries + 1
  | .held _ => 1
def uptoBulkAll {H : Type} : List (DataW H) → Nat
  | [] => 0
  | d :: r => uptoBulk d + uptoBulkAll r
def uptoBulkEntries {H : Type} : List (Lit × DataW H) → Nat
  | [] => 0
  | x :: r => uptoBulkEntry x + uptoBulkEntries r
def uptoBulkEntry {H : Type} : Lit × DataW H → Nat
  | (.string bytes, d) => bytes.length + uptoBulk d + 1
  | (_, d) => uptoBulk d + 1
 end
def uptoSmall : (H : Type) → List (DataW H) → Bool := fun _ ds => decide (uptoBulkAll ds ≤ 1048576)
def OpenSpec.upto (s : _root_.Go.ChangeSpec) : _root_.Go.OpenSpec := { _root_.Go.OpenSpec.ofChange s with cond := some uptoSmall }

/-- 'halyardlaw05.SeglogEndless', WHERE WHAT IT READS IS OF BULK AT MOST 1048576: true; the input reads as it did. -/
def seglogEndlessUptoRow : OpenClaim := { program := "ytibepnilhmbpeaadoor", sum := "621ba3ddb745679908d0fff3f472b03c9cbfed94193fc72abd79debfe3998436", func := "halyard/halyardlaw05.SeglogEndless", spec := "seglogEndless", unfollowed := true, recurses := true, named := ["halyard/octet.sums"], apart := false, laid := [("halyard/octet.sums", laid_halyard_octet_sums)], narrowed := true }
def SeglogEndlessUptoSaid : Prop := seglogEndlessUptoRow.holds Tryd.pinned (OpenSpec.upto seglogEndlessSpec)

/-- 'halyardlaw05.SeglogApart', WHERE WHAT IT READS IS OF BULK AT MOST 1048576: true; the input reads as it did. -/
def seglogApartUptoRow : OpenClaim := { program := "ytibepnilhmbpeaadoor", sum := "621ba3ddb745679908d0fff3f472b03c9cbfed94193fc72abd79debfe3998436", func := "halyard/halyardlaw05.SeglogApart", spec := "seglogApart", unfollowed := true, recurses := true, named := ["halyard/octet.sums"], apart := false, laid := [("halyard/octet.sums", laid_halyard_octet_sums)], narrowed := true }
def SeglogApartUptoSaid : Prop := seglogApartUptoRow.holds Tryd.pinned (OpenSpec.upto seglogApartSpec)

/-- 'halyardlaw05.SeglogNil', WHERE WHAT IT READS IS OF BULK AT MOST 1048576: true; the input reads as it did. -/
def seglogNilUptoRow : OpenClaim := { program := "ytibepnilhmbpeaadoor", sum := "621ba3ddb745679908d0fff3f472b03c9cbfed94193fc72abd79debfe3998436", func := "halyard/halyardlaw05.SeglogNil", spec := "seglogNil", unfollowed := true, recurses := true, named := ["halyard/octet.sums"], apart := false, laid := [("halyard/octet.sums", laid_halyard_octet_sums)], narrowed := true }
def SeglogNilUptoSaid : Prop := seglogNilUptoRow.holds Tryd.pinned (OpenSpec.upto seglogNilSpec)

/-- 'halyardlaw05.SeglogRanges', WHERE WHAT IT READS IS OF BULK AT MOST 1048576: true; the input reads as it did. -/
def seglogRangesUptoRow : OpenClaim := { program := "ytibepnilhmbpeaadoor", sum := "621ba3ddb745679908d0fff3f472b03c9cbfed94193fc72abd79debfe3998436", func := "halyard/halyardlaw05.SeglogRanges", spec := "seglogRanges", unfollowed := true, recurses := true, named := ["halyard/octet.sums"], apart := false, laid := [("halyard/octet.sums", laid_halyard_octet_sums)], narrowed := true }
def SeglogRangesUptoSaid : Prop := seglogRangesUptoRow.holds Tryd.pinned (OpenSpec.upto seglogRangesSpec)

/-- 'halyardlaw05.SeglogOwn', WHERE WHAT IT READS IS OF BULK AT MOST 1048576: true; the input reads as it did. -/
def seglogOwnUptoRow : OpenClaim := { program := "ytibepnilhmbpeaadoor", sum := "621ba3ddb745679908d0fff3f472b03c9cbfed94193fc72abd79debfe3998436", func := "halyard/halyardlaw05.SeglogOwn", spec := "seglogOwn", unfollowed := true, recurses := true, named := ["halyard/octet.sums"], apart := false, laid := [("halyard/octet.sums", laid_halyard_octet_sums)], narrowed := true }
def SeglogOwnUptoSaid : Prop := seglogOwnUptoRow.holds Tryd.pinned (OpenSpec.upto seglogOwnSpec)

end Rows
end Go.Proofs.YtibepnilhmbpeaaDoor
