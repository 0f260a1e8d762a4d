/-
  NARROWER THAN 'FOR EVERY INPUT', by the rows' own cells (each row's printed sentence says how): OctetOneWay: laid · OctetNames: laid · OctetTwice: laid · OctetSums: laid.
  DERIVED. THE GIVEN ROWS OF THIS SEAT. 4 by the template 'for every input the law returns true; each argument reads behind the call as it read before'; 0 by the template 'total and deterministic' (their statements: YtinphflminaijaaDoorTotals.lean).
  GIVEN WITH THE SEED: the statements are not yours to turn. If you find one false, say at which input.
  Laid BY PROGRAM, IN A SANDBOX (cutbox-rows.mjs): the forced cells as the released guide's own fill.sh prints them over the translation fea9270f2557c25c… (all of the seat's roots in one cut). By AI agents, Wed Nov 11 2026. No macro, syntax, notation, axiom, sorry.
-/
import Derived.Test.YtinphflminaijaaDoorChecked
import GoSem.Claim
import GoSem.ClaimJoined
import GoSem.ClaimMapViews
import Derived.JoinedTies
import Derived.KernelRfl
namespace Go.Proofs.YtinphflminaijaaDoor
/- THE CELL 'sum', in the pinned program and in every row, IS THE sha256 OF THE DUMP (.gsa) THAT YtinphflminaijaaDoorProg.lean LOADS. Nothing in Lean hashes anything: it is a label: what it is worth is what the hold of that sum in a sandbox is worth. -/
noncomputable def Tryd.pinned : Pinned := { name := "ytinphflminaijaadoor", sum := "fea9270f2557c25cfb2a4c7918df9671b5307f4222ccd46c60ddd47e2a425d88", checked := Tryd.checked }
namespace Rows
def none {H : Type} : Left H := { results := [], args := [] }

/- WHAT THE LISTED PACKAGE-LEVEL VARIABLES READ AS WHEN THE CALL BEGINS. Each datum BY PROGRAM (the guide's laid-datum.mjs) off the statement by which the dump's own 'gosem.cut.vars' lays the variable. In a bare row this is a premise. The card (YtinphflminaijaaDoorCards.lean) ties it to the program's text. -/
def laid_halyard_octet_sums {H : Type} : DataW H := .agg [.lit (.int .u32 0), .lit (.int .u32 498536548), .lit (.int .u32 997073096), .lit (.int .u32 651767980), .lit (.int .u32 1994146192), .lit (.int .u32 1802195444), .lit (.int .u32 1303535960), .lit (.int .u32 1342533948), .lit (.int .u32 3988292384), .lit (.int .u32 4027552580), .lit (.int .u32 3604390888), .lit (.int .u32 3412177804), .lit (.int .u32 2607071920), .lit (.int .u32 2262029012), .lit (.int .u32 2685067896), .lit (.int .u32 3183342108)]

/-- 'halyardlaw01.OctetOneWay': WHATEVER THE INPUT: true; the input reads as it did. -/
def octetOneWaySpec : ChangeSpec := { name := "octetOneWay", fn := fun _ => fun
  | [d1, d2, d3] => { results := [.lit (.bool true)], args := [d1, d2, d3] }
  | _ => none }
def octetOneWayRow : OpenClaim := { program := "ytinphflminaijaadoor", sum := "fea9270f2557c25cfb2a4c7918df9671b5307f4222ccd46c60ddd47e2a425d88", func := "halyard/halyardlaw01.OctetOneWay", spec := "octetOneWay", named := ["halyard/octet.sums"], apart := false, laid := [("halyard/octet.sums", laid_halyard_octet_sums)] }
def OctetOneWaySaid : Prop := octetOneWayRow.holds Tryd.pinned (OpenSpec.ofChange octetOneWaySpec)

/-- ITS FALSE NEIGHBOUR: 'it returns false'. Refute it at one input. -/
def octetOneWayWrong : ChangeSpec := { name := "octetOneWay", fn := fun _ => fun
  | [d1, d2, d3] => { results := [.lit (.bool false)], args := [d1, d2, d3] }
  | _ => none }
def OctetOneWayWrongFalsely : Prop := octetOneWayRow.holds Tryd.pinned (OpenSpec.ofChange octetOneWayWrong)

/-- 'halyardlaw01.OctetNames': WHATEVER THE INPUT: true; the input reads as it did. -/
def octetNamesSpec : ChangeSpec := { name := "octetNames", fn := fun _ => fun
  | [] => { results := [.lit (.bool true)], args := [] }
  | _ => none }
def octetNamesRow : OpenClaim := { program := "ytinphflminaijaadoor", sum := "fea9270f2557c25cfb2a4c7918df9671b5307f4222ccd46c60ddd47e2a425d88", func := "halyard/halyardlaw01.OctetNames", spec := "octetNames", named := ["halyard/octet.sums"], apart := false, laid := [("halyard/octet.sums", laid_halyard_octet_sums)] }
def OctetNamesSaid : Prop := octetNamesRow.holds Tryd.pinned (OpenSpec.ofChange octetNamesSpec)

/-- ITS FALSE NEIGHBOUR: 'it returns false'. Refute it at one input. -/
def octetNamesWrong : ChangeSpec := { name := "octetNames", fn := fun _ => fun
  | [] => { results := [.lit (.bool false)], args := [] }
  | _ => none }
def OctetNamesWrongFalsely : Prop := octetNamesRow.holds Tryd.pinned (OpenSpec.ofChange octetNamesWrong)

/-- 'halyardlaw01.OctetTwice': WHATEVER THE INPUT: true; the input reads as it did. -/
def octetTwiceSpec : ChangeSpec := { name := "octetTwice", fn := fun _ => fun
  | [d1, d2, d3] => { results := [.lit (.bool true)], args := [d1, d2, d3] }
  | _ => none }
def octetTwiceRow : OpenClaim := { program := "ytinphflminaijaadoor", sum := "fea9270f2557c25cfb2a4c7918df9671b5307f4222ccd46c60ddd47e2a425d88", func := "halyard/halyardlaw01.OctetTwice", spec := "octetTwice", named := ["halyard/octet.sums"], apart := false, laid := [("halyard/octet.sums", laid_halyard_octet_sums)] }
def OctetTwiceSaid : Prop := octetTwiceRow.holds Tryd.pinned (OpenSpec.ofChange octetTwiceSpec)

/-- ITS FALSE NEIGHBOUR: 'it returns false'. Refute it at one input. -/
def octetTwiceWrong : ChangeSpec := { name := "octetTwice", fn := fun _ => fun
  | [d1, d2, d3] => { results := [.lit (.bool false)], args := [d1, d2, d3] }
  | _ => none }
def OctetTwiceWrongFalsely : Prop := octetTwiceRow.holds Tryd.pinned (OpenSpec.ofChange octetTwiceWrong)

/-- 'halyardlaw01.OctetSums': WHATEVER THE INPUT: true; the input reads as it did. -/
def octetSumsSpec : ChangeSpec := { name := "octetSums", fn := fun _ => fun
  | [d] => { results := [.lit (.bool true)], args := [d] }
  | _ => none }
def octetSumsRow : OpenClaim := { program := "ytinphflminaijaadoor", sum := "fea9270f2557c25cfb2a4c7918df9671b5307f4222ccd46c60ddd47e2a425d88", func := "halyard/halyardlaw01.OctetSums", spec := "octetSums", named := ["halyard/octet.sums"], apart := false, laid := [("halyard/octet.sums", laid_halyard_octet_sums)] }
def OctetSumsSaid : Prop := octetSumsRow.holds Tryd.pinned (OpenSpec.ofChange octetSumsSpec)

/-- ITS FALSE NEIGHBOUR: 'it returns false'. Refute it at one input. -/
def octetSumsWrong : ChangeSpec := { name := "octetSums", fn := fun _ => fun
  | [d] => { results := [.lit (.bool false)], args := [d] }
  | _ => none }
def OctetSumsWrongFalsely : Prop := octetSumsRow.holds Tryd.pinned (OpenSpec.ofChange octetSumsWrong)

/- THE SECOND FORM. 'bulk': how many values and letters a reading holds, each counted each time it is reached (what is shared counts as often as it is met; a slice's spare places count too). A statement '..UptoSaid' is the law's where the arguments, and the package variables that the reading takes, are together of bulk at most 1048576: NARROWER than '..Said'. Prove '..Said' where nothing that the law and all that it calls make is longer than what came in: it says more and counts as full. Else prove '..UptoSaid'. A law counts once. -/
mutual
def uptoBulk {H : Type} : DataW H → Nat
  | .lit (.string bytes) => bytes.length + 1
  | .lit _ => 1
  | .nil => 1
  | .ptr d => uptoBulk d + 1
  | .slice elems spare => uptoBulkAll elems + uptoBulkAll spare + 1
  | .agg parts => uptoBulkAll parts + 1
  | .iface _ d => uptoBulk d + 1
  | .map entries => uptoBulkEntries entries + 1
  | .held _ => 1
def uptoBulkAll {H : Type} : List (DataW H) → Nat
  | [] => 0
  | d :: r => uptoBulk d + uptoBulkAll r
def uptoBulkEntries {H : Type} : List (Lit × DataW H) → Nat
  | [] => 0
  | x :: r => uptoBulkEntry x + uptoBulkEntries r
def uptoBulkEntry {H : Type} : Lit × DataW H → Nat
  | (.string bytes, d) => bytes.length + uptoBulk d + 1
  | (_, d) => uptoBulk d + 1
 end
def uptoSmall : (H : Type) → List (DataW H) → Bool := fun _ ds => decide (uptoBulkAll ds ≤ 1048576)
def OpenSpec.upto (s : _root_.Go.ChangeSpec) : _root_.Go.OpenSpec := { _root_.Go.OpenSpec.ofChange s with cond := some uptoSmall }

/-- 'halyardlaw01.OctetOneWay', WHERE WHAT IT READS IS OF BULK AT MOST 1048576: true; the input reads as it did. -/
def octetOneWayUptoRow : OpenClaim := { program := "ytinphflminaijaadoor", sum := "fea9270f2557c25cfb2a4c7918df9671b5307f4222ccd46c60ddd47e2a425d88", func := "halyard/halyardlaw01.OctetOneWay", spec := "octetOneWay", named := ["halyard/octet.sums"], apart := false, laid := [("halyard/octet.sums", laid_halyard_octet_sums)], narrowed := true }
def OctetOneWayUptoSaid : Prop := octetOneWayUptoRow.holds Tryd.pinned (OpenSpec.upto octetOneWaySpec)

/-- 'halyardlaw01.OctetNames', WHERE WHAT IT READS IS OF BULK AT MOST 1048576: true; the input reads as it did. -/
def octetNamesUptoRow : OpenClaim := { program := "ytinphflminaijaadoor", sum := "fea9270f2557c25cfb2a4c7918df9671b5307f4222ccd46c60ddd47e2a425d88", func := "halyard/halyardlaw01.OctetNames", spec := "octetNames", named := ["halyard/octet.sums"], apart := false, laid := [("halyard/octet.sums", laid_halyard_octet_sums)], narrowed := true }
def OctetNamesUptoSaid : Prop := octetNamesUptoRow.holds Tryd.pinned (OpenSpec.upto octetNamesSpec)

/-- 'halyardlaw01.OctetTwice', WHERE WHAT IT READS IS OF BULK AT MOST 1048576: true; the input reads as it did. -/
def octetTwiceUptoRow : OpenClaim := { program := "ytinphflminaijaadoor", sum := "fea9270f2557c25cfb2a4c7918df9671b5307f4222ccd46c60ddd47e2a425d88", func := "halyard/halyardlaw01.OctetTwice", spec := "octetTwice", named := ["halyard/octet.sums"], apart := false, laid := [("halyard/octet.sums", laid_halyard_octet_sums)], narrowed := true }
def OctetTwiceUptoSaid : Prop := octetTwiceUptoRow.holds Tryd.pinned (OpenSpec.upto octetTwiceSpec)

/-- 'halyardlaw01.OctetSums', WHERE WHAT IT READS IS OF BULK AT MOST 1048576: true; the input reads as it did. -/
def octetSumsUptoRow : OpenClaim := { program := "ytinphflminaijaadoor", sum := "fea9270f2557c25cfb2a4c7918df9671b5307f4222ccd46c60ddd47e2a425d88", func := "halyard/halyardlaw01.OctetSums", spec := "octetSums", named := ["halyard/octet.sums"], apart := false, laid := [("halyard/octet.sums", laid_halyard_octet_sums)], narrowed := true }
def OctetSumsUptoSaid : Prop := octetSumsUptoRow.holds Tryd.pinned (OpenSpec.upto octetSumsSpec)

end Rows
end Go.Proofs.YtinphflminaijaaDoor
