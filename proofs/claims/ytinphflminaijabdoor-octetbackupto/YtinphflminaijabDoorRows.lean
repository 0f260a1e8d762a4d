/-
  NARROWER THAN 'FOR EVERY INPUT', by the rows' own cells (each row's printed sentence says how): OctetSeal: laid · OctetNumbers: laid · OctetBurst: laid · OctetBursts: laid · OctetOver: laid · OctetBack: laid.
  DERIVED. THE GIVEN ROWS OF THIS SEAT. 6 by the template 'for every input the law returns true; each argument reads behind the call as it read before'; 0 by the template 'total and deterministic' (their statements: YtinphflminaijabDoorTotals.lean).
  GIVEN WITH THE SEED: the statements are not yours to turn. If you find one false, say at which input.
  Laid BY PROGRAM, IN A SANDBOX (cutbox-rows.mjs): the forced cells as the released guide's own fill.sh prints them over the translation d7d04742785ad856… (all of the seat's roots in one cut). By AI agents, Wed Nov 11 2026. No macro, syntax, notation, axiom, sorry.
-/
import Derived.Test.YtinphflminaijabDoorChecked
import GoSem.Claim
import GoSem.ClaimJoined
import GoSem.ClaimMapViews
import Derived.JoinedTies
import Derived.KernelRfl
namespace Go.Proofs.YtinphflminaijabDoor
/- THE CELL 'sum', in the pinned program and in every row, IS THE sha256 OF THE DUMP (.gsa) THAT YtinphflminaijabDoorProg.lean LOADS. Nothing in Lean hashes anything: it is a label: what it is worth is what the hold of that sum in a sandbox is worth. -/
noncomputable def Tryd.pinned : Pinned := { name := "ytinphflminaijabdoor", sum := "d7d04742785ad85633bed60d3899dc0e91ff4244ac5118dd681be248d618d296", checked := Tryd.checked }
namespace Rows
def none {H : Type} : Left H := { results := [], args := [] }

/- WHAT THE LISTED PACKAGE-LEVEL VARIABLES READ AS WHEN THE CALL BEGINS. Each datum BY PROGRAM (the guide's laid-datum.mjs) off the statement by which the dump's own 'gosem.cut.vars' lays the variable. In a bare row this is a premise. The card (YtinphflminaijabDoorCards.lean) ties it to the program's text. -/
def laid_halyard_octet_sums {H : Type} : DataW H := .agg [.lit (.int .u32 0), .lit (.int .u32 498536548), .lit (.int .u32 997073096), .lit (.int .u32 651767980), .lit (.int .u32 1994146192), .lit (.int .u32 1802195444), .lit (.int .u32 1303535960), .lit (.int .u32 1342533948), .lit (.int .u32 3988292384), .lit (.int .u32 4027552580), .lit (.int .u32 3604390888), .lit (.int .u32 3412177804), .lit (.int .u32 2607071920), .lit (.int .u32 2262029012), .lit (.int .u32 2685067896), .lit (.int .u32 3183342108)]

/-- 'halyardlaw01.OctetSeal': WHATEVER THE INPUT: true; the input reads as it did. -/
def octetSealSpec : ChangeSpec := { name := "octetSeal", fn := fun _ => fun
  | [d] => { results := [.lit (.bool true)], args := [d] }
  | _ => none }
def octetSealRow : OpenClaim := { program := "ytinphflminaijabdoor", sum := "d7d04742785ad85633bed60d3899dc0e91ff4244ac5118dd681be248d618d296", func := "halyard/halyardlaw01.OctetSeal", spec := "octetSeal", named := ["halyard/octet.sums"], apart := false, laid := [("halyard/octet.sums", laid_halyard_octet_sums)] }
def OctetSealSaid : Prop := octetSealRow.holds Tryd.pinned (OpenSpec.ofChange octetSealSpec)

/-- ITS FALSE NEIGHBOUR: 'it returns false'. Refute it at one input. -/
def octetSealWrong : ChangeSpec := { name := "octetSeal", fn := fun _ => fun
  | [d] => { results := [.lit (.bool false)], args := [d] }
  | _ => none }
def OctetSealWrongFalsely : Prop := octetSealRow.holds Tryd.pinned (OpenSpec.ofChange octetSealWrong)

/-- 'halyardlaw01.OctetNumbers': WHATEVER THE INPUT: true; the input reads as it did. -/
def octetNumbersSpec : ChangeSpec := { name := "octetNumbers", fn := fun _ => fun
  | [d] => { results := [.lit (.bool true)], args := [d] }
  | _ => none }
def octetNumbersRow : OpenClaim := { program := "ytinphflminaijabdoor", sum := "d7d04742785ad85633bed60d3899dc0e91ff4244ac5118dd681be248d618d296", func := "halyard/halyardlaw01.OctetNumbers", spec := "octetNumbers", named := ["halyard/octet.sums"], apart := false, laid := [("halyard/octet.sums", laid_halyard_octet_sums)] }
def OctetNumbersSaid : Prop := octetNumbersRow.holds Tryd.pinned (OpenSpec.ofChange octetNumbersSpec)

/-- ITS FALSE NEIGHBOUR: 'it returns false'. Refute it at one input. -/
def octetNumbersWrong : ChangeSpec := { name := "octetNumbers", fn := fun _ => fun
  | [d] => { results := [.lit (.bool false)], args := [d] }
  | _ => none }
def OctetNumbersWrongFalsely : Prop := octetNumbersRow.holds Tryd.pinned (OpenSpec.ofChange octetNumbersWrong)

/-- 'halyardlaw01.OctetBurst': WHATEVER THE INPUT: true; the input reads as it did. -/
def octetBurstSpec : ChangeSpec := { name := "octetBurst", fn := fun _ => fun
  | [d1, d2, d3] => { results := [.lit (.bool true)], args := [d1, d2, d3] }
  | _ => none }
def octetBurstRow : OpenClaim := { program := "ytinphflminaijabdoor", sum := "d7d04742785ad85633bed60d3899dc0e91ff4244ac5118dd681be248d618d296", func := "halyard/halyardlaw01.OctetBurst", spec := "octetBurst", named := ["halyard/octet.sums"], apart := false, laid := [("halyard/octet.sums", laid_halyard_octet_sums)] }
def OctetBurstSaid : Prop := octetBurstRow.holds Tryd.pinned (OpenSpec.ofChange octetBurstSpec)

/-- ITS FALSE NEIGHBOUR: 'it returns false'. Refute it at one input. -/
def octetBurstWrong : ChangeSpec := { name := "octetBurst", fn := fun _ => fun
  | [d1, d2, d3] => { results := [.lit (.bool false)], args := [d1, d2, d3] }
  | _ => none }
def OctetBurstWrongFalsely : Prop := octetBurstRow.holds Tryd.pinned (OpenSpec.ofChange octetBurstWrong)

/-- 'halyardlaw01.OctetBursts': WHATEVER THE INPUT: true; the input reads as it did. -/
def octetBurstsSpec : ChangeSpec := { name := "octetBursts", fn := fun _ => fun
  | [d1, d2, d3] => { results := [.lit (.bool true)], args := [d1, d2, d3] }
  | _ => none }
def octetBurstsRow : OpenClaim := { program := "ytinphflminaijabdoor", sum := "d7d04742785ad85633bed60d3899dc0e91ff4244ac5118dd681be248d618d296", func := "halyard/halyardlaw01.OctetBursts", spec := "octetBursts", named := ["halyard/octet.sums"], apart := false, laid := [("halyard/octet.sums", laid_halyard_octet_sums)] }
def OctetBurstsSaid : Prop := octetBurstsRow.holds Tryd.pinned (OpenSpec.ofChange octetBurstsSpec)

/-- ITS FALSE NEIGHBOUR: 'it returns false'. Refute it at one input. -/
def octetBurstsWrong : ChangeSpec := { name := "octetBursts", fn := fun _ => fun
  | [d1, d2, d3] => { results := [.lit (.bool false)], args := [d1, d2, d3] }
  | _ => none }
def OctetBurstsWrongFalsely : Prop := octetBurstsRow.holds Tryd.pinned (OpenSpec.ofChange octetBurstsWrong)

/-- 'halyardlaw01.OctetOver': WHATEVER THE INPUT: true; the input reads as it did. -/
def octetOverSpec : ChangeSpec := { name := "octetOver", fn := fun _ => fun
  | [d1, d2] => { results := [.lit (.bool true)], args := [d1, d2] }
  | _ => none }
def octetOverRow : OpenClaim := { program := "ytinphflminaijabdoor", sum := "d7d04742785ad85633bed60d3899dc0e91ff4244ac5118dd681be248d618d296", func := "halyard/halyardlaw01.OctetOver", spec := "octetOver", named := ["halyard/octet.sums"], apart := false, laid := [("halyard/octet.sums", laid_halyard_octet_sums)] }
def OctetOverSaid : Prop := octetOverRow.holds Tryd.pinned (OpenSpec.ofChange octetOverSpec)

/-- ITS FALSE NEIGHBOUR: 'it returns false'. Refute it at one input. -/
def octetOverWrong : ChangeSpec := { name := "octetOver", fn := fun _ => fun
  | [d1, d2] => { results := [.lit (.bool false)], args := [d1, d2] }
  | _ => none }
def OctetOverWrongFalsely : Prop := octetOverRow.holds Tryd.pinned (OpenSpec.ofChange octetOverWrong)

/-- 'halyardlaw01.OctetBack': WHATEVER THE INPUT: true; the input reads as it did. -/
def octetBackSpec : ChangeSpec := { name := "octetBack", fn := fun _ => fun
  | [d] => { results := [.lit (.bool true)], args := [d] }
  | _ => none }
def octetBackRow : OpenClaim := { program := "ytinphflminaijabdoor", sum := "d7d04742785ad85633bed60d3899dc0e91ff4244ac5118dd681be248d618d296", func := "halyard/halyardlaw01.OctetBack", spec := "octetBack", named := ["halyard/octet.sums"], apart := false, laid := [("halyard/octet.sums", laid_halyard_octet_sums)] }
def OctetBackSaid : Prop := octetBackRow.holds Tryd.pinned (OpenSpec.ofChange octetBackSpec)

/-- ITS FALSE NEIGHBOUR: 'it returns false'. Refute it at one input. -/
def octetBackWrong : ChangeSpec := { name := "octetBack", fn := fun _ => fun
  | [d] => { results := [.lit (.bool false)], args := [d] }
  | _ => none }
def OctetBackWrongFalsely : Prop := octetBackRow.holds Tryd.pinned (OpenSpec.ofChange octetBackWrong)

/- THE SECOND FORM. 'bulk': how many values and letters a reading holds, each counted each time it is reached (what is shared counts as often as it is met; a slice's spare places count too). A statement '..UptoSaid' is the law's where the arguments, and the package variables that the reading takes, are together of bulk at most 1048576: NARROWER than '..Said'. Prove '..Said' where nothing that the law and all that it calls make is longer than what came in: it says more and counts as full. Else prove '..UptoSaid'. A law counts once. -/
mutual
def uptoBulk {H : Type} : DataW H → Nat
  | .lit (.string bytes) => bytes.length + 1
  | .lit _ => 1
  | .nil => 1
  | .ptr d => uptoBulk d + 1
  | .slice elems spare => uptoBulkAll elems + uptoBulkAll spare + 1
  | .agg parts => uptoBulkAll parts + 1
  | .iface _ d => uptoBulk d + 1
  | .map entries => uptoBulkEntries entries + 1
  | .held _ => 1
def uptoBulkAll {H : Type} : List (DataW H) → Nat
  | [] => 0
  | d :: r => uptoBulk d + uptoBulkAll r
def uptoBulkEntries {H : Type} : List (Lit × DataW H) → Nat
  | [] => 0
  | x :: r => uptoBulkEntry x + uptoBulkEntries r
def uptoBulkEntry {H : Type} : Lit × DataW H → Nat
  | (.string bytes, d) => bytes.length + uptoBulk d + 1
  | (_, d) => uptoBulk d + 1
 end
def uptoSmall : (H : Type) → List (DataW H) → Bool := fun _ ds => decide (uptoBulkAll ds ≤ 1048576)
def OpenSpec.upto (s : _root_.Go.ChangeSpec) : _root_.Go.OpenSpec := { _root_.Go.OpenSpec.ofChange s with cond := some uptoSmall }

/-- 'halyardlaw01.OctetSeal', WHERE WHAT IT READS IS OF BULK AT MOST 1048576: true; the input reads as it did. -/
def octetSealUptoRow : OpenClaim := { program := "ytinphflminaijabdoor", sum := "d7d04742785ad85633bed60d3899dc0e91ff4244ac5118dd681be248d618d296", func := "halyard/halyardlaw01.OctetSeal", spec := "octetSeal", named := ["halyard/octet.sums"], apart := false, laid := [("halyard/octet.sums", laid_halyard_octet_sums)], narrowed := true }
def OctetSealUptoSaid : Prop := octetSealUptoRow.holds Tryd.pinned (OpenSpec.upto octetSealSpec)

/-- 'halyardlaw01.OctetNumbers', WHERE WHAT IT READS IS OF BULK AT MOST 1048576: true; the input reads as it did. -/
def octetNumbersUptoRow : OpenClaim := { program := "ytinphflminaijabdoor", sum := "d7d04742785ad85633bed60d3899dc0e91ff4244ac5118dd681be248d618d296", func := "halyard/halyardlaw01.OctetNumbers", spec := "octetNumbers", named := ["halyard/octet.sums"], apart := false, laid := [("halyard/octet.sums", laid_halyard_octet_sums)], narrowed := true }
def OctetNumbersUptoSaid : Prop := octetNumbersUptoRow.holds Tryd.pinned (OpenSpec.upto octetNumbersSpec)

/-- 'halyardlaw01.OctetBurst', WHERE WHAT IT READS IS OF BULK AT MOST 1048576: true; the input reads as it did. -/
def octetBurstUptoRow : OpenClaim := { program := "ytinphflminaijabdoor", sum := "d7d04742785ad85633bed60d3899dc0e91ff4244ac5118dd681be248d618d296", func := "halyard/halyardlaw01.OctetBurst", spec := "octetBurst", named := ["halyard/octet.sums"], apart := false, laid := [("halyard/octet.sums", laid_halyard_octet_sums)], narrowed := true }
def OctetBurstUptoSaid : Prop := octetBurstUptoRow.holds Tryd.pinned (OpenSpec.upto octetBurstSpec)

/-- 'halyardlaw01.OctetBursts', WHERE WHAT IT READS IS OF BULK AT MOST 1048576: true; the input reads as it did. -/
def octetBurstsUptoRow : OpenClaim := { program := "ytinphflminaijabdoor", sum := "d7d04742785ad85633bed60d3899dc0e91ff4244ac5118dd681be248d618d296", func := "halyard/halyardlaw01.OctetBursts", spec := "octetBursts", named := ["halyard/octet.sums"], apart := false, laid := [("halyard/octet.sums", laid_halyard_octet_sums)], narrowed := true }
def OctetBurstsUptoSaid : Prop := octetBurstsUptoRow.holds Tryd.pinned (OpenSpec.upto octetBurstsSpec)

/-- 'halyardlaw01.OctetOver', WHERE WHAT IT READS IS OF BULK AT MOST 1048576: true; the input reads as it did. -/
def octetOverUptoRow : OpenClaim := { program := "ytinphflminaijabdoor", sum := "d7d04742785ad85633bed60d3899dc0e91ff4244ac5118dd681be248d618d296", func := "halyard/halyardlaw01.OctetOver", spec := "octetOver", named := ["halyard/octet.sums"], apart := false, laid := [("halyard/octet.sums", laid_halyard_octet_sums)], narrowed := true }
def OctetOverUptoSaid : Prop := octetOverUptoRow.holds Tryd.pinned (OpenSpec.upto octetOverSpec)

/-- 'halyardlaw01.OctetBack', WHERE WHAT IT READS IS OF BULK AT MOST 1048576: true; the input reads as it did. -/
def octetBackUptoRow : OpenClaim := { program := "ytinphflminaijabdoor", sum := "d7d04742785ad85633bed60d3899dc0e91ff4244ac5118dd681be248d618d296", func := "halyard/halyardlaw01.OctetBack", spec := "octetBack", named := ["halyard/octet.sums"], apart := false, laid := [("halyard/octet.sums", laid_halyard_octet_sums)], narrowed := true }
def OctetBackUptoSaid : Prop := octetBackUptoRow.holds Tryd.pinned (OpenSpec.upto octetBackSpec)

end Rows
end Go.Proofs.YtinphflminaijabDoor
