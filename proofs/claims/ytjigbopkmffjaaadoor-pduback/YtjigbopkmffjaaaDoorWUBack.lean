import Derived.Test.YtjigbopkmffjaaaDoorWUBka
import Derived.Test.YtjigbopkmffjaaaDoorWUBkb
import Derived.Test.YtjigbopkmffjaaaDoorWUBkc
import Derived.Test.YtjigbopkmffjaaaDoorWUBkd
namespace Go.Proofs.YtjigbopkmffjaaaDoor
set_option linter.unusedVariables false
set_option linter.unusedSimpArgs false
open Go.RowKit
theorem pduBack_walk (k e s p i c : Int) (da : Option Addr) (dc : Nat) (ds : List UInt8) (cd : Int) (ga : Option Addr) (gc : Nat) (l : List Rg) (ta : Option Addr) (tc : Nat) (ts : List UInt8) (w : World)
    (hd : Rd w da ds) (hdl : ds.length ≤ dc) (hdn : da = none → dc = 0) (hdc : dc ≤ 140737488351232) (hg : RdR w ga l) (hgl : l.length ≤ gc) (hgc : gc ≤ 8796093021952) (htd : Rd w ta ts) (htl : ts.length ≤ tc) (htc : tc ≤ 140737488351232) (htn : ta = none → tc = 0) (ht : TabOk w) :
    Calls Tryd.prog 3 #[.agg #[.int .i64 k, .int .u64 e, .int .u64 s, .int .i64 p, .int .i64 i, .int .i64 c, .slice da ds.length dc, .int .i64 cd, .slice ga l.length gc], .slice ta ts.length tc] w fun er w' => er = .returned (.bool true) ∧ Below w.heap.size w w' := by
  by_cases hv : validV ⟨k, e, s, p, i, c, ds, cd, l⟩
  · by_cases hr : (decU (ts ++ sealL ts)).2 = 0
    · exact pduBack_a k e s p i c da dc ds cd ga gc l ta tc ts w hd hdl hdn hdc hg hgl hgc htd htl htc htn ht hv hr
    · exact pduBack_b k e s p i c da dc ds cd ga gc l ta tc ts w hd hdl hdn hdc hg hgl hgc htd htl htc htn ht hv hr
  · by_cases hr : (decU (ts ++ sealL ts)).2 = 0
    · exact pduBack_c k e s p i c da dc ds cd ga gc l ta tc ts w hd hdl hdn hdc hg hgl hgc htd htl htc htn ht hv hr
    · exact pduBack_d k e s p i c da dc ds cd ga gc l ta tc ts w hd hdl hdn hdc hg hgl hgc htd htl htc htn ht hv hr
end Go.Proofs.YtjigbopkmffjaaaDoor
