import Derived.Test.YtibepnilhmbpeaaDoorSLf
namespace Go.Proofs.YtibepnilhmbpeaaDoor
set_option linter.unusedVariables false
set_option linter.unusedSimpArgs false
open Go.RowKit
/-- look, where all is well: nothing changes -/
theorem slook_ok (g p : Nat) (x : Lg) (sa : Option Addr) (sc : Nat) (d : Dst) (n : Nat) (F : Nat → Prop) (w : World) (hg : w.heap[g]? = some (.cells (x.c p sa sc) tLg (0, 0))) (hd : Dsk w p d n F) (hf : x.fl = false) (ho : d.off = false) :
    Calls Tryd.prog 35 #[.pointer (some ⟨g, 0, none⟩)] w fun e w' => e = .returned (.int .i64 0) ∧ w' = w := by
  have HM : Hid (Calls _ _ _ w _) := smade_t g p x sa sc w hg
  have HD : Hid (Calls _ _ _ w _) := hd.down
  rw [ho] at HD
  obtain ⟨c0, -, -, -, -, -, -, -, -, c9⟩ := cells10 hg
  rw [hf] at c9
  clear hg hd hf ho
  go_enter Tryd.func35, Tryd.ntmps35
  go_wp2_with first | (go_at_call 31; refine Calls.mono HM.out ?_; rintro e w' ⟨rfl, hq⟩; have hq := hq.symm; subst hq) | (go_at_call 34; refine Calls.mono HD.out ?_; rintro e w' ⟨rfl, hq⟩; have hq := hq.symm; subst hq)
  go_ret
  exact ⟨rfl, rfl⟩
/-- a log, its disk, and what both want -/
structure LogS (w : World) (g p : Nat) (x : Lg) (sa : Option Addr) (sc : Nat) (d : Dst) (n : Nat) (F : Nat → Prop) : Prop where
  bx : w.heap[g]? = some (.cells (x.c p sa sc) tLg (0, 0))
  rd : RdG KS w sa x.L
  ris : x.L.Pairwise (fun x y => x.n < y.n)
  len : x.L.length ≤ 1000000
  dk : Dsk w p d n F
  gF : ¬ F g
  sF : ∀ a, sa = some a → ¬ F a.block ∧ a.block ≠ g
  cap : x.L.length ≤ sc
  Z : 3 ≤ x.Z
  AZ : x.A + x.Z ≤ d.S.length
  tab : TabOk w
theorem LogS.below {w w' : World} {g p : Nat} {x : Lg} {sa : Option Addr} {sc : Nat} {d : Dst} {n : Nat} {F : Nat → Prop} (h : LogS w g p x sa sc d n F) (hb : Below w.heap.size w w') : LogS w' g p x sa sc d n F :=
  ⟨below_blk hb h.bx, h.rd.below hb, h.ris, h.len, h.dk.below hb, h.gF, h.sF, h.cap, h.Z, h.AZ, h.tab.below hb⟩
/-- begin, of a log -/
theorem LogS.begin {w : World} {g p : Nat} {x : Lg} {sa : Option Addr} {sc : Nat} {d : Dst} {n : Nat} {F : Nat → Prop} (h : LogS w g p x sa sc d n F) (ep f : Nat) (hk : (x.newH ep f).ok) (hn : n + 1 < 1099511627776) :
    Calls Tryd.prog 41 #[.pointer (some ⟨g, 0, none⟩), .int .u64 (ep : Int), .int .u64 (f : Int)] w fun e w' => e = .returned (.int .i64 (opE (runO d (hdO x.A x.Z (x.newH ep f))).2)) ∧ BgOut w g p x sa sc ep f d n F w' :=
  sbegin_t g p x sa sc ep f d n F w h.bx h.rd h.ris h.len h.dk h.gF h.sF h.cap hk h.Z h.AZ hn h.tab
/-- is it the number of a start? -/
def Lg.has (x : Lg) (m : Nat) : Bool := bsF x.L m (cntB x.L m)
end Go.Proofs.YtibepnilhmbpeaaDoor
