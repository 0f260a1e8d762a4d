import Derived.Test.YtibepnilhmbpeaaDoorSLf
namespace Go.Proofs.YtibepnilhmbpeaaDoor
set_option linter.unusedVariables false
set_option linter.unusedSimpArgs false
open Go.RowKit
/-- look, where all is well: nothing changes -/
theorem slook_ok (g p : Nat) (x : Lg) (sa : Option Addr) (sc : Nat) (d : Dst) (n : Nat) (F : Nat → Prop) (w : World) (hg : w.heap[g]? = some (.cells (x.c p sa sc) tLg (0, 0))) (hd : Dsk w p d n F) (hf : x.fl = false) (ho : d.off = false) :
    Calls Tryd.prog 35 #[.pointer (some ⟨g, 0, none⟩)] w fun e w' => e = .returned (.int .i64 0) ∧ w' = w := by
  have HM : Hid (Calls _ _ _ w _) := smade_t g p x sa sc w hg
  have HD : Hid (Calls _ _ _ w _) := hd.down
  rw [ho] at HD
  obtain ⟨c0, -, -, -, -, -, -, -, -, c9⟩ := cells10 hg
  rw [hf] at c9
  clear hg hd hf ho
  go_enter Tryd.func35, Tryd.ntmps35
  go_wp2_with first | (go_at_call 31; refine Calls.mono HM.out ?_; rintro e w' ⟨rfl, hq⟩; have hq := hq.symm; subst hq) | (go_at_call 34; refine Calls.mono HD.out ?_; rintro e w' ⟨rfl, hq⟩; have hq := hq.symm; subst hq)
  go_ret
  exact ⟨rfl, rfl⟩
/-- a log, its disk, and what both want -/
structure LogS (w : World) (g p : Nat) (x : Lg) (sa : Option Addr) (sc : Nat) (d : Dst) (n : Nat) (F : Nat → Prop) : Prop where
  bx : w.heap[g]? = some (.cells (x.c p sa sc) tLg (0, 0))
  rd : RdG KS w sa x.L
  ris : x.L.Pairwise (fun x y => x.n < y.n)
  len : x.L.length ≤ 1000000
  dk : Dsk w p d n F
  gF : ¬ F g
  sF : ∀ a, sa = some a → ¬ F a.block ∧ a.block ≠ g
  cap : x.L.length ≤ sc
  Z : 3 ≤ x.Z
  AZ : x.A + x.Z ≤ d.S.length
  tab : TabOk w
theorem LogS.below {w w' : World} {g p : Nat} {x : Lg} {sa : Option Addr} {sc : Nat} {d : Dst} {n : Nat} {F : Nat → Prop} (h : LogS w g p x sa sc d n F) (hb : Below w.heap.size w w') : LogS w' g p x sa sc d n F :=
  ⟨below_blk hb h.bx, h.rd.below hb, h.ris, h.len, h.dk.below hb, h.gF, h.sF, h.cap, h.Z, h.AZ, h.tab.below hb⟩
/-- begin, of a log -/
theorem LogS.begin {w : World} {g p : Nat} {x : Lg} {sa : Option Addr} {sc : Nat} {d : Dst} {n : Nat} {F : Nat → Prop} (h : LogS w g p x sa sc d n F) (ep f : Nat) (hk : (x.newH ep f).ok) (hn : n + 1 < 1099511627776) :
    Calls Tryd.prog 41 #[.pointer (some ⟨g, 0, none⟩), .int .u64 (ep : Int), .int .u64 (f : Int)] w fun e w' => e = .returned (.int .i64 (opE (runO d (hdO x.A x.Z (x.newH ep f))).2)) ∧ BgOut w g p x sa sc ep f d n F w' :=
  sbegin_t g p x sa sc ep f d n F w h.bx h.rd h.ris h.len h.dk h.gF h.sF h.cap hk h.Z h.AZ hn h.tab
/-- Trim to what is given up already -/
theorem strim_low (g p : Nat) (x : Lg) (sa : Option Addr) (sc : Nat) (d : Dst) (n : Nat) (F : Nat → Prop) (w : World) (h : LogS w g p x sa sc d n F) (m : Nat) (hf : x.fl = false) (ho : d.off = false) (hm : m ≤ x.h.f) :
    Calls Tryd.prog 24 #[.pointer (some ⟨g, 0, none⟩), .int .u64 (m : Int)] w fun e w' => e = .returned (.int .i64 0) ∧ w' = w := by
  have HL : Hid (Calls _ _ _ w _) := slook_ok g p x sa sc d n F w h.bx h.dk hf ho
  obtain ⟨-, -, -, c3, c4, c5, -, c7, -, -⟩ := cells10 h.bx
  have hmI : (m : Int) ≤ (x.h.f : Int) := by omega
  clear h hf ho hm
  go_enter Tryd.func24, Tryd.ntmps24
  go_wp2_with (go_at_call 35; refine Calls.mono HL.out ?_; rintro e w' ⟨rfl, hq⟩; have hq := hq.symm; subst hq)
  go_ret
  exact ⟨rfl, rfl⟩
/-- is it the number of a start? -/
def Lg.has (x : Lg) (m : Nat) : Bool := bsF x.L m (cntB x.L m)
end Go.Proofs.YtibepnilhmbpeaaDoor
namespace Go.Proofs.YtibepnilhmbpeaaDoor
set_option linter.unusedVariables false
set_option linter.unusedSimpArgs false
open Go.RowKit
theorem strim_go_in (g p : Nat) (x : Lg) (sa : Option Addr) (sc : Nat) (d : Dst) (n : Nat) (F : Nat → Prop) (w : World) (h : LogS w g p x sa sc d n F) (m : Nat) (hf : x.fl = false) (ho : d.off = false) (hm : ¬ m ≤ x.h.f) (hb : x.has m = true) (hG : x.h.g ≠ 281474976710655) (hM : ¬ 281474976710655 < m) (hk : (x.newH x.h.e m).ok) (hn : n + 1 < 1099511627776) :
    Calls Tryd.prog 24 #[.pointer (some ⟨g, 0, none⟩), .int .u64 (m : Int)] w fun e w' => e = .returned (.int .i64 (opE (runO d (hdO x.A x.Z (x.newH x.h.e m))).2)) ∧ ∃ u, Below w.heap.size w u ∧ BgOut u g p x sa sc x.h.e m d n F w' := by
  have HL : Hid (Calls _ _ _ w _) := slook_ok g p x sa sc d n F w h.bx h.dk hf ho
  have HF : Hid (Calls _ _ _ w _) := find_t g p x sa sc m w h.bx h.rd h.ris h.len
  have HC : Hid (∀ u, Below w.heap.size w u → _) := fun u hu => cells10 (below_blk hu h.bx)
  have HB : Hid (x.has m = true) := hb
  have HBG : Hid (∀ u, Below w.heap.size w u → Calls _ _ _ u _) := fun u hu => (h.below hu).begin x.h.e m hk hn
  obtain ⟨-, -, -, c3, c4, c5, -, c7, -, -⟩ := cells10 h.bx
  have hmI : ¬ (m : Int) ≤ (x.h.f : Int) := by omega
  have hGI : ¬ (x.h.g : Int) = 281474976710655 := by omega
  have hMI : ¬ (281474976710655 : Int) < (m : Int) := by omega
  have hGB : ((x.h.g : Int) == 281474976710655) = false := by rw [beq_eq_false_iff_ne]; exact hGI
  have hMD : decide ((281474976710655 : Int) < (m : Int)) = false := decide_eq_false hMI
  clear h hf ho hm hb hG hM hk hn
  go_enter Tryd.func24, Tryd.ntmps24
  go_wp2_with first | (go_at_call 35; refine Calls.mono HL.out ?_; rintro e w' ⟨rfl, hq⟩; have hq := hq.symm; subst hq) | (go_at_call 45; refine Calls.mono HF.out ?_; rintro e u ⟨i, rfl, hbs, hu⟩; have hi := hbs.cnt; subst hi; have hB := HB.out; unfold Lg.has at hB; rw [hB]; have HU : Hid (Below w.heap.size w u) := hu; clear hbs hu hB c3 c4 c5 c7; obtain ⟨-, -, -, c3, c4, c5, -, c7, -, -⟩ := HC.out u HU.out) | (go_at_call 41; refine Calls.mono (HBG.out u HU.out) ?_; rintro e w9 ⟨rfl, hq⟩; have HQ : Hid _ := hq; clear hq)
  go_ret
  exact ⟨rfl, u, HU.out, HQ.out⟩
theorem strim_go_at (g p : Nat) (x : Lg) (sa : Option Addr) (sc : Nat) (d : Dst) (n : Nat) (F : Nat → Prop) (w : World) (h : LogS w g p x sa sc d n F) (m : Nat) (hf : x.fl = false) (ho : d.off = false) (hm : ¬ m ≤ x.h.f) (hb : x.has m = false) (hx : m = x.nx) (hG : x.h.g ≠ 281474976710655) (hM : ¬ 281474976710655 < m) (hk : (x.newH x.h.e m).ok) (hn : n + 1 < 1099511627776) :
    Calls Tryd.prog 24 #[.pointer (some ⟨g, 0, none⟩), .int .u64 (m : Int)] w fun e w' => e = .returned (.int .i64 (opE (runO d (hdO x.A x.Z (x.newH x.h.e m))).2)) ∧ ∃ u, Below w.heap.size w u ∧ BgOut u g p x sa sc x.h.e m d n F w' := by
  subst hx
  have HL : Hid (Calls _ _ _ w _) := slook_ok g p x sa sc d n F w h.bx h.dk hf ho
  have HF : Hid (Calls _ _ _ w _) := find_t g p x sa sc x.nx w h.bx h.rd h.ris h.len
  have HC : Hid (∀ u, Below w.heap.size w u → _) := fun u hu => cells10 (below_blk hu h.bx)
  have HB : Hid (x.has x.nx = false) := hb
  have HBG : Hid (∀ u, Below w.heap.size w u → Calls _ _ _ u _) := fun u hu => (h.below hu).begin x.h.e x.nx hk hn
  obtain ⟨-, -, -, c3, c4, c5, -, c7, -, -⟩ := cells10 h.bx
  have hmI : ¬ (x.nx : Int) ≤ (x.h.f : Int) := by omega
  have hGI : ¬ (x.h.g : Int) = 281474976710655 := by omega
  have hMI : ¬ (281474976710655 : Int) < (x.nx : Int) := by omega
  have hGB : ((x.h.g : Int) == 281474976710655) = false := by rw [beq_eq_false_iff_ne]; exact hGI
  have hMD : decide ((281474976710655 : Int) < (x.nx : Int)) = false := decide_eq_false hMI
  clear h hf ho hm hb hG hM hk hn
  go_enter Tryd.func24, Tryd.ntmps24
  go_wp2_with first | (go_at_call 35; refine Calls.mono HL.out ?_; rintro e w' ⟨rfl, hq⟩; have hq := hq.symm; subst hq) | (go_at_call 45; refine Calls.mono HF.out ?_; rintro e u ⟨i, rfl, hbs, hu⟩; have hi := hbs.cnt; subst hi; have hB := HB.out; unfold Lg.has at hB; rw [hB]; have HU : Hid (Below w.heap.size w u) := hu; clear hbs hu hB c3 c4 c5 c7; obtain ⟨-, -, -, c3, c4, c5, -, c7, -, -⟩ := HC.out u HU.out) | (go_at_call 41; refine Calls.mono (HBG.out u HU.out) ?_; rintro e w9 ⟨rfl, hq⟩; have HQ : Hid _ := hq; clear hq)
  go_ret
  exact ⟨rfl, u, HU.out, HQ.out⟩
end Go.Proofs.YtibepnilhmbpeaaDoor
