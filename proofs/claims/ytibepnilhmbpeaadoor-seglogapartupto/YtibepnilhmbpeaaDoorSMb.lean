import Derived.Test.YtibepnilhmbpeaaDoorSMa
import Derived.Test.YtibepnilhmbpeaaDoorSNc
namespace Go.Proofs.YtibepnilhmbpeaaDoor
set_option linter.unusedVariables false
set_option linter.unusedSimpArgs false
open Go.RowKit
/-- amid writing: the log's box but for its fall, a label's box -/
structure WrS (x : Lg) (g p : Nat) (sa : Option Addr) (sc H : Nat) (l : Lb) (v : World) : Prop where
  lg : ∃ b, v.heap[g]? = some (.cells (({ x with fl := b } : Lg).c p sa sc) tLg (0, 0))
  bx : v.heap[H]? = some (.cells (lbC l) tLb (0, 0))
theorem WrS.pl {x : Lg} {g p : Nat} {sa : Option Addr} {sc H : Nat} {l : Lb} {v : World} (k : WrS x g p sa sc H l v) : (Instr.loadAt tPl (.pointer (some ⟨g, 0, none⟩))).run Tryd.prog v = .ok (plV p x.A x.Z) v := by
  obtain ⟨b, hb⟩ := k.lg
  exact plLoadL g p { x with fl := b } sa sc v hb
theorem lbLoad4 {u : World} {g : Nat} {l : Lb} {fr : Nat × Nat} (hh : u.heap[g]? = some (.cells (lbC l) tLb fr)) : (Instr.loadAt tLb (.pointer (some ⟨g, 0, none⟩))).run Tryd.prog u = .ok (lbV l.n l.e l.len l.i) u := by
  refine run_loadAt_mid u _ _ _ [.int .u64 (l.n : Int), .int .u64 (l.e : Int), .int .i64 (l.len : Int), .int .i64 (l.i : Int)] _ (fun q v hv => ?_) Tryd.underlying102 rfl infoLb
  rw [Nat.zero_add, cell_of_row _ _ _ _ _ _ hh]
  simpa using hv
theorem heard0_t (g p : Nat) (x : Lg) (sa : Option Addr) (sc : Nat) (w : World) (hg : w.heap[g]? = some (.cells (x.c p sa sc) tLg (0, 0))) :
    Calls Tryd.prog 49 #[.pointer (some ⟨g, 0, none⟩), .int .i64 0] w fun e w' => e = .returned (.int .i64 0) ∧ Below w.heap.size w w' := by
  refine Calls.mono (heard_t g p x sa sc 0 w hg) ?_
  rintro e w' ⟨rfl, h1, h2⟩
  refine ⟨rfl, ?_⟩
  have hx : x.hear ((0 : Nat) : Int) = x := rfl
  rw [hx] at h1
  exact ⟨h2.os, h2.tape, h2.output, h2.size, fun k hk => by
    by_cases e : k = g
    · rw [e]; exact h1.trans hg.symm
    · exact h2.block k hk (by intro e9; exact e (Option.some.inj e9))⟩
/-- part of a row of bytes -/
def SBb (a : Option Addr) (c i : Nat) : Option Addr := if c = i then a else a.map (fun x => x.add i)
theorem rd_SBb {w : World} {a : Option Addr} {c i n : Nat} {xs : List UInt8} (h : Rd w a xs) (hc : xs.length ≤ c) : Rd w (SBb a c i) ((xs.drop i).take n) := by
  intro hp
  have h0 : 0 < xs.length ∧ i < xs.length := by
    rw [List.length_take, List.length_drop] at hp
    omega
  obtain ⟨b, o, rfl, hh⟩ := h h0.1
  have h9 := rd_part (b := b) (o := o) (xs := xs) h i n
  unfold SBb
  rw [if_neg (by omega)]
  have e : Option.map (fun x : Addr => x.add i) (some ⟨b, o, none⟩) = some ⟨b, o + i, none⟩ := by show some (Addr.add ⟨b, o, none⟩ i) = _; rw [Addr.add_mid]
  rw [e]
  exact h9 hp
theorem SBb_none {a : Option Addr} {c i : Nat} (h : a = none → c = 0) : SBb a c i = none → c - i = 0 := fun e => by
  unfold SBb at e
  split at e
  · omega
  · cases a with
    | none => have := h rfl; omega
    | some a => cases e
/-- what writeRecord leaves -/
structure WrOut (w : World) (g p : Nat) (x : Lg) (sa : Option Addr) (sc : Nat) (rec : List UInt8) (d : Dst) (n : Nat) (F : Nat → Prop) (w' : World) : Prop where
  lg : w'.heap[g]? = some (.cells ((x.hear (opE (runO d (recO x.A x.Z x.nx x.h.e rec (needS rec.length))).2)).c p sa sc) tLg (0, 0))
  dk : ∃ F', Dsk w' p (runO d (recO x.A x.Z x.nx x.h.e rec (needS rec.length))).1 (n + 79) F' ∧ ∀ b, F' b → F b ∨ w.heap.size ≤ b
  chg : Chg (fun b => F b ∨ b = g) w w'
theorem WrOut_no {w W0 v1 v2 : World} {g p : Nat} {x : Lg} {sa : Option Addr} {sc : Nat} {rec : List UInt8} {d d1 : Dst} {n m : Nat} {F : Nat → Prop} (hH : LogM w g p x sa sc d n F) (hb : Below w.heap.size w W0) (hl : DLft W0 p d1 m F v1) (hm : m ≤ n + 79) (hn : n + 79 < 1099511627776) (hg : v1.grownBy v2 (some g)) (h2 : v2.heap[g]? = some (.cells ((x.hear (5 : Nat)).c p sa sc) tLg (0, 0))) (hr : runO d (recO x.A x.Z x.nx x.h.e rec (needS rec.length)) = (d1, false)) : WrOut w g p x sa sc rec d n F v2 := by
  have hgw := (Array.getElem?_eq_some_iff.1 hH.s.bx).1
  have c1 : Chg (fun b => b = g) v1 v2 := Chg.of_grown hg (fun b e => by cases e; rfl)
  obtain ⟨F2, h4, h5⟩ := hl.ex
  refine ⟨by rw [hr]; exact h2, ⟨F2, ?_, fun b hb9 => (h5 b hb9).imp id (fun h => Nat.le_trans hb.size h)⟩, ((Chg.of_below hb).trans (hl.chg.mono (fun _ h => Or.inl h)) (fun i h => .inl h)).trans (c1.mono (fun _ h => Or.inr h)) (fun i h => .inl h)⟩
  rw [hr]
  refine (h4.kept c1 (fun b hb9 e => ?_)).more (by omega) (by omega)
  subst e
  rcases h5 b hb9 with h6 | h6
  · exact hH.s.gF h6
  · have := hb.size; omega
theorem WrOut_yes {w W0 v1 : World} {g p : Nat} {x : Lg} {sa : Option Addr} {sc : Nat} {rec : List UInt8} {d d1 : Dst} {n m : Nat} {F : Nat → Prop} (hb : Below w.heap.size w W0) (hl : DLft W0 p d1 m F v1) (hm : m ≤ n + 79) (hn : n + 79 < 1099511627776) (h2 : v1.heap[g]? = some (.cells (x.c p sa sc) tLg (0, 0))) (hr : runO d (recO x.A x.Z x.nx x.h.e rec (needS rec.length)) = (d1, true)) : WrOut w g p x sa sc rec d n F v1 := by
  obtain ⟨F2, h4, h5⟩ := hl.ex
  refine ⟨by rw [hr]; exact h2, ⟨F2, ?_, fun b hb9 => (h5 b hb9).imp id (fun h => Nat.le_trans hb.size h)⟩, (Chg.of_below hb).trans (hl.chg.mono (fun _ h => Or.inl h)) (fun i h => .inl h)⟩
  rw [hr]
  exact h4.more (by omega) (by omega)
theorem recO_fail {A Z nx ep : Nat} {rec : List UInt8} {d : Dst} {k : Nat} (h : (runO d (recO A Z nx ep rec k)).2 = false) : ∀ j, k ≤ j → runO d (recO A Z nx ep rec j) = ((runO d (recO A Z nx ep rec k)).1, false)
  | 0, hj => by
    obtain rfl : k = 0 := by omega
    rw [← h]
  | j + 1, hj => by
    by_cases e : k = j + 1
    · rw [e] at h ⊢
      rw [← h]
    · have ih := recO_fail h j (by omega)
      show runO d (recO A Z nx ep rec j ++ _) = _
      rw [runO_app, ih]
      rfl
theorem DLft.piece {W w : World} {p n : Nat} {d : Dst} {F F' : Nat → Prop} (h : DLft W p d n F w) (hd : Dsk w p d n F') (hF : ∀ b, F' b → F b ∨ W.heap.size ≤ b) (A Z : Nat) (l : Lb) (hk : l.ok) (a : Option Addr) (c : Nat) (Y : List UInt8) (hY : Rd w a Y) (hYL : Y.length ≤ 104) (hnil : a = none → c = 0) (hZ : 3 ≤ Z) (hAZ : A + Z ≤ d.S.length) (hn : n < 1099511627776) (ht : TabOk w) :
    Calls Tryd.prog 53 #[plV p A Z, pcV l.n l.e l.len l.i (.slice a Y.length c)] w fun e w' => e = .returned (.int .i64 (opE d.can)) ∧ DLft W p (Wop.act d (pcO A Z l Y)) (n + 1) F w' ∧ Chg F' w w' := by
  refine Calls.mono (writePiece_t hd A Z l hk a c Y hY hYL hnil hZ hAZ hn ht) ?_
  rintro e w' ⟨rfl, h3⟩
  exact ⟨rfl, h.join hF h3, h3.chg⟩
set_option maxRecDepth 20000 in
set_option maxHeartbeats 3200000 in
theorem writeRec_t {w : World} {g p : Nat} {x : Lg} {sa : Option Addr} {sc : Nat} {d : Dst} {n : Nat} {F : Nat → Prop} (h : LogM w g p x sa sc d n F) (ra : Option Addr) (rc : Nat) (rec : List UInt8) (hr : Rd w ra rec) (hl : rec.length ≤ 8192) (hc : rec.length ≤ rc) (hnil : ra = none → rc = 0) (hrF : 0 < rec.length → ∀ q, ra = some q → ¬ F q.block) (hn : n + 79 < 1099511627776) (hnx : x.nx + 79 < 9223372036854775808) (he : x.h.e < 9223372036854775808) :
    Calls Tryd.prog 36 #[.pointer (some ⟨g, 0, none⟩), .slice ra rec.length rc] w fun e w' => e = .returned (.int .i64 (opE (runO d (recO x.A x.Z x.nx x.h.e rec (needS rec.length))).2)) ∧ WrOut w g p x sa sc rec d n F w' := by
  have hsz := h.s.dk.size
  obtain ⟨L, hL⟩ : ∃ L, L = rec.length := ⟨_, rfl⟩
  obtain ⟨M, hM⟩ : ∃ M, M = needS L := ⟨_, rfl⟩
  have hMp := needS_pos hl
  rw [← hL, ← hM] at hMp
  have HMP : Hid (1 ≤ M ∧ M ≤ 79 ∧ L ≤ M * 104 ∧ (M - 1) * 104 ≤ L) := hMp
  have HL : Hid (L = rec.length) := hL
  have HM : Hid (M = needS rec.length) := (show _ = _ by rw [hM, hL])
  rw [← hL, ← hM]
  have HNE : Hid (∀ u, Calls Tryd.prog 11 #[.int .i64 (L : Int)] u fun er w' => er = .returned (.int .i64 (M : Int)) ∧ w' = u) := fun u => by rw [hM]; exact need_t L (by omega) u
  have HH : Hid (LogM w g p x sa sc d n F) := h
  have HRD : Hid (Rd w ra rec) := hr
  have HG0 : Hid (w.heap[g]? = some (.cells (x.c p sa sc) tLg (0, 0))) := h.s.bx
  have HGW : Hid (g < w.heap.size) := (Array.getElem?_eq_some_iff.1 h.s.bx).1
  have HNIL : Hid (ra = none → rc = 0) := hnil
  have HRF : Hid (0 < rec.length → ∀ q, ra = some q → ¬ F q.block) := hrF
  have HB : Hid (L ≤ 8192 ∧ L ≤ rc ∧ x.nx + 79 < 9223372036854775808 ∧ x.h.e < 9223372036854775808 ∧ n + 79 < 1099511627776 ∧ d.S.length ≤ 65536) := ⟨by omega, by omega, hnx, he, hn, hsz.2⟩
  obtain ⟨-, -, -, -, c4, -, -, c7, -, -⟩ := cells10 h.s.bx
  clear h hr hl hc hnil hrF hn hnx he hL hM hMp hsz
  go_enter Tryd.func36, Tryd.ntmps36
  have hlw : Int.toNat (L : Int) = L := rfl
  go_wp2_with fail
  have cA := fun (o : Obj) => cells10 (below_blk (alS (Below.refl _ w) o) HG0.out)
  have c4a := (cA (.cells #[.int .u64 0, .int .u64 0, .int .i64 0, .int .i64 0] 102)).2.2.2.2.1
  have c7a := (cA (.cells #[.int .u64 0, .int .u64 0, .int .i64 0, .int .i64 0] 102)).2.2.2.2.2.2.2.1
  clear cA
  go_region
  go_wp2_with (go_at_call 11; refine Calls.mono (HNE.out _) ?_; rintro e w' ⟨rfl, hq⟩; have hq := hq.symm; subst hq)
  clear c4 c7 c4a c7a hlw
  have hb0 : Below w.heap.size w (w.alloc (.cells #[.int .u64 (x.nx : Int), .int .u64 (x.h.e : Int), .int .i64 (L : Int), .int .i64 0] 102)).drew := (alS (Below.refl _ _) _).drew
  have hbf : (w.alloc (.cells #[.int .u64 (x.nx : Int), .int .u64 (x.h.e : Int), .int .i64 (L : Int), .int .i64 0] 102)).drew.heap[w.heap.size]? = some (.cells (lbC ⟨x.nx, x.h.e, L, 0⟩) tLb (0, 0)) := below_blk (Below.refl _ _).drew (heap_alloc_new w _)
  generalize (w.alloc (.cells #[.int .u64 (x.nx : Int), .int .u64 (x.h.e : Int), .int .i64 (L : Int), .int .i64 0] 102)).drew = W0 at *
  have HB0 : Hid (Below w.heap.size w W0) := hb0
  have HF0 : Hid (∀ u, Chg F W0 u → u.heap[w.heap.size]? = some (.cells (lbC ⟨x.nx, x.h.e, L, 0⟩) tLb (0, 0)) ∧ u.heap[g]? = some (.cells (x.c p sa sc) tLg (0, 0)) ∧ Rd u ra rec ∧ TabOk u) := fun u hu => by
    have h1 := below_blk hb0 HG0.out
    refine ⟨(hu.block _ (Array.getElem?_eq_some_iff.1 hbf).1 (fun h9 => by have := HH.out.s.dk.lt _ h9; omega)).trans hbf, (hu.block _ (Array.getElem?_eq_some_iff.1 h1).1 HH.out.s.gF).trans h1, ?_, (HH.out.s.tab.below hb0).chg hu HH.out.sums⟩
    intro hp
    exact Rd.chg (Rd.below HRD.out hb0) hu (HRF.out hp) hp
  have HS0 : Hid (DLft W0 p d n F W0) := DLft.start (HH.out.s.dk.below hb0)
  clear hb0 hbf
  go_loopw [26] (fun j wr => ∃ k : Nat, k ≤ M ∧ j = .int .i64 (k : Int) ∧ Hid ((runO d (recO x.A x.Z x.nx x.h.e rec k)).2 = true) ∧ DLft W0 p (runO d (recO x.A x.Z x.nx x.h.e rec k)).1 (n + k) F wr) (fun j _ => M - (intOf j).toNat)
  case atStart => exact ⟨0, Nat.zero_le _, rfl, rfl, HS0.out⟩
  case round =>
    obtain ⟨k, hk, rfl, HOK, hp⟩ := hrel
    have HP : Hid (DLft W0 p (runO d (recO x.A x.Z x.nx x.h.e rec k)).1 (n + k) F wr) := hp
    obtain ⟨dk, hdk⟩ : ∃ dk, dk = (runO d (recO x.A x.Z x.nx x.h.e rec k)).1 := ⟨_, rfl⟩
    have HDK : Hid (dk = (runO d (recO x.A x.Z x.nx x.h.e rec k)).1) := hdk
    have HDL : Hid (dk.S.length = d.S.length) := by unfold Hid; rw [hdk, runO_len]
    rw [← hdk] at HP
    obtain ⟨f0, f1, f2, f3⟩ := cells4 (HF0.out wr hp.chg).1
    have hkw : IntKind.i64.wrap ((k : Int) + 1) = ((k + 1 : Nat) : Int) := by have := HMP.out; rw [IntKind.wrap_i64]; omega
    clear hp hdk
    by_cases hlt : k < M
    · have hltI : (k : Int) < (M : Int) := by omega
      obtain ⟨N1, hN1⟩ : ∃ N1, N1 = x.nx + k := ⟨_, rfl⟩
      obtain ⟨l, hl⟩ : ∃ l : Lb, l = ⟨N1, x.h.e, L, k⟩ := ⟨_, rfl⟩
      obtain ⟨fr, hfr⟩ : ∃ fr, fr = k * 104 := ⟨_, rfl⟩
      obtain ⟨tt, htt⟩ : ∃ tt, tt = min (k * 104 + 104) L := ⟨_, rfl⟩
      have HLL : Hid (l = ⟨x.nx + k, x.h.e, rec.length, k⟩) := by unfold Hid; rw [hl, hN1, HL.out]
      have hko : l.ok := by rw [hl]; have := HB.out; have := HMP.out; exact ⟨by dsimp only; omega, by dsimp only; omega, by dsimp only; omega, by dsimp only; omega⟩
      have HKO : Hid l.ok := hko
      have HPT : Hid (∀ u, Calls Tryd.prog 51 #[lbV x.nx x.h.e L 0, .int .i64 (k : Int)] u fun er w' => er = .returned (lbV N1 x.h.e L k) ∧ Below u.heap.size u w') := fun u => by rw [hN1]; exact part_t x.nx x.h.e L 0 k (by have := HB.out; have := HMP.out; omega) (by have := HMP.out; omega) u
      have HSP : Hid (∀ u, Calls Tryd.prog 52 #[lbV N1 x.h.e L k] u fun er w' => er = .returned (.tuple #[.int .i64 (fr : Int), .int .i64 (tt : Int)]) ∧ Below u.heap.size u w') := fun u => by rw [hfr, htt]; exact span_t N1 x.h.e L k (by have := HB.out; omega) (by have := HMP.out; omega) u
      have hft : (fr : Int) ≤ (tt : Int) ∧ (tt : Int) ≤ (rc : Int) ∧ (0 : Int) ≤ (fr : Int) := by have := HB.out; have := HMP.out; rw [hfr, htt]; omega
      obtain ⟨hft1, hft2, hft3⟩ := hft
      have HFT : Hid (tt - fr = (chk rec k).length ∧ fr = k * 104 ∧ fr ≤ tt ∧ tt ≤ rc) := ⟨by rw [hfr, htt]; unfold chk; rw [List.length_take, List.length_drop, ← HL.out]; omega, hfr, by omega, by omega⟩
      have HCV : Hid (∀ q : Lb, q = l → lbV N1 x.h.e L k = lbV q.n q.e q.len q.i) := fun q e => by rw [e, hl]
      clear hN1 hl hfr htt hko
      go_upto_region 6 with (go_at_call 51; refine Calls.mono (HPT.out _) ?_; rintro e u1 ⟨rfl, hu1⟩; have HU1 : Hid (Below wr.heap.size wr u1) := hu1; clear hu1)
      have hX : (u1.alloc (.cells #[.int .u64 (N1 : Int), .int .u64 (x.h.e : Int), .int .i64 (L : Int), .int .i64 (k : Int)] 102)).heap[u1.heap.size]? = some (.cells #[.int .u64 (N1 : Int), .int .u64 (x.h.e : Int), .int .i64 (L : Int), .int .i64 (k : Int)] tLb (0, 0)) := heap_alloc_new _ _
      have hBX : Below wr.heap.size wr (u1.alloc (.cells #[.int .u64 (N1 : Int), .int .u64 (x.h.e : Int), .int .i64 (L : Int), .int .i64 (k : Int)] 102)) := below_next HU1.out (alS (Below.refl _ _) _)
      generalize (u1.alloc (.cells #[.int .u64 (N1 : Int), .int .u64 (x.h.e : Int), .int .i64 (L : Int), .int .i64 (k : Int)] 102)) = W1 at *
      obtain ⟨H, hH⟩ : ∃ H, H = u1.heap.size := ⟨_, rfl⟩
      rw [← hH] at hX ⊢
      have HHW : Hid (wr.heap.size ≤ H) := by unfold Hid; rw [hH]; exact HU1.out.size
      obtain ⟨l0, l1, l2, l3⟩ := cells4 hX
      have HX1 : Hid (W1.heap[H]? = some (.cells (lbC l) tLb (0, 0))) := by
        unfold Hid; rw [hX]; have h9 := HCV.out l rfl; unfold lbV at h9; injection h9 with h9; show some (Obj.cells _ _ _) = some (Obj.cells (lbC l) _ _); rw [show lbC l = #[.int .u64 (l.n : Int), .int .u64 (l.e : Int), .int .i64 (l.len : Int), .int .i64 (l.i : Int)] from rfl, ← h9]
      have HBX : Hid (Below wr.heap.size wr W1) := hBX
      clear hH hX hBX f0 f1 f2 f3
      go_upto_region 7 with (go_at_call 52; refine Calls.mono (HSP.out _) ?_; rintro e u2 ⟨rfl, hu2⟩; have HU2 : Hid (Below wr.heap.size wr u2) := below_next HBX.out hu2; have HX2 : Hid (u2.heap[H]? = some (.cells (lbC l) tLb (0, 0))) := below_blk hu2 HX1.out; clear hu2)
      clear l0 l1 l2 l3 HX1 HBX HU1
      obtain ⟨F', hd', hF'⟩ := HP.out.ex
      have HPD : Hid (DLft W0 p dk (n + k) F u2.drew) := HP.out.below HU2.out.drew
      have HGF : Hid (¬ F' g ∧ ¬ F' H) := ⟨fun h9 => by
          rcases hF' g h9 with h8 | h8
          · exact HH.out.s.gF h8
          · have := HGW.out; have := HB0.out.size; omega, fun h9 => by have := hd'.lt _ h9; have := HHW.out; omega⟩
      have HGH : Hid (H ≠ g) := fun e => by have := HHW.out; have := HGW.out; have := HB0.out.size; have := HP.out.chg.size; omega
      have HST : Hid (∀ v, Chg F' u2.drew v → WrS x g p sa sc H l v ∧ v.heap[g]? = some (.cells (x.c p sa sc) tLg (0, 0))) := fun v hv => by
        have h1 : u2.drew.heap[g]? = some (.cells (x.c p sa sc) tLg (0, 0)) := below_blk (HU2.out.drew) (HF0.out wr HP.out.chg).2.1
        have h2 := (hv.block _ (Array.getElem?_eq_some_iff.1 h1).1 HGF.out.1).trans h1
        have h3 : u2.drew.heap[H]? = some (.cells (lbC l) tLb (0, 0)) := below_blk (Below.refl _ _).drew HX2.out
        exact ⟨⟨⟨x.fl, h2⟩, (hv.block _ (Array.getElem?_eq_some_iff.1 h3).1 HGF.out.2).trans h3⟩, h2⟩
      have HS0 : Hid (WrS x g p sa sc H l u2.drew) := (HST.out _ (Chg.refl _ _)).1
      have hwp := DLft.piece HPD.out (hd'.below HU2.out.drew) hF' x.A x.Z l HKO.out (SBb ra rc fr) (rc - fr) (chk rec k) (by
          have h9 := rd_SBb (c := rc) (i := fr) (n := 104) ((HF0.out wr HP.out.chg).2.2.1) (by rw [← HL.out]; exact HB.out.2.1)
          have h8 := h9.below HU2.out.drew
          rw [HFT.out.2.1] at h8 ⊢
          exact h8) (chk_len _ _) (SBb_none HNIL.out) HH.out.s.Z (by rw [HDL.out]; exact HH.out.s.AZ) (by have := HB.out; have := HMP.out; omega) ((HF0.out wr HP.out.chg).2.2.2.below HU2.out.drew)
      rw [← HFT.out.1] at hwp
      have HWP : Hid (Calls _ _ _ u2.drew _) := hwp
      have HMF : Hid (Int.toNat ((tt : Int) - (fr : Int)) = tt - fr) := by unfold Hid; omega
      have HN : Hid (n + k + 1 = n + (k + 1)) := by unfold Hid; omega
      have hsn := runO_snoc (pcO x.A x.Z l (chk rec k)) HOK.out
      have hrs : recO x.A x.Z x.nx x.h.e rec (k + 1) = recO x.A x.Z x.nx x.h.e rec k ++ [pcO x.A x.Z l (chk rec k)] := by rw [HLL.out]; rfl
      rw [← hrs, ← HDK.out] at hsn
      clear hrs hwp hd' hF'
      rcases hcn : dk.can with _ | _
      · rw [hcn] at HWP hsn
        rw [if_neg (by simp), ← act_no hcn (pcO x.A x.Z l (chk rec k))] at hsn
        have HF : Hid (runO d (recO x.A x.Z x.nx x.h.e rec M) = (Wop.act dk (pcO x.A x.Z l (chk rec k)), false)) := by
          have h9 := recO_fail (A := x.A) (Z := x.Z) (nx := x.nx) (ep := x.h.e) (rec := rec) (d := d) (k := k + 1) (by rw [hsn]) M (by omega)
          rw [hsn] at h9
          exact h9
        have HWP : Hid (Calls _ _ _ u2.drew fun e w' => e = .returned (.int .i64 5) ∧ _) := HWP
        clear hsn hcn
        refine wp_region_held_drew (S := (fun v => WrS x g p sa sc H l v)) (by kernel_rfl) (by first | exact HS0.out | exact HS1.out.1 | exact HS2.out | exact HS2.out.1 | assumption) (fun hHeld => ?_)
        refine take_at (i := 0) 37 (v := ?_) rfl rfl (by kernel_rfl) (by kernel_rfl) (by kernel_rfl) (fun _ _ _ h => h) (by rfl) ?_ hHeld ?_
        rotate_left
        · (intro w hSw; (try dsimp only at hSw); go_simp; try with_reducible rfl)
        simp only [Act.put, List.setIfInBounds_toArray, List.set_cons_zero, List.set_cons_succ]
        refine take_at (i := 1) 38 (v := ?_) rfl rfl (by kernel_rfl) (by kernel_rfl) (by kernel_rfl) (fun _ _ _ h => h) (by rfl) ?_ hHeld ?_
        rotate_left
        · (intro w hSw; (try dsimp only at hSw); go_simp; try with_reducible rfl)
        simp only [Act.put, List.setIfInBounds_toArray, List.set_cons_zero, List.set_cons_succ]
        refine take_at (i := 2) 39 (v := ?_) rfl rfl (by kernel_rfl) (by kernel_rfl) (by kernel_rfl) (fun _ _ _ h => h) (by rfl) ?_ hHeld ?_
        rotate_left
        · (intro w hSw; (try dsimp only at hSw); go_simp; try with_reducible rfl)
        simp only [Act.put, List.setIfInBounds_toArray, List.set_cons_zero, List.set_cons_succ]
        refine take_at (i := 3) 40 (v := ?_) rfl rfl (by kernel_rfl) (by kernel_rfl) (by kernel_rfl) (fun _ _ _ h => h) (by rfl) ?_ hHeld ?_
        rotate_left
        · (intro w hSw; (try dsimp only at hSw); go_simp; try with_reducible rfl)
        simp only [Act.put, List.setIfInBounds_toArray, List.set_cons_zero, List.set_cons_succ]
        refine take_at (i := 4) 41 (v := plV p x.A x.Z) rfl rfl (by kernel_rfl) (by kernel_rfl) (by kernel_rfl) (fun _ _ _ h => h) (by rfl) ?_ hHeld ?_
        · (intro w hSw; refine exec_load (by rfl) ?_; exact hSw.pl)
        simp only [Act.put, List.setIfInBounds_toArray, List.set_cons_zero, List.set_cons_succ]
        refine take_at (i := 5) 42 (v := lbV l.n l.e l.len l.i) rfl rfl (by kernel_rfl) (by kernel_rfl) (by kernel_rfl) (fun _ _ _ h => h) (by rfl) ?_ hHeld ?_
        · (intro w hSw; refine exec_load (by rfl) ?_; exact lbLoad4 hSw.bx)
        simp only [Act.put, List.setIfInBounds_toArray, List.set_cons_zero, List.set_cons_succ]
        refine take_at (i := 6) 43 (v := ?_) rfl rfl (by kernel_rfl) (by kernel_rfl) (by kernel_rfl) (fun _ _ _ h => h) (by rfl) ?_ hHeld ?_
        rotate_left
        · (intro w hSw; (try dsimp only at hSw); go_simp; try with_reducible rfl)
        simp only [Act.put, List.setIfInBounds_toArray, List.set_cons_zero, List.set_cons_succ]
        refine take_at (i := 7) 44 (v := ?_) rfl rfl (by kernel_rfl) (by kernel_rfl) (by kernel_rfl) (fun _ _ _ h => h) (by rfl) ?_ hHeld ?_
        rotate_left
        · (intro w hSw; (try dsimp only at hSw); go_simp; try with_reducible rfl)
        simp only [Act.put, List.setIfInBounds_toArray, List.set_cons_zero, List.set_cons_succ]
        refine take_at (i := 8) 45 (v := ?_) rfl rfl (by kernel_rfl) (by kernel_rfl) (by kernel_rfl) (fun _ _ _ h => h) (by rfl) ?_ hHeld ?_
        rotate_left
        · (intro w hSw; (try dsimp only at hSw); go_simp; try with_reducible rfl)
        simp only [Act.put, List.setIfInBounds_toArray, List.set_cons_zero, List.set_cons_succ]
        refine take_at (i := 9) 46 (v := .slice (SBb ra rc fr) (tt - fr) (rc - fr)) rfl rfl (by kernel_rfl) (by kernel_rfl) (by kernel_rfl) (fun _ _ _ h => h) (by rfl) ?_ hHeld ?_
        · (intro w hSw; go_simp; first | rfl | (unfold SBb; rfl))
        simp only [Act.put, List.setIfInBounds_toArray, List.set_cons_zero, List.set_cons_succ]
        refine take_at (i := 10) 47 (v := ?_) rfl rfl (by kernel_rfl) (by kernel_rfl) (by kernel_rfl) (fun _ _ _ h => h) (by rfl) ?_ hHeld ?_
        rotate_left
        · (intro w hSw; (try dsimp only at hSw); go_simp; try with_reducible rfl)
        simp only [Act.put, List.setIfInBounds_toArray, List.set_cons_zero, List.set_cons_succ]
        refine run_at (i := 11) rfl (by kernel_rfl) (by rfl) (fun K hK => ?_)
        simp only [List.getElem_toArray, List.getElem_cons_zero, List.getElem_cons_succ]
        go_simp
        first | (go_at_call 53; refine Calls.mono HWP.out ?_; rintro e v1 ⟨rfl, h1, h2⟩; have HL1 : Hid (DLft W0 p _ (n + k + 1) F v1) := h1; have HS1 : Hid (WrS x g p sa sc H l v1 ∧ v1.heap[g]? = some (.cells (x.c p sa sc) tLg (0, 0))) := HST.out _ h2; have HHR : Hid (Calls _ _ _ v1 _) := heard_t g p x sa sc 5 v1 HS1.out.2; clear h1 h2) | (go_at_call 49; refine Calls.mono HHR.out ?_; rintro e v2 ⟨rfl, h2, h3⟩; have HS2 : Hid (WrS x g p sa sc H l v2 ∧ v2.heap[g]? = some (.cells ((x.hear (5 : Nat)).c p sa sc) tLg (0, 0)) ∧ v1.grownBy v2 (some g)) := ⟨⟨⟨_, h2⟩, grown_blk h3 HS1.out.1.bx HGH.out⟩, h2, h3⟩; clear h2 h3)
        go_wp2_with fail
        refine hK.out _ _ (by first | exact HS0.out | exact HS1.out.1 | exact HS2.out | exact HS2.out.1 | assumption) ?_
        clear hK K
        intro hHeld2
        clear hHeld
        have hHeld := hHeld2
        clear hHeld2
        try simp only [Act.put, List.setIfInBounds_toArray, List.set_cons_zero, List.set_cons_succ]
        refine run_at (i := 12) rfl (by kernel_rfl) (by rfl) (fun K hK => ?_)
        simp only [List.getElem_toArray, List.getElem_cons_zero, List.getElem_cons_succ]
        go_simp
        first | (go_at_call 53; refine Calls.mono HWP.out ?_; rintro e v1 ⟨rfl, h1, h2⟩; have HL1 : Hid (DLft W0 p _ (n + k + 1) F v1) := h1; have HS1 : Hid (WrS x g p sa sc H l v1 ∧ v1.heap[g]? = some (.cells (x.c p sa sc) tLg (0, 0))) := HST.out _ h2; have HHR : Hid (Calls _ _ _ v1 _) := heard_t g p x sa sc 5 v1 HS1.out.2; clear h1 h2) | (go_at_call 49; refine Calls.mono HHR.out ?_; rintro e v2 ⟨rfl, h2, h3⟩; have HS2 : Hid (WrS x g p sa sc H l v2 ∧ v2.heap[g]? = some (.cells ((x.hear (5 : Nat)).c p sa sc) tLg (0, 0)) ∧ v1.grownBy v2 (some g)) := ⟨⟨⟨_, h2⟩, grown_blk h3 HS1.out.1.bx HGH.out⟩, h2, h3⟩; clear h2 h3)
        go_wp2_with fail
        refine hK.out _ _ (by first | exact HS0.out | exact HS1.out.1 | exact HS2.out | exact HS2.out.1 | assumption) ?_
        clear hK K
        intro hHeld2
        clear hHeld
        have hHeld := hHeld2
        clear hHeld2
        try simp only [Act.put, List.setIfInBounds_toArray, List.set_cons_zero, List.set_cons_succ]
        refine take_at (i := 13) 10 (v := ?_) rfl rfl (by kernel_rfl) (by kernel_rfl) (by kernel_rfl) (fun _ _ _ h => h) (by rfl) ?_ hHeld ?_
        rotate_left
        · (intro w hSw; (try dsimp only at hSw); go_simp; try with_reducible rfl)
        simp only [Act.put, List.setIfInBounds_toArray, List.set_cons_zero, List.set_cons_succ]
        refine wpAnyH_done (by kernel_rfl) ?_ _
        go_wp2
        go_ret
        rw [HM.out] at HF
        rw [HM.out, HF.out]
        exact ⟨rfl, WrOut_no HH.out HB0.out HL1.out (by have := HMP.out; omega) HB.out.2.2.2.2.1 HS2.out.2.2 HS2.out.2.1 HF.out⟩
      · rw [hcn] at HWP hsn
        rw [if_pos rfl] at hsn
        have HSN : Hid (runO d (recO x.A x.Z x.nx x.h.e rec (k + 1)) = (Wop.act dk (pcO x.A x.Z l (chk rec k)), true)) := hsn
        have HWP : Hid (Calls _ _ _ u2.drew fun e w' => e = .returned (.int .i64 0) ∧ _) := HWP
        clear hsn hcn
        refine wp_region_held_drew (S := (fun v => WrS x g p sa sc H l v)) (by kernel_rfl) (by first | exact HS0.out | exact HS1.out.1 | exact HS2.out | exact HS2.out.1 | assumption) (fun hHeld => ?_)
        refine take_at (i := 0) 37 (v := ?_) rfl rfl (by kernel_rfl) (by kernel_rfl) (by kernel_rfl) (fun _ _ _ h => h) (by rfl) ?_ hHeld ?_
        rotate_left
        · (intro w hSw; (try dsimp only at hSw); go_simp; try with_reducible rfl)
        simp only [Act.put, List.setIfInBounds_toArray, List.set_cons_zero, List.set_cons_succ]
        refine take_at (i := 1) 38 (v := ?_) rfl rfl (by kernel_rfl) (by kernel_rfl) (by kernel_rfl) (fun _ _ _ h => h) (by rfl) ?_ hHeld ?_
        rotate_left
        · (intro w hSw; (try dsimp only at hSw); go_simp; try with_reducible rfl)
        simp only [Act.put, List.setIfInBounds_toArray, List.set_cons_zero, List.set_cons_succ]
        refine take_at (i := 2) 39 (v := ?_) rfl rfl (by kernel_rfl) (by kernel_rfl) (by kernel_rfl) (fun _ _ _ h => h) (by rfl) ?_ hHeld ?_
        rotate_left
        · (intro w hSw; (try dsimp only at hSw); go_simp; try with_reducible rfl)
        simp only [Act.put, List.setIfInBounds_toArray, List.set_cons_zero, List.set_cons_succ]
        refine take_at (i := 3) 40 (v := ?_) rfl rfl (by kernel_rfl) (by kernel_rfl) (by kernel_rfl) (fun _ _ _ h => h) (by rfl) ?_ hHeld ?_
        rotate_left
        · (intro w hSw; (try dsimp only at hSw); go_simp; try with_reducible rfl)
        simp only [Act.put, List.setIfInBounds_toArray, List.set_cons_zero, List.set_cons_succ]
        refine take_at (i := 4) 41 (v := plV p x.A x.Z) rfl rfl (by kernel_rfl) (by kernel_rfl) (by kernel_rfl) (fun _ _ _ h => h) (by rfl) ?_ hHeld ?_
        · (intro w hSw; refine exec_load (by rfl) ?_; exact hSw.pl)
        simp only [Act.put, List.setIfInBounds_toArray, List.set_cons_zero, List.set_cons_succ]
        refine take_at (i := 5) 42 (v := lbV l.n l.e l.len l.i) rfl rfl (by kernel_rfl) (by kernel_rfl) (by kernel_rfl) (fun _ _ _ h => h) (by rfl) ?_ hHeld ?_
        · (intro w hSw; refine exec_load (by rfl) ?_; exact lbLoad4 hSw.bx)
        simp only [Act.put, List.setIfInBounds_toArray, List.set_cons_zero, List.set_cons_succ]
        refine take_at (i := 6) 43 (v := ?_) rfl rfl (by kernel_rfl) (by kernel_rfl) (by kernel_rfl) (fun _ _ _ h => h) (by rfl) ?_ hHeld ?_
        rotate_left
        · (intro w hSw; (try dsimp only at hSw); go_simp; try with_reducible rfl)
        simp only [Act.put, List.setIfInBounds_toArray, List.set_cons_zero, List.set_cons_succ]
        refine take_at (i := 7) 44 (v := ?_) rfl rfl (by kernel_rfl) (by kernel_rfl) (by kernel_rfl) (fun _ _ _ h => h) (by rfl) ?_ hHeld ?_
        rotate_left
        · (intro w hSw; (try dsimp only at hSw); go_simp; try with_reducible rfl)
        simp only [Act.put, List.setIfInBounds_toArray, List.set_cons_zero, List.set_cons_succ]
        refine take_at (i := 8) 45 (v := ?_) rfl rfl (by kernel_rfl) (by kernel_rfl) (by kernel_rfl) (fun _ _ _ h => h) (by rfl) ?_ hHeld ?_
        rotate_left
        · (intro w hSw; (try dsimp only at hSw); go_simp; try with_reducible rfl)
        simp only [Act.put, List.setIfInBounds_toArray, List.set_cons_zero, List.set_cons_succ]
        refine take_at (i := 9) 46 (v := .slice (SBb ra rc fr) (tt - fr) (rc - fr)) rfl rfl (by kernel_rfl) (by kernel_rfl) (by kernel_rfl) (fun _ _ _ h => h) (by rfl) ?_ hHeld ?_
        · (intro w hSw; go_simp; first | rfl | (unfold SBb; rfl))
        simp only [Act.put, List.setIfInBounds_toArray, List.set_cons_zero, List.set_cons_succ]
        refine take_at (i := 10) 47 (v := ?_) rfl rfl (by kernel_rfl) (by kernel_rfl) (by kernel_rfl) (fun _ _ _ h => h) (by rfl) ?_ hHeld ?_
        rotate_left
        · (intro w hSw; (try dsimp only at hSw); go_simp; try with_reducible rfl)
        simp only [Act.put, List.setIfInBounds_toArray, List.set_cons_zero, List.set_cons_succ]
        refine run_at (i := 11) rfl (by kernel_rfl) (by rfl) (fun K hK => ?_)
        simp only [List.getElem_toArray, List.getElem_cons_zero, List.getElem_cons_succ]
        go_simp
        first | (go_at_call 53; refine Calls.mono HWP.out ?_; rintro e v1 ⟨rfl, h1, h2⟩; have HL1 : Hid (DLft W0 p _ (n + k + 1) F v1) := h1; have HS1 : Hid (WrS x g p sa sc H l v1 ∧ v1.heap[g]? = some (.cells (x.c p sa sc) tLg (0, 0))) := HST.out _ h2; have HHR : Hid (Calls _ _ _ v1 _) := heard0_t g p x sa sc v1 HS1.out.2; clear h1 h2) | (go_at_call 49; refine Calls.mono HHR.out ?_; rintro e v2 ⟨rfl, h3⟩; have HB2 : Hid (Below v1.heap.size v1 v2) := h3; have HS2 : Hid (WrS x g p sa sc H l v2) := ⟨⟨x.fl, below_blk h3 HS1.out.2⟩, below_blk h3 HS1.out.1.bx⟩; clear h3)
        go_wp2_with fail
        refine hK.out _ _ (by first | exact HS0.out | exact HS1.out.1 | exact HS2.out | exact HS2.out.1 | assumption) ?_
        clear hK K
        intro hHeld2
        clear hHeld
        have hHeld := hHeld2
        clear hHeld2
        try simp only [Act.put, List.setIfInBounds_toArray, List.set_cons_zero, List.set_cons_succ]
        refine run_at (i := 12) rfl (by kernel_rfl) (by rfl) (fun K hK => ?_)
        simp only [List.getElem_toArray, List.getElem_cons_zero, List.getElem_cons_succ]
        go_simp
        first | (go_at_call 53; refine Calls.mono HWP.out ?_; rintro e v1 ⟨rfl, h1, h2⟩; have HL1 : Hid (DLft W0 p _ (n + k + 1) F v1) := h1; have HS1 : Hid (WrS x g p sa sc H l v1 ∧ v1.heap[g]? = some (.cells (x.c p sa sc) tLg (0, 0))) := HST.out _ h2; have HHR : Hid (Calls _ _ _ v1 _) := heard0_t g p x sa sc v1 HS1.out.2; clear h1 h2) | (go_at_call 49; refine Calls.mono HHR.out ?_; rintro e v2 ⟨rfl, h3⟩; have HB2 : Hid (Below v1.heap.size v1 v2) := h3; have HS2 : Hid (WrS x g p sa sc H l v2) := ⟨⟨x.fl, below_blk h3 HS1.out.2⟩, below_blk h3 HS1.out.1.bx⟩; clear h3)
        go_wp2_with fail
        refine hK.out _ _ (by first | exact HS0.out | exact HS1.out.1 | exact HS2.out | exact HS2.out.1 | assumption) ?_
        clear hK K
        intro hHeld2
        clear hHeld
        have hHeld := hHeld2
        clear hHeld2
        try simp only [Act.put, List.setIfInBounds_toArray, List.set_cons_zero, List.set_cons_succ]
        refine take_at (i := 13) 10 (v := ?_) rfl rfl (by kernel_rfl) (by kernel_rfl) (by kernel_rfl) (fun _ _ _ h => h) (by rfl) ?_ hHeld ?_
        rotate_left
        · (intro w hSw; (try dsimp only at hSw); go_simp; try with_reducible rfl)
        simp only [Act.put, List.setIfInBounds_toArray, List.set_cons_zero, List.set_cons_succ]
        refine wpAnyH_done (by kernel_rfl) ?_ _
        clear HWP
        go_wp2
        go_roundw
        case rel => exact ⟨k + 1, by omega, by go_num, by unfold Hid; rw [HSN.out], by rw [HSN.out]; rw [HN.out] at HL1; exact HL1.out.below HB2.out⟩
        case measure => simp [intOf]; omega
    · obtain rfl : k = M := by omega
      have hltI : ¬ (k : Int) < (k : Int) := by omega
      clear f0 f1 f2 f3
      go_wp2_with fail
      go_ret
      have HR : Hid (runO d (recO x.A x.Z x.nx x.h.e rec (needS rec.length)) = (dk, true)) := by unfold Hid; rw [← HM.out]; exact Prod.ext HDK.out.symm HOK.out
      rw [HM.out, HR.out]
      exact ⟨rfl, WrOut_yes HB0.out HP.out (by have := HMP.out; omega) HB.out.2.2.2.2.1 (HF0.out wr HP.out.chg).2.1 HR.out⟩
end Go.Proofs.YtibepnilhmbpeaaDoor
