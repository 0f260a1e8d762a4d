import Derived.Test.YtibepnilhmbpeaaDoorSAr
import Derived.Test.YtibepnilhmbpeaaDoorOpenD
namespace Go.Proofs.YtibepnilhmbpeaaDoor
set_option linter.unusedVariables false
set_option linter.unusedSimpArgs false
open Go.RowKit
theorem mod5 (i : Nat) (q : Nat) (h : i % 5 = q) : ((i : Int)).tmod 5 = (q : Int) := by rw [Int.tmod_eq_emod_of_nonneg (by omega)]; omega
set_option maxRecDepth 20000 in
set_option maxHeartbeats 12800000 in
theorem seglogApart_walk (one two : Int) (aa : Option Addr) (ca : Nat) (xs : List Int) (ab : Option Addr) (cb : Nat) (ys : List Int) (w : World) (hs1 : I64 one) (hs2 : I64 two) (hx : RdI w aa xs) (hxi : ∀ n ∈ xs, I64 n) (hxl : xs.length ≤ ca) (hxn : aa = none → ca = 0) (hxc : ca ≤ 1048575) (hy : RdI w ab ys) (hyi : ∀ n ∈ ys, I64 n) (hyl : ys.length ≤ cb) (hyn : ab = none → cb = 0) (hyc : cb ≤ 1048575) (ht : TabOk w) :
    Calls Tryd.prog 4 #[.int .i64 one, .int .i64 two, .slice aa xs.length ca, .slice ab ys.length cb] w fun e w' => e = .returned (.bool true) ∧ Below w.heap.size w w' := by
  have HSP1 : Hid (∀ u, Calls _ _ _ u _) := fun u => spanK_t one 3 32768 u hs1.1 hs1.2 (by decide) (by decide)
  have HSP2 : Hid (∀ u, Calls _ _ _ u _) := fun u => spanK_t two 3 32768 u hs2.1 hs2.2 (by decide) (by decide)
  have HX : Hid (RdI w aa xs) := hx
  have HY : Hid (RdI w ab ys) := hy
  have HI : Hid (∀ n ∈ xs, I64 n) := hxi
  have HJ : Hid (∀ n ∈ ys, I64 n) := hyi
  have hm1 := spanK_in one 3 32768 (by decide)
  have hm2 := spanK_in two 3 32768 (by decide)
  obtain ⟨z, hz⟩ : ∃ z, z = spanK one 3 32768 := ⟨_, rfl⟩
  obtain ⟨y, hyy⟩ : ∃ y, y = spanK two 3 32768 := ⟨_, rfl⟩
  rw [← hz] at HSP1 hm1
  rw [← hyy] at HSP2 hm2
  obtain ⟨La, hLa⟩ : ∃ L, L = xs.length := ⟨_, rfl⟩
  obtain ⟨Lb, hLb⟩ : ∃ L, L = ys.length := ⟨_, rfl⟩
  have HL : Hid (La = xs.length ∧ La ≤ 1048575 ∧ Lb = ys.length ∧ Lb ≤ 1048575) := ⟨hLa, by omega, hLb, by omega⟩
  have HZ : Hid (3 ≤ z ∧ z ≤ 32768 ∧ 3 ≤ y ∧ y ≤ 32768) := ⟨hm1.1, hm1.2, hm2.1, hm2.2⟩
  rw [← hLa, ← hLb]
  have hzy : IntKind.i64.wrap ((z : Int) + (y : Int)) = ((z + y : Nat) : Int) := by rw [IntKind.wrap_i64]; omega
  have HZY : Hid (IntKind.i64.wrap ((z : Int) + (y : Int)) = ((z + y : Nat) : Int)) := hzy
  have hp0 : Pow (dz (z + y)) := ⟨rfl, rfl⟩
  obtain ⟨d1, d2, d3, d4, hbg⟩ := beg2_ok (d0 := dz (z + y)) hp0 hm1.1 hm2.1 (by rw [List.length_replicate]) (by omega)
  have HBG : Hid (Beg2 (dz (z + y)) z y d1 d2 d3 d4) := hbg
  have HNW : Hid (∀ u, Calls _ _ _ u _) := fun u => Dsk.new (z + y) (by omega) (by omega) u
  have HT : Hid (TabOk w) := ht
  have HSZ : Hid (0 < w.heap.size) := World.block_lt_of_cell? w _ (ht 0)
  clear hs1 hs2 hx hxi hxl hxn hxc hy hyi hyl hyn hyc ht hm1 hm2 hz hyy hLa hLb hbg hp0
  go_enter Tryd.func4, Tryd.ntmps4
  go_upto_region 2 with (go_at_call 9; refine Calls.mono (HSP1.out _) ?_; rintro e w' ⟨rfl, hq⟩; have hq := hq.symm; subst hq)
  go_upto_region 3 with (go_at_call 9; refine Calls.mono (HSP2.out _) ?_; rintro e w' ⟨rfl, hq⟩; have hq := hq.symm; subst hq)
  go_upto_region 4 with (go_at_call 16; refine Calls.mono (HNW.out _) ?_; rintro e u1 ⟨p, F, rfl, hd, hF, hb⟩; have HD : Hid (Dsk u1 p (dz (z + y)) 0 F) := hd; have HF : Hid (∀ b, F b → w.heap.size ≤ b) := hF; have HB1 : Hid (Below w.heap.size w u1) := hb; clear hd hF hb)
  clear hzy
  have hfm := Format_t HD.out 0 (z : Int) (by decide) (by decide) (HT.out.below HB1.out) (fun h9 => by have := HF.out _ h9; have := HSZ.out; omega)
  rw [HBG.out.f1e, HBG.out.f1d] at hfm
  have HFM : Hid (Calls _ _ _ u1 _) := hfm
  clear hfm
  have HFN : Hid (∀ u2, DLft u1 p d1 (0 + 65537) F u2 → (∃ F2, Dsk u2 p d1 (0 + 65537) F2 ∧ (∀ b, F2 b → w.heap.size ≤ b)) ∧ Below w.heap.size w u2) := fun u2 hl => by
    obtain ⟨F2, hd2, hF2⟩ := hl.ex
    exact ⟨⟨F2, hd2, fun b hb => (hF2 b hb).elim (HF.out b) (fun h => Nat.le_trans HB1.out.size h)⟩, HB1.out.trans (hl.chg.below (fun i hi => HF.out i hi) HB1.out.size)⟩
  have HFG : Hid (∀ u2 n2 F2, Dsk u2 p d1 n2 F2 → n2 = 65537 → (∀ b, F2 b → w.heap.size ≤ b) → Below w.heap.size w u2 → Calls _ _ _ u2 fun e w' => e = .returned (.int .i64 0) ∧ DLft u2 p d2 (n2 + 65537) F2 w') := fun u2 n2 F2 hd2 hn2 hF2 hb2 => by
    have h := Format_t hd2 (z : Int) (y : Int) (by have := HZ.out; omega) (by omega) (HT.out.below hb2) (fun h9 => by have := hF2 _ h9; have := HSZ.out; omega)
    rw [HBG.out.f2e, HBG.out.f2d] at h
    exact h
  have F1 : Hid True := trivial
  go_upto_region 6 with first | (clear F1; go_at_call 17; refine Calls.mono HFM.out ?_; rintro e u2 ⟨rfl, hl⟩; obtain ⟨⟨F2, hd2, hF2⟩, hb2⟩ := HFN.out u2 hl; have HD2 : Hid (Dsk u2 p d1 (0 + 65537) F2) := hd2; have HF2 : Hid (∀ b, F2 b → w.heap.size ≤ b) := hF2; have HB2 : Hid (Below w.heap.size w u2) := hb2; clear hl hd2 hF2 hb2) | (go_at_call 17; refine Calls.mono (HFG.out _ _ _ HD2.out (by omega) HF2.out HB2.out) ?_; rintro e u3 ⟨rfl, hl⟩; have HL3 : Hid _ := hl; clear hl)
  obtain ⟨F3, hd3, hF3⟩ := HL3.out.ex
  have hb3 : Below w.heap.size w u3 := HB2.out.trans (HL3.out.chg.below (fun i hi => HF2.out i hi) HB2.out.size)
  have hF3' : ∀ b, F3 b → w.heap.size ≤ b := fun b hb => (hF3 b hb).elim (HF2.out b) (fun h => Nat.le_trans HB2.out.size h)
  have hS3 : ¬ F3 0 := fun h9 => by have := hF3' _ h9; have := HSZ.out; omega
  have HOP : Hid (Calls _ _ _ u3 _) := Open_t hd3 0 (z : Int) (by decide) (by decide) (HT.out.below hb3) hS3
  have HB3 : Hid (Below w.heap.size w u3) := hb3
  have HF3 : Hid (∀ b, F3 b → w.heap.size ≤ b) := hF3'
  clear hd3 hF3 hb3 hF3' hS3
  go_upto_region 7 with (go_at_call 18; refine Calls.mono HOP.out ?_; rintro e u4 hq; obtain ⟨g1, sa1, sc1, F4, he4, hm4, r2, r3, r4, r5⟩ := hq.ok HBG.out.o1e; subst he4; rw [HBG.out.o1y, HBG.out.o1d] at hm4; have HM4 : Hid (LogM u4 g1 p ⟨0, z, opH0, 0, [], false⟩ sa1 sc1 d3 131075 F4) := hm4; have HR4 : Hid ((∀ b, F4 b → F3 b ∨ u3.heap.size ≤ b) ∧ u3.heap.size ≤ g1 ∧ (∀ a, sa1 = some a → u3.heap.size ≤ a.block) ∧ Chg F3 u3 u4) := ⟨r2, r3, r4, r5⟩; clear hq hm4 r2 r3 r4 r5)
  have hF4 : ∀ b, F4 b → w.heap.size ≤ b := fun b hb => (HR4.out.1 b hb).elim (HF3.out b) (fun h => Nat.le_trans HB3.out.size h)
  have hb4 : Below w.heap.size w u4 := HB3.out.trans (HR4.out.2.2.2.below (fun i hi => HF3.out i hi) HB3.out.size)
  have HOQ : Hid (Calls _ _ _ u4 _) := Open_t HM4.out.s.dk (z : Int) (y : Int) (by have := HZ.out; omega) (by decide) (HT.out.below hb4) HM4.out.sums
  have HB4 : Hid (Below w.heap.size w u4) := hb4
  have HF4 : Hid (∀ b, F4 b → w.heap.size ≤ b) := hF4
  clear hF4 hb4
  go_upto_region 10 with (go_at_call 18; refine Calls.mono HOQ.out ?_; rintro e u5 hq; obtain ⟨g2, sa2, sc2, F5, he5, hm5, r2, r3, r4, r5⟩ := hq.ok HBG.out.o2e; subst he5; rw [HBG.out.o2y, HBG.out.o2d] at hm5; have HM5 : Hid (LogM u5 g2 p ⟨z, y, opH0, 0, [], false⟩ sa2 sc2 d4 131076 F5) := hm5; have HR5 : Hid ((∀ b, F5 b → F4 b ∨ u4.heap.size ≤ b) ∧ u4.heap.size ≤ g2 ∧ (∀ a, sa2 = some a → u4.heap.size ≤ a.block) ∧ Chg F4 u4 u5) := ⟨r2, r3, r4, r5⟩; clear hq hm5 r2 r3 r4 r5)
  go_upto_region 12 with fail
  have hb6 : Below u5.heap.size u5 ((u5.alloc (.cells #[.pointer (some ⟨p, 0, none⟩), .pointer (some ⟨g1, 0, none⟩), .int .i64 (z : Int), .slice none 0 0, .int .i64 0, .int .u64 0, .int .u64 0, .int .u64 1, .bool false, .int .i64 0, .int .i64 0] tKp)).alloc (.cells #[.pointer (some ⟨p, 0, none⟩), .pointer (some ⟨g2, 0, none⟩), .int .i64 (y : Int), .slice none 0 0, .int .i64 0, .int .u64 0, .int .u64 0, .int .u64 1, .bool false, .int .i64 1048576, .int .i64 0] tKp)) := alS (alS (Below.refl _ _) _) _
  obtain ⟨f1, f2⟩ := two_newR u5 (.cells #[.pointer (some ⟨p, 0, none⟩), .pointer (some ⟨g1, 0, none⟩), .int .i64 (z : Int), .slice none 0 0, .int .i64 0, .int .u64 0, .int .u64 0, .int .u64 1, .bool false, .int .i64 0, .int .i64 0] tKp) (.cells #[.pointer (some ⟨p, 0, none⟩), .pointer (some ⟨g2, 0, none⟩), .int .i64 (y : Int), .slice none 0 0, .int .i64 0, .int .u64 0, .int .u64 0, .int .u64 1, .bool false, .int .i64 1048576, .int .i64 0] tKp)
  generalize ((u5.alloc (.cells #[.pointer (some ⟨p, 0, none⟩), .pointer (some ⟨g1, 0, none⟩), .int .i64 (z : Int), .slice none 0 0, .int .i64 0, .int .u64 0, .int .u64 0, .int .u64 1, .bool false, .int .i64 0, .int .i64 0] tKp)).alloc (.cells #[.pointer (some ⟨p, 0, none⟩), .pointer (some ⟨g2, 0, none⟩), .int .i64 (y : Int), .slice none 0 0, .int .i64 0, .int .u64 0, .int .u64 0, .int .u64 1, .bool false, .int .i64 1048576, .int .i64 0] tKp)) = W6 at *
  obtain ⟨kb1, hkb1⟩ : ∃ kb1, kb1 = u5.heap.size := ⟨_, rfl⟩
  obtain ⟨kb2, hkb2⟩ : ∃ kb2, kb2 = u5.heap.size + 1 := ⟨_, rfl⟩
  rw [← hkb2] at f2 ⊢
  rw [← hkb1] at f1 ⊢
  have hD : DuE w p kb1 g1 kb2 g2 0 W6 := by
    have s45 := HR5.out.2.2.2.size
    have s34 := HR4.out.2.2.2.size
    have s3 := HB3.out.size
    have s4 := HB4.out.size
    have s56 := hb6.size
    have hb5 : Below w.heap.size w u5 := HB4.out.trans (HR5.out.2.2.2.below (fun i hi => HF4.out i hi) HB4.out.size)
    have hb : Below w.heap.size w W6 := hb5.trans (hb6.mono hb5.size)
    have l1 := HM4.out.own_lt
    have l2 := HM5.out.own_lt
    have F5w : ∀ b, F5 b → w.heap.size ≤ b := fun b hb => (HR5.out.1 b hb).elim (HF4.out b) (fun h => by omega)
    have F5lt : ∀ b, F5 b → b < u5.heap.size := HM5.out.s.dk.lt
    have L1w : ∀ b, lgB g1 sa1 b → u3.heap.size ≤ b := by
      rintro b (rfl | ⟨a, e, rfl⟩)
      · exact HR4.out.2.1
      · exact HR4.out.2.2.1 a e
    have L2w : ∀ b, lgB g2 sa2 b → u4.heap.size ≤ b := by
      rintro b (rfl | ⟨a, e, rfl⟩)
      · exact HR5.out.2.1
      · exact HR5.out.2.2.1 a e
    have hP1 : Prv W6 kb1 g1 p ⟨0, z, opH0, 0, [], false⟩ (lgB g1 sa1) (fun b => b = kb1) [] ⟨z, 0, 0, 0, 1, false, 0⟩ := HM4.out.prv (fun b hb => by
      have h9 := l1 b hb
      exact (hb6.block b (by omega)).trans (HR5.out.2.2.2.block b h9.1 h9.2.2)) (by omega) f1 (by omega)
    have hP2 : Prv W6 kb2 g2 p ⟨z, y, opH0, 0, [], false⟩ (lgB g2 sa2) (fun b => b = kb2) [] ⟨y, 0, 0, 0, 1, false, 1048576⟩ := HM5.out.prv (fun b hb => hb6.block b (l2 b hb).1) hb6.size f2 (by omega)
    refine ⟨d4, 131076, F5, _, _, _, _, _, _, _, _, _, _, HM5.out.s.dk.below hb6, HM5.out.sums, HT.out.below hb, hP1, hP2, fun b hb => ⟨fun h9 => ?_, fun h9 => ?_⟩, fun b hb => ⟨fun h9 => (l2 b h9).2.2 hb, fun h9 => ?_⟩, fun b hb h9 => ?_, HBG.out.l1, HBG.out.l2, ⟨rfl, rfl, rfl, rfl⟩, ⟨rfl, rfl, rfl, rfl⟩, .inl (by show 0 + z ≤ z; omega), Nat.zero_le _, Nat.zero_le _, (by show (2 : Nat) + 0 ≤ 2 + 0; omega), (by show (2 : Nat) + 0 ≤ 2 + 0; omega), by decide, (by show (0 : Nat) ≤ _; omega), (by show (1048576 : Nat) ≤ 1048576 + 0; omega), Nat.zero_le _, Nat.zero_le _, ?_, hb⟩
    · have h8 := l1 b h9
      rcases HR5.out.1 b hb with h7 | h7
      · exact h8.2.2 h7
      · omega
    · have h9 : b = kb1 := h9
      have := F5lt b hb
      omega
    · have h9 : b = kb2 := h9
      have := F5lt b hb
      omega
    · rcases hb with hb | hb
      · have h1 := (l1 b hb).1
        rcases h9 with h9 | h9
        · have := L2w b h9; omega
        · have h9 : b = kb2 := h9; omega
      · have hb : b = kb1 := hb
        rcases h9 with h9 | h9
        · have := (l2 b h9).1; omega
        · have h9 : b = kb2 := h9; omega
    · rintro b (h9 | h9 | h9 | h9 | h9)
      · exact F5w b h9
      · have := L1w b h9; omega
      · have h9 : b = kb1 := h9; omega
      · have := L2w b h9; omega
      · have h9 : b = kb2 := h9; omega
  have HD0 : Hid (DuE w p kb1 g1 kb2 g2 0 W6) := hD
  clear hD hkb1 hkb2 f1 f2 hb6

  obtain ⟨M, hM⟩ : ∃ M, M = max La Lb := ⟨_, rfl⟩
  have HM : Hid (La ≤ M ∧ Lb ≤ M ∧ (M = La ∨ M = Lb) ∧ M ≤ 1048575) := (show _ ∧ _ from by have := HL.out; omega)
  clear hM
  go_wp2_with fail
  go_loopw [17] (fun j wr => ∃ i : Nat, i ≤ M ∧ j = .int .i64 (i : Int) ∧ Hid (DuE w p kb1 g1 kb2 g2 (2 * i) wr)) (fun j _ => M - (intOf j).toNat)
  case atStart => exact ⟨0, Nat.zero_le _, rfl, HD0.out⟩
  case round =>
    obtain ⟨i, hiM, rfl, HD⟩ := hrel
    have HIM : Hid (i ≤ M ∧ M ≤ 1048575) := ⟨hiM, HM.out.2.2.2⟩
    have hi0 : (0 : Int) ≤ (i : Int) := by omega
    have hkw : IntKind.i64.wrap ((i : Int) + 1) = ((i + 1 : Nat) : Int) := by have := HIM.out; rw [IntKind.wrap_i64]; omega
    have hrx : ∀ h : i < La, ∃ a0, I64 a0 ∧ ∃ b o, aa = some ⟨b, o, none⟩ ∧ wr.cell? ⟨b, o + i, none⟩ = some (.int .i64 a0) := fun h => by
      have hix : i < xs.length := by rw [← HL.out.1]; exact h
      obtain ⟨b, o, e1, hc⟩ := HX.out (by omega)
      exact ⟨xs[i], HI.out _ (List.getElem_mem hix), b, o, e1, (HD.out.bel.cell (World.block_lt_of_cell? w _ (hc i hix))).trans (hc i hix)⟩
    have hry : ∀ h : i < Lb, ∃ a0, I64 a0 ∧ ∃ b o, ab = some ⟨b, o, none⟩ ∧ ∀ u, Below w.heap.size w u → u.cell? ⟨b, o + i, none⟩ = some (.int .i64 a0) := fun h => by
      have hix : i < ys.length := by rw [← HL.out.2.2.1]; exact h
      obtain ⟨b, o, e1, hc⟩ := HY.out (by omega)
      exact ⟨ys[i], HJ.out _ (List.getElem_mem hix), b, o, e1, fun u hu => (hu.cell (World.block_lt_of_cell? w _ (hc i hix))).trans (hc i hix)⟩
    by_cases ha : i < La
    · obtain ⟨a0, ha0, b1, o1, rfl, cx⟩ := hrx ha
      have HA : Hid (I64 a0) := ha0
      have haI : (i : Int) < (La : Int) := by omega
      clear ha0 hrx
      by_cases hb : i < Lb
      · obtain ⟨b0, hb0, b2, o2, rfl, cy⟩ := hry hb
        have HB : Hid (I64 b0) := hb0
        have HCY : Hid (∀ u, Below w.heap.size w u → u.cell? ⟨b2, o2 + i, none⟩ = some (.int .i64 b0)) := cy
        have hbI : (i : Int) < (Lb : Int) := by omega
        have HII : Hid (i < M) := (show i < M by have := HM.out; omega)
        clear hb0 cy hry ha hb hiM
        go_upto_region 17 with (go_at_call 19; refine Calls.mono (HD.out.app _ HA.out.1 HA.out.2 (by have := HIM.out; omega)) ?_; rintro e wn ⟨rfl, hd⟩; clear HD; have HD : Hid (DuE _ _ _ _ _ _ _ wn) := hd; have c2 := HCY.out wn hd.bel; clear hd)
        go_upto_region 19 with (go_at_call 19; refine Calls.mono (HD.out.swap.app _ HB.out.1 HB.out.2 (by have := HIM.out; omega)) ?_; rintro e wn ⟨rfl, hd⟩; clear HD; have HD : Hid (DuE _ _ _ _ _ _ _ wn) := hd.swap; clear hd)
        have F1 : Hid True := trivial
        by_cases h5 : i % 5 = 4
        · have h5I : ((i : Int)).tmod 5 = 4 := mod5 i 4 h5
          clear h5
          go_wp2_with first | (clear F1; go_at_call 13; refine Calls.mono (HD.out.trm 1 (by decide) (by decide) (by have := HIM.out; omega)) ?_; rintro e wn ⟨rfl, hd⟩; clear HD; have HD : Hid (DuE _ _ _ _ _ _ _ wn) := hd; clear hd) | (go_at_call 13; refine Calls.mono (HD.out.swap.trm 2 (by decide) (by decide) (by have := HIM.out; omega)) ?_; rintro e wn ⟨rfl, hd⟩; clear HD; have HD : Hid (DuE _ _ _ _ _ _ _ wn) := hd.swap; clear hd)
          go_roundw
          case rel => exact ⟨i + 1, HII.out, by go_num, HD.out.mono (by omega)⟩
          case measure => have := HII.out; simp [intOf]; omega
        · obtain ⟨q, hq5, h5I⟩ : ∃ q : Nat, q ≠ 4 ∧ ((i : Int)).tmod 5 = (q : Int) := ⟨i % 5, h5, mod5 i _ rfl⟩
          have h5q : ¬ (q : Int) = 4 := by omega
          clear h5 hq5
          go_wp2_with first | (clear F1; go_at_call 13; refine Calls.mono (HD.out.trm 1 (by decide) (by decide) (by have := HIM.out; omega)) ?_; rintro e wn ⟨rfl, hd⟩; clear HD; have HD : Hid (DuE _ _ _ _ _ _ _ wn) := hd; clear hd) | (go_at_call 13; refine Calls.mono (HD.out.swap.trm 2 (by decide) (by decide) (by have := HIM.out; omega)) ?_; rintro e wn ⟨rfl, hd⟩; clear HD; have HD : Hid (DuE _ _ _ _ _ _ _ wn) := hd.swap; clear hd)
          go_roundw
          case rel => exact ⟨i + 1, HII.out, by go_num, HD.out.mono (by omega)⟩
          case measure => have := HII.out; simp [intOf]; omega
      · have hbI : ¬ (i : Int) < (Lb : Int) := by omega
        have HII : Hid (i < M) := (show i < M by have := HM.out; omega)
        clear hry ha hb hiM
        go_upto_region 17 with (go_at_call 19; refine Calls.mono (HD.out.app _ HA.out.1 HA.out.2 (by have := HIM.out; omega)) ?_; rintro e wn ⟨rfl, hd⟩; clear HD; have HD : Hid (DuE _ _ _ _ _ _ _ wn) := hd; skip; clear hd)
        go_upto_region 19 with fail
        have F1 : Hid True := trivial
        by_cases h5 : i % 5 = 4
        · have h5I : ((i : Int)).tmod 5 = 4 := mod5 i 4 h5
          clear h5
          go_wp2_with first | (clear F1; go_at_call 13; refine Calls.mono (HD.out.trm 1 (by decide) (by decide) (by have := HIM.out; omega)) ?_; rintro e wn ⟨rfl, hd⟩; clear HD; have HD : Hid (DuE _ _ _ _ _ _ _ wn) := hd; clear hd) | (go_at_call 13; refine Calls.mono (HD.out.swap.trm 2 (by decide) (by decide) (by have := HIM.out; omega)) ?_; rintro e wn ⟨rfl, hd⟩; clear HD; have HD : Hid (DuE _ _ _ _ _ _ _ wn) := hd.swap; clear hd)
          go_roundw
          case rel => exact ⟨i + 1, HII.out, by go_num, HD.out.mono (by omega)⟩
          case measure => have := HII.out; simp [intOf]; omega
        · obtain ⟨q, hq5, h5I⟩ : ∃ q : Nat, q ≠ 4 ∧ ((i : Int)).tmod 5 = (q : Int) := ⟨i % 5, h5, mod5 i _ rfl⟩
          have h5q : ¬ (q : Int) = 4 := by omega
          clear h5 hq5
          go_wp2_with first | (clear F1; go_at_call 13; refine Calls.mono (HD.out.trm 1 (by decide) (by decide) (by have := HIM.out; omega)) ?_; rintro e wn ⟨rfl, hd⟩; clear HD; have HD : Hid (DuE _ _ _ _ _ _ _ wn) := hd; clear hd) | (go_at_call 13; refine Calls.mono (HD.out.swap.trm 2 (by decide) (by decide) (by have := HIM.out; omega)) ?_; rintro e wn ⟨rfl, hd⟩; clear HD; have HD : Hid (DuE _ _ _ _ _ _ _ wn) := hd.swap; clear hd)
          go_roundw
          case rel => exact ⟨i + 1, HII.out, by go_num, HD.out.mono (by omega)⟩
          case measure => have := HII.out; simp [intOf]; omega
    · have haI : ¬ (i : Int) < (La : Int) := by omega
      clear hrx
      by_cases hb : i < Lb
      · obtain ⟨b0, hb0, b2, o2, rfl, cy⟩ := hry hb
        have HB : Hid (I64 b0) := hb0
        have HCY : Hid (∀ u, Below w.heap.size w u → u.cell? ⟨b2, o2 + i, none⟩ = some (.int .i64 b0)) := cy
        have hbI : (i : Int) < (Lb : Int) := by omega
        have HII : Hid (i < M) := (show i < M by have := HM.out; omega)
        have c2 := cy _ HD.out.bel
        clear hb0 cy hry ha hb hiM
        go_upto_region 17 with fail
        go_upto_region 19 with (go_at_call 19; refine Calls.mono (HD.out.swap.app _ HB.out.1 HB.out.2 (by have := HIM.out; omega)) ?_; rintro e wn ⟨rfl, hd⟩; clear HD; have HD : Hid (DuE _ _ _ _ _ _ _ wn) := hd.swap; clear hd)
        have F1 : Hid True := trivial
        by_cases h5 : i % 5 = 4
        · have h5I : ((i : Int)).tmod 5 = 4 := mod5 i 4 h5
          clear h5
          go_wp2_with first | (clear F1; go_at_call 13; refine Calls.mono (HD.out.trm 1 (by decide) (by decide) (by have := HIM.out; omega)) ?_; rintro e wn ⟨rfl, hd⟩; clear HD; have HD : Hid (DuE _ _ _ _ _ _ _ wn) := hd; clear hd) | (go_at_call 13; refine Calls.mono (HD.out.swap.trm 2 (by decide) (by decide) (by have := HIM.out; omega)) ?_; rintro e wn ⟨rfl, hd⟩; clear HD; have HD : Hid (DuE _ _ _ _ _ _ _ wn) := hd.swap; clear hd)
          go_roundw
          case rel => exact ⟨i + 1, HII.out, by go_num, HD.out.mono (by omega)⟩
          case measure => have := HII.out; simp [intOf]; omega
        · obtain ⟨q, hq5, h5I⟩ : ∃ q : Nat, q ≠ 4 ∧ ((i : Int)).tmod 5 = (q : Int) := ⟨i % 5, h5, mod5 i _ rfl⟩
          have h5q : ¬ (q : Int) = 4 := by omega
          clear h5 hq5
          go_wp2_with first | (clear F1; go_at_call 13; refine Calls.mono (HD.out.trm 1 (by decide) (by decide) (by have := HIM.out; omega)) ?_; rintro e wn ⟨rfl, hd⟩; clear HD; have HD : Hid (DuE _ _ _ _ _ _ _ wn) := hd; clear hd) | (go_at_call 13; refine Calls.mono (HD.out.swap.trm 2 (by decide) (by decide) (by have := HIM.out; omega)) ?_; rintro e wn ⟨rfl, hd⟩; clear HD; have HD : Hid (DuE _ _ _ _ _ _ _ wn) := hd.swap; clear hd)
          go_roundw
          case rel => exact ⟨i + 1, HII.out, by go_num, HD.out.mono (by omega)⟩
          case measure => have := HII.out; simp [intOf]; omega
      · have hbI : ¬ (i : Int) < (Lb : Int) := by omega
        clear hry ha hb hiM
        have F1 : Hid True := trivial
        have F2 : Hid True := trivial
        have F3 : Hid True := trivial
        have F4 : Hid True := trivial
        go_wp2_with first | (go_at_call 20; refine Calls.mono HD.out.flush ?_; rintro e wn ⟨rfl, hd⟩; clear HD; have HD : Hid (DuE _ _ _ _ _ _ _ wn) := hd; clear hd) | (clear F1; go_at_call 15; refine Calls.mono (HD.out.is_ (by have := HIM.out; omega)) ?_; rintro e wn ⟨rfl, hd⟩; clear HD; have HD : Hid (DuE _ _ _ _ _ _ _ wn) := hd; clear hd) | (clear F2; go_at_call 15; refine Calls.mono (HD.out.swap.is_ (by have := HIM.out; omega)) ?_; rintro e wn ⟨rfl, hd⟩; clear HD; have HD : Hid (DuE _ _ _ _ _ _ _ wn) := hd.swap; clear hd) | (clear F3; go_at_call 15; refine Calls.mono (HD.out.is_ (by have := HIM.out; omega)) ?_; rintro e wn ⟨rfl, hd⟩; clear HD; have HD : Hid (DuE _ _ _ _ _ _ _ wn) := hd; clear hd) | (clear F4; go_at_call 15; refine Calls.mono (HD.out.swap.is_ (by have := HIM.out; omega)) ?_; rintro e wn ⟨rfl, hd⟩; clear HD; have HD : Hid (DuE _ _ _ _ _ _ _ wn) := hd.swap; clear hd)
        go_ret
        exact ⟨by first | rfl | simp, HD.out.bel⟩
end Go.Proofs.YtibepnilhmbpeaaDoor
