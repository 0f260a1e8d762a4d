import Derived.Test.YtekfolppahnpoaaTStand
import Derived.Test.YtekfolppahnpoaaTRest
import Derived.Test.YtekfolppahnpoaaDSpan
namespace Go.Proofs.Ytekfolppahnpoaa
set_option linter.unusedVariables false
set_option linter.unusedSimpArgs false
open Go.RowKit Go.Maps
variable {W w w' : World} {P : Nat → Nat} {ds : Nat → Dst} {c K : Nat} {F : Key → Row}
def F00 : Key → Row := fun x => if x.1 = 4 then ⟨rty x.2, .slice none 0 0, []⟩ else ⟨ety x.1, .slice none 0 0, []⟩
theorem F00_v (x : Key) : (F00 x).v = .slice none 0 0 := by unfold F00; split <;> rfl
theorem F00_xs (x : Key) : (F00 x).xs = [] := by unfold F00; split <;> rfl
theorem tl_start (h : Ap W w 2 [] P ds c) : Tl W (w.alloc (.cells #[.slice none 0 0, .slice none 0 0, .slice none 0 0, .slice none 0 0] tT)) P ds c w.heap.size (N4 0 0 0 0) F00 := by
  have hz : ∀ k, N4 0 0 0 0 k = 0 := fun k => by unfold N4; (repeat' split) <;> rfl
  refine ⟨⟨h.below (al (Below.refl _ _) _), ?_, h.bel.size, ⟨fun x => ?_, fun x y _ => .inl (by rw [F00_v]; rfl)⟩, fun x => ?_⟩, fun k hk => ⟨?_, ?_, fun i => ?_⟩, ⟨Nat.le_refl _, Nat.le_refl _, fun i hi => ?_, fun i hi => ?_, fun i hi => ?_, fun i hi => ?_⟩, fun k i hk => by rw [F00_xs]; simp⟩
  · rw [F00_v, F00_v, F00_v, F00_v]; exact heap_alloc_new w _
  · unfold Row.at; rw [F00_xs, F00_v]; exact World.ownsRow_nil _ _ _ _
  · unfold F00; split
    · exact rty_ok _
    · exact ety_ok _
  · unfold F00; rw [if_pos rfl]
  · rw [F00_xs, hz]; rfl
  · unfold F00; rw [if_neg (by simp; omega)]
  · rw [hz] at hi; omega
  · rw [hz] at hi; omega
  · rw [hz] at hi; omega
  · rw [hz] at hi; omega
theorem Tl.eq {N : Nat → Nat} {ds' : Nat → Dst} {c' : Nat} (h : Tl W w P ds c K N F) (he : ∀ j, j < 2 → ds j = ds' j) (hc : c ≤ c') : Tl W w P ds' c' K N F :=
  ⟨⟨(h.d.ap.eq he).more hc, h.d.kc, h.d.hK, h.d.fam, h.d.ty⟩, h.r, h.n, h.ln⟩
theorem Tl.run {N : Nat → Nat} (h : Tl W w P ds c K N F) (i : Nat) (hi : i < 2) (a : Option Addr) (xs : List Stp) (L : Nat) (hL : L = xs.length) (hx : RdSt W a xs) (cap : Nat) (hc : c + L ≤ 1099511627776) {D' : Dst} (hD : (runS (L : Int) 0 0 (ds i) xs).1 = D') :
    Calls Try.prog 6 #[.pointer (some ⟨P i, 0, none⟩), .slice a L cap, .int .i64 (L : Int)] w fun e w' => ∃ z, e = .returned (.int .i64 z) ∧ Tl W w' P (updS ds i D') (c + L) K N F := by
  subst hL hD
  refine (h.d.run i hi a xs hx cap _ hc).mono ?_
  rintro e w' ⟨z, rfl, h1⟩
  exact ⟨z, rfl, h1, h.r, h.n, h.ln⟩
theorem twin1 (D D' : Dst) : (updS (fun _ => D) 0 D') 1 = D := by simp [updS]
theorem twin2 (D D' : Dst) : ∀ j, j < 2 → updS (updS (fun _ => D) 0 D') 1 D' j = (fun _ => D') j := fun j hj => by
  match j, hj with
  | 0, _ => rfl
  | 1, _ => rfl
theorem updN_eq9 (P : Nat → Nat) (i p : Nat) : updN P i p i = p := by simp [updN]
theorem updN_ne9 (P : Nat → Nat) {i j : Nat} (p : Nat) (h : j ≠ i) : updN P i p j = P j := by simp [updN, h]
set_option maxRecDepth 20000 in
set_option maxHeartbeats 2400000 in
theorem diskOwn_walk (n0 : Int) (a1 : Option Addr) (cap1 : Nat) (xs1 : List Stp) (a2 : Option Addr) (cap2 : Nat) (xs2 : List Stp) (n3 : Int) (W : World) (hn0 : -9223372036854775808 ≤ n0 ∧ n0 ≤ 9223372036854775807)
    (hr1 : RdSt W a1 xs1) (hl1 : xs1.length ≤ cap1) (ha1 : a1 = none → cap1 = 0) (hc1 : cap1 ≤ 1048575) (hr2 : RdSt W a2 xs2) (hl2 : xs2.length ≤ cap2) (ha2 : a2 = none → cap2 = 0) (hc2 : cap2 ≤ 1048575) (hn3 : -9223372036854775808 ≤ n3 ∧ n3 ≤ 9223372036854775807) :
    Calls Try.prog 3 #[.int .i64 n0, .slice a1 xs1.length cap1, .slice a2 xs2.length cap2, .int .i64 n3] W fun e w' => e = .returned (.bool true) ∧ Below W.heap.size W w' := by
  have HN3 : Hid _ := hn3
  have HR1 : Hid _ := hr1
  have HR2 : Hid _ := hr2
  have hin := spanS_in n0 1 65536 (by decide)
  have HSP := span_t n0 1 65536 W hn0.1 hn0.2 (by decide) (by decide)
  obtain ⟨N, hN⟩ : ∃ N : Nat, N = spanS n0 1 65536 := ⟨_, rfl⟩
  rw [← hN] at hin HSP
  have HIN : Hid _ := hin
  have HSP : Hid _ := HSP
  obtain ⟨L1, hL1⟩ : ∃ L : Nat, L = xs1.length := ⟨_, rfl⟩
  obtain ⟨L2, hL2⟩ : ∃ L : Nat, L = xs2.length := ⟨_, rfl⟩
  rw [← hL1, ← hL2]
  have HL1 : Hid _ := hL1
  have HL2 : Hid _ := hL2
  have HB : Hid (L1 ≤ 1048575 ∧ L2 ≤ 1048575) := ⟨by omega, by omega⟩
  have HNEW : Hid _ := Ap.new (Ap.start W (fun _ => 0) (fun _ => d0 N)) N HIN.out.1 HIN.out.2
  clear hn0 hr1 hr2 ha1 ha2 hin hN hL1 hL2 hl1 hl2 hc1 hc2 hn3
  go_enter Try.func3, Try.ntmps3
  go_wp2_with fail
  refine Calls.mono HSP.out ?_
  rintro e w1 ⟨rfl, hq⟩
  have hq := hq.symm
  subst hq
  go_wp2_with fail
  refine Calls.mono HNEW.out ?_
  rintro e w2 ⟨p, rfl, hap, -⟩
  have HNEW2 : Hid _ := Ap.new hap N HIN.out.1 HIN.out.2
  clear hap HNEW HSP
  go_wp2_with fail
  refine Calls.mono HNEW2.out ?_
  rintro e w3 ⟨q, rfl, hap, -⟩
  obtain ⟨P, hP⟩ : ∃ P : Nat → Nat, P = updN (updN (fun _ => 0) 0 p) 1 q := ⟨_, rfl⟩
  rw [← hP] at hap
  obtain rfl : P 1 = q := by rw [hP]; exact updN_eq9 _ _ _
  obtain rfl : P 0 = p := by rw [hP, updN_ne9 _ _ (by decide)]; exact updN_eq9 _ _ _
  have HAP : Hid (Ap W w3 2 [] P (fun _ => d0 N) 0) := hap.eq (fun j hj => by unfold updS; (repeat' split) <;> rfl)
  clear hP hap HNEW2
  -- the script, on both
  obtain ⟨D, hD⟩ : ∃ D : Dst, D = (runS (L1 : Int) 0 0 (d0 N) xs1).1 := ⟨_, rfl⟩
  have HFD : Hid (D.fine ∧ D.S.length = N) := by rw [hD]; exact ⟨runS_fine _ _ _ _ _ (d0_fine N), (runS_len _ _ _ _ _).trans (by simp [d0])⟩
  have HRUN : Hid (Calls Try.prog 6 #[.pointer (some ⟨P 0, 0, none⟩), .slice a1 L1 cap1, .int .i64 (L1 : Int)] w3 fun e w' => ∃ z, e = .returned (.int .i64 z) ∧ Ap W w' 2 [] P (updS (fun _ => d0 N) 0 D) 1048575) := by
    have h9 := Ap.runAll HAP.out 0 (by decide) a1 xs1 HR1.out cap1 (L1 : Int) (by have := HB.out; have := HL1.out; omega)
    rw [← hD, ← HL1.out] at h9
    refine h9.mono ?_
    rintro e w' ⟨rfl, h10⟩
    exact ⟨_, rfl, h10.more (by have := HB.out; omega)⟩
  go_wp2_with fail
  refine HRUN.out.mono ?_
  rintro e w4 ⟨z1, rfl, hap4⟩
  have HRUN2 : Hid (Calls Try.prog 6 #[.pointer (some ⟨P 1, 0, none⟩), .slice a1 L1 cap1, .int .i64 (L1 : Int)] w4 fun e w' => ∃ z, e = .returned (.int .i64 z) ∧ Ap W w' 2 [] P (fun _ => D) 2097150) := by
    have h9 := Ap.runAll hap4 1 (by decide) a1 xs1 HR1.out cap1 (L1 : Int) (by have := HB.out; have := HL1.out; omega)
    rw [twin1, ← hD, ← HL1.out] at h9
    refine h9.mono ?_
    rintro e w' ⟨rfl, h10⟩
    exact ⟨_, rfl, (h10.eq (twin2 _ _)).more (by have := HB.out; omega)⟩
  clear hD hap4 HRUN HAP
  go_wp2_with fail
  refine HRUN2.out.mono ?_
  rintro e w5 ⟨z2, rfl, hap5⟩
  have HAP5 : Hid _ := hap5
  clear hap5 HRUN2
  -- the place
  obtain ⟨N1, hN1⟩ : ∃ N1 : Nat, N1 = N - 1 := ⟨_, rfl⟩
  have hwN : IntKind.i64.wrap ((N : Int) - 1) = (N1 : Int) := by rw [IntKind.wrap_i64]; have := HIN.out; omega
  have hin2 := spanS_in n3 0 N1 (Nat.zero_le _)
  have HSP := span_t n3 0 N1 w5 HN3.out.1 HN3.out.2 (Nat.zero_le _) (by have := HIN.out; omega)
  obtain ⟨i, hi⟩ : ∃ i : Nat, i = spanS n3 0 N1 := ⟨_, rfl⟩
  rw [← hi] at hin2 HSP
  have HSP : Hid _ := HSP
  have HI : Hid (i < N) := by have := HIN.out; exact (by omega : i < N)
  clear hi hin2 hN1
  go_wp2_with fail
  refine Calls.mono HSP.out ?_
  rintro e w6 ⟨rfl, hq⟩
  have hq := hq.symm
  subst hq
  clear HSP hwN
  obtain ⟨X, hX⟩ : ∃ X : World, X = w5.alloc (.cells #[.slice none 0 0, .slice none 0 0, .slice none 0 0, .slice none 0 0] tT) := ⟨_, rfl⟩
  have HTX : Hid (Tl W X P (fun _ => D) 2097150 w5.heap.size (N4 0 0 0 0) F00) := by rw [hX]; exact tl_start HAP5.out
  obtain ⟨K, hK⟩ : ∃ K : Nat, K = w5.heap.size := ⟨_, rfl⟩
  rw [← hK] at HTX
  go_wp2_with fail
  rw [← hX]
  rw [← hK]
  clear hX hK HAP5
  go_loopw [16] (fun r wq => ∃ (k : Nat) (D : Dst) (F : Key → Row), k ≤ 2 ∧ r = .int .i64 (k : Int) ∧ D.fine ∧ D.S.length = N ∧ Tl W wq P (fun _ => D) (3000000 * (k + 1)) K (N4 (5 * k) (5 * k) (4 * k) (4 * k)) F) (fun r _ => 2 - (intOf r).toNat)
  case atStart => exact ⟨0, D, F00, Nat.zero_le _, rfl, HFD.out.1, HFD.out.2, HTX.out.eq (fun _ _ => rfl) (by decide)⟩
  case round =>
    clear HTX HFD
    obtain ⟨k, D, F, hk, rfl, hfn, hlen, hT⟩ := hrel
    have HT : Hid _ := hT
    have HF : Hid _ := hfn
    have HL : Hid _ := hlen
    clear hT hfn hlen
    by_cases hlt : k < 2
    · have HC1 : Hid _ := tread_t (5 * k) (4 * k) HT.out (by omega) HF.out.1 i (by rw [HL.out]; exact HI.out)
      go_wp2_with fail
      refine Calls.mono HC1.out ?_
      rintro e u1 ⟨rfl, F1, ht1⟩
      have HC2 : Hid _ := trest_t (5 * k + 1) (4 * k) ht1 (by omega) (by omega)
      clear ht1 HC1
      go_wp2_with fail
      refine Calls.mono HC2.out ?_
      rintro e u2 ⟨rfl, F2, ht2⟩
      obtain ⟨i2, hi2⟩ : ∃ i2 : Nat, i2 = (i + 1) % N := ⟨_, rfl⟩
      have hi2N : i2 < N := by rw [hi2]; exact Nat.mod_lt _ (by have := HI.out; omega)
      have hw1 : IntKind.i64.wrap ((i : Int) + 1) = ((i + 1 : Nat) : Int) := by rw [IntKind.wrap_i64]; have := HI.out; have := HIN.out; omega
      have hw2 : IntKind.i64.wrap (Int.tmod ((i + 1 : Nat) : Int) (N : Int)) = (i2 : Int) := by
        rw [Int.tmod_eq_emod_of_nonneg (by omega), IntKind.wrap_i64, hi2]
        have := HIN.out
        have h9 : (i + 1) % N < N := Nat.mod_lt _ (by have := HI.out; omega)
        omega
      have hN0 : ¬ (N : Int) = 0 := by have := HI.out; omega
      have HC3 : Hid _ := tread_t (5 * k + 1 + 1) (4 * k + 2) ht2 (by omega) HF.out.1 i2 (by rw [HL.out]; exact hi2N)
      clear ht2 HC2
      have HI2 : Hid _ := hi2
      clear hi2
      go_wp2_with fail
      rw [show ((i : Int) + 1) % (N : Int) = (i2 : Int) by rw [HI2.out]; simp]
      refine Calls.mono HC3.out ?_
      rintro e u3 ⟨rfl, F3, ht3⟩
      have HC4 : Hid _ := tread_t (5 * k + 1 + 1 + 1) (4 * k + 2) ht3 (by omega) HF.out.1 i (by rw [HL.out]; exact HI.out)
      clear ht3 HC3 hw1 hw2 hN0 HI2 hi2N
      go_wp2_with fail
      refine Calls.mono HC4.out ?_
      rintro e u4 ⟨rfl, F4, ht4⟩
      have HC5 : Hid _ := trest_t (5 * k + 1 + 1 + 1 + 1) (4 * k + 2) ht4 (by omega) (by omega)
      clear ht4 HC4
      go_wp2_with fail
      refine Calls.mono HC5.out ?_
      rintro e u5 ⟨rfl, F5, ht5⟩
      obtain ⟨D2, hD2⟩ : ∃ D2 : Dst, D2 = (runS (L2 : Int) 0 0 D xs2).1 := ⟨_, rfl⟩
      have HF2 : Hid (D2.fine ∧ D2.S.length = N) := by rw [hD2]; exact ⟨runS_fine _ _ _ _ _ HF.out, (runS_len _ _ _ _ _).trans HL.out⟩
      have HC6 : Hid _ := ht5.run 0 (by decide) a2 xs2 L2 HL2.out HR2.out cap2 (by have := HB.out; omega) (D' := D2) hD2.symm
      clear ht5 HC5
      go_wp2_with fail
      refine Calls.mono HC6.out ?_
      rintro e u6 ⟨z6, rfl, ht6⟩
      have HC7 : Hid _ := ht6.run 1 (by decide) a2 xs2 L2 HL2.out HR2.out cap2 (by have := HB.out; omega) (D' := D2) (by rw [twin1]; exact hD2.symm)
      clear ht6 HC6 hD2
      go_wp2_with fail
      refine Calls.mono HC7.out ?_
      rintro e u7 ⟨z7, rfl, ht7⟩
      have HT7 : Hid _ := ht7
      clear ht7 HC7
      go_wp2
      go_roundw
      case rel => exact ⟨k + 1, D2, F5, by omega, by go_num, HF2.out.1, HF2.out.2, by
        have h9 := HT7.out.eq (twin2 D D2) (c' := 3000000 * (k + 1 + 1)) (by have := HB.out; omega)
        exact h9⟩
      case measure => simp [intOf]; omega
    · obtain rfl : 2 = k := by omega
      have HST : Hid _ := stands_t _ 10 8 HT.out rfl rfl rfl rfl (by decide) (by decide)
      go_wp2_with fail
      refine Calls.mono HST.out ?_
      rintro e v1 ⟨rfl, F', hd, hr, hmk, hln⟩
      have HR : Hid _ := hr
      have HMK : Hid _ := hmk
      have HLN : Hid _ := hln
      have HD1 : Hid _ := hd
      have HDI : Hid _ := hd.ap.dirty 0 (by decide)
      clear HST HT hd hr hmk hln
      go_wp2_with fail
      refine Calls.mono HDI.out ?_
      rintro e v2 ⟨x1, y1, rfl, hx1, hy1, -, hb2⟩
      have HD2 : Hid _ := HD1.out.below hb2
      have HDI2 : Hid _ := HD2.out.ap.dirty 1 (by decide)
      have HX1 : Hid _ := hx1
      have HY1 : Hid _ := hy1
      clear HDI HD1 hb2 hx1 hy1
      go_wp2_with fail
      refine Calls.mono HDI2.out ?_
      rintro e v3 ⟨x2, y2, rfl, hx2, hy2, -, hb3⟩
      have HD3 : Hid _ := HD2.out.below hb3
      have hdl := dirty_len2 D.S.length D.C (by rw [HL.out]; exact HIN.out.2)
      have hx1 := OwnI.below HX1.out hb3
      have hy1 := OwnI.below HY1.out hb3
      generalize dirtyL D.S.length D.C = lx at *
      generalize dirtyC D.S.length D.C = ly at *
      obtain ⟨ax1, cx1, rfl, rx1⟩ := hx1.ints
      obtain ⟨ay1, cy1, rfl, ry1⟩ := hy1.ints
      obtain ⟨ax2, cx2, rfl, rx2⟩ := hx2.ints
      obtain ⟨ay2, cy2, rfl, ry2⟩ := hy2.ints
      obtain ⟨Lx, hLx⟩ : ∃ L, L = lx.length := ⟨_, rfl⟩
      obtain ⟨Ly, hLy⟩ : ∃ L, L = ly.length := ⟨_, rfl⟩
      rw [← hLx, ← hLy]
      have HLX : Hid (Lx = lx.length ∧ Lx ≤ 65536) := ⟨hLx, by rw [hLx]; exact hdl.1⟩
      have HLY : Hid (Ly = ly.length ∧ Ly ≤ 65536) := ⟨hLy, by rw [hLy]; exact hdl.2⟩
      have HI4 : Hid (Ints v3 ax1 lx ∧ Ints v3 ax2 lx ∧ Ints v3 ay1 ly ∧ Ints v3 ay2 ly) := ⟨rx1, rx2, ry1, ry2⟩
      clear hLx hLy hdl rx1 rx2 ry1 ry2 hx1 hy1 hx2 hy2 HX1 HY1 HDI2 HD2 hb3
      go_wp2_with fail
      go_loopw [21, 22, 23, 24, 25] (fun j _ _ _ _ wq => ∃ (k : Nat), k ≤ N ∧ j = .int .i64 (k : Int) ∧ Below v3.heap.size v3 wq) (fun j _ _ _ _ _ => N - (intOf j).toNat)
      case atStart => exact ⟨0, Nat.zero_le _, rfl, Below.refl _ _⟩
      case round =>
        obtain ⟨k, hk2, rfl, hbw⟩ := hrel
        have HDW : Hid _ := HD3.out.below hbw
        have HBW : Hid _ := hbw
        clear hbw
        have hki : (0 : Int) ≤ (k : Int) := by omega
        have hN65 : N ≤ 65536 := HIN.out.2
        by_cases hlt2 : k < N
        · have h9 := HDW.out.ap.read 0 (by decide) HF.out.1 k (by rw [HL.out]; exact hlt2)
          try dsimp only at h9
          have HR1 : Hid _ := h9
          have hrl := HDW.out.ap.readLen 0 (by decide) k (by rw [HL.out]; exact hlt2)
          try dsimp only at hrl
          clear h9
          go_wp2_with fail
          refine Calls.mono HR1.out ?_
          rintro e t1 ⟨vb, rfl, hob, hbb⟩
          have HDW1 : Hid _ := HDW.out.below hbb
          have h9 := HDW1.out.ap.read 1 (by decide) HF.out.1 k (by rw [HL.out]; exact hlt2)
          try dsimp only at h9
          have HR2' : Hid _ := h9
          clear h9
          have HOB : Hid _ := hob
          have HBB : Hid _ := hbb
          clear HR1 hob hbb
          go_wp2_with fail
          refine Calls.mono HR2'.out ?_
          rintro e t2 ⟨vc, rfl, hoc, hbc⟩
          have hob2 := Own.below HOB.out hbc
          generalize readB (rdS D k) = l at *
          generalize readE (rdS D k) = ee at *
          obtain ⟨ab, cb, rfl, -, -, -, rb, -⟩ := hob2.val
          obtain ⟨ac, cc, rfl, -, -, -, rc, -⟩ := hoc.val
          obtain ⟨L, hL⟩ : ∃ L, L = l.length := ⟨_, rfl⟩
          rw [← hL]
          have hbt := byt_n ab ac L L cb cc l l t2 hL hL rb rc (by omega) (by omega)
          rw [beq_self_eq_true] at hbt
          have HBT : Hid _ := hbt
          have HB2 : Hid (Below v3.heap.size v3 t2) := below_next (below_next HBW.out HBB.out) hbc
          clear hbt hob2 hoc rb rc hbc hL HOB HR2' HDW1 HDW
          go_wp2_with fail
          refine Calls.mono HBT.out ?_
          rintro e t3 ⟨rfl, hb3⟩
          have HB3 : Hid _ := below_next HB2.out hb3
          clear hb3 HBT
          go_wp2
          go_roundw
          case rel => exact ⟨k + 1, by omega, by go_num, HB3.out⟩
          case measure => simp [intOf]; omega
        · obtain rfl : N = k := by omega
          have HC1 : Hid _ := ints_n ax1 ax2 Lx Lx cx1 cx2 lx lx wr HLX.out.1 HLX.out.1 (Ints.below HI4.out.1 HBW.out) (Ints.below HI4.out.2.1 HBW.out) (by have := HLX.out; omega) (by have := HLX.out; omega)
          go_wp2_with fail
          refine Calls.mono HC1.out ?_
          rintro e t1 ⟨rfl, hb1⟩
          rw [beq_self_eq_true]
          have HB1 : Hid _ := below_next HBW.out hb1
          clear HC1 hb1
          have HC2 : Hid _ := ints_n ay1 ay2 Ly Ly cy1 cy2 ly ly t1 HLY.out.1 HLY.out.1 (Ints.below HI4.out.2.2.1 HB1.out) (Ints.below HI4.out.2.2.2 HB1.out) (by have := HLY.out; omega) (by have := HLY.out; omega)
          go_wp2_with fail
          refine Calls.mono HC2.out ?_
          rintro e t2 ⟨rfl, hb2⟩
          rw [beq_self_eq_true]
          have HB2 : Hid _ := below_next HB1.out hb2
          clear HC2 hb2
          have HD4 : Hid _ := HD3.out.below HB2.out
          have h9 := HD4.out.ap.image 0 (by decide)
          try dsimp only at h9
          have HC3 : Hid _ := h9
          clear h9
          have hft := HD4.out.ap.fit 0 (by decide)
          try dsimp only at hft
          have HIL : Hid _ := img_len (fit_ok hft.1)
          have HFT : Hid _ := hft
          clear hft
          go_wp2_with fail
          refine Calls.mono HC3.out ?_
          rintro e t3 ⟨rfl, hrow3, hb3⟩
          have HD5 : Hid _ := HD4.out.below hb3
          have h9 := HD5.out.ap.image 1 (by decide)
          try dsimp only at h9
          have HC4 : Hid _ := h9
          clear h9
          have HROW3 : Hid _ := hrow3
          clear HC3 hb3 hrow3 HD4
          go_wp2_with fail
          refine Calls.mono HC4.out ?_
          rintro e t4 ⟨rfl, hrow4, hb4⟩
          have HD6 : Hid _ := HD5.out.below hb4
          have hrow3 := (hb4.block _ (Array.getElem?_eq_some_iff.1 HROW3.out).1).trans HROW3.out
          have hlen : D.S.length ≤ 65536 := HFT.out.2.2
          have hil := HIL.out
          clear HIL HFT
          generalize img D.S = im at *
          obtain ⟨M, hM⟩ : ∃ M, M = im.length := ⟨_, rfl⟩
          rw [← hM]
          have hbt := byt_n (some ⟨t2.heap.size, 0, none⟩) (some ⟨t3.heap.size, 0, none⟩) M M M M im im t4 hM hM (rd_row hrow3) (rd_row hrow4) (by omega) (by omega)
          rw [beq_self_eq_true] at hbt
          have HBT : Hid _ := hbt
          clear hbt hM hrow3 hrow4 hb4 HROW3 HC4 hil HD5
          go_wp2_with fail
          refine Calls.mono HBT.out ?_
          rintro e t5 ⟨rfl, hb5⟩
          have HD7 : Hid _ := HD6.out.below hb5
          have HHO : Hid _ := hold_t _ HD7.out HR.out HMK.out HLN.out (by decide) (by decide)
          clear HBT hb5
          go_wp2_with fail
          refine Calls.mono HHO.out ?_
          rintro e t6 ⟨rfl, hq⟩
          have hq := hq.symm
          subst hq
          clear HHO
          go_wp2
          go_ret
          exact ⟨rfl, HD7.out.ap.bel⟩
end Go.Proofs.Ytekfolppahnpoaa
