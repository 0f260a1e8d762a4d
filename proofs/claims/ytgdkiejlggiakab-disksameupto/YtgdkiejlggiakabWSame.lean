import Derived.Test.YtgdkiejlggiakabDMore
namespace Go.Proofs.Ytgdkiejlggiakab
set_option linter.unusedVariables false
set_option linter.unusedSimpArgs false
open Go.RowKit Go.Maps
theorem lenD (N : Nat) (C : Nat → List (List UInt8)) (h : N ≤ 65536) : (dirtyL N C).length ≤ 65536 ∧ (dirtyC N C).length ≤ 65536 := by
  have h1 : (dirtyN N C).length ≤ N := by unfold dirtyN; exact Nat.le_trans (List.length_filter_le _ _) (by simp)
  unfold dirtyL dirtyC
  simp only [List.length_map]
  omega
/-- a row of bytes among those that stay -/
def rowB (J : Nat) (xs : List UInt8) : Nat × Obj := (J, .cells (bv xs).toArray 5 (0, 0))
theorem Ap.rd {W w : World} {N : Nat} {R : List (Nat × Obj)} {P : Nat → Nat} {ds : Nat → Dst} {c : Nat} (h : Ap W w N R P ds c) {J : Nat} {xs : List UInt8} (hm : rowB J xs ∈ R) : w.heap[J]? = some (.cells (bv xs).toArray 5 (0, 0)) := h.row _ hm
theorem far5 : farT 5 := ⟨by decide, by decide, by decide⟩
theorem byt_same (g1 g2 M : Nat) (xs : List UInt8) (w : World) (hM : M = xs.length) (h1 : w.heap[g1]? = some (.cells (bv xs).toArray 5 (0, 0))) (h2 : w.heap[g2]? = some (.cells (bv xs).toArray 5 (0, 0))) (hl : M ≤ 140737488355328) :
    Calls Try.prog 20 #[.slice (some ⟨g1, 0, none⟩) M M, .slice (some ⟨g2, 0, none⟩) M M] w fun e w' => e = .returned (.bool true) ∧ Below w.heap.size w w' := by
  have h9 := byt_n (some ⟨g1, 0, none⟩) (some ⟨g2, 0, none⟩) M M M M xs xs w hM hM (rd_row h1) (rd_row h2) (by omega) (by omega)
  rw [beq_self_eq_true] at h9
  exact h9
theorem ints_same (a1 a2 : Option Addr) (c1 c2 n : Nat) (xs : List Int) (w : World) (hn : n = xs.length) (h1 : Ints w a1 xs) (h2 : Ints w a2 xs) (hl : n ≤ 65536) :
    Calls Try.prog 24 #[.slice a1 n c1, .slice a2 n c2] w fun e w' => e = .returned (.bool true) ∧ Below w.heap.size w w' := by
  subst hn
  have h9 := ints_t a1 a2 c1 c2 xs xs w h1 h2 (by omega) (by omega)
  rw [beq_self_eq_true] at h9
  exact h9
set_option maxRecDepth 20000 in
set_option maxHeartbeats 1600000 in
theorem diskSame_walk (n0 : Int) (a1 : Option Addr) (cap1 : Nat) (xs1 : List Stp) (a2 : Option Addr) (cap2 : Nat) (xs2 : List Stp) (W : World) (hn0 : -9223372036854775808 ≤ n0 ∧ n0 ≤ 9223372036854775807)
    (hr1 : RdSt W a1 xs1) (hl1 : xs1.length ≤ cap1) (ha1 : a1 = none → cap1 = 0) (hc1 : cap1 ≤ 1048575) (hr2 : RdSt W a2 xs2) (hl2 : xs2.length ≤ cap2) (ha2 : a2 = none → cap2 = 0) (hc2 : cap2 ≤ 1048575) :
    Calls Try.prog 5 #[.int .i64 n0, .slice a1 xs1.length cap1, .slice a2 xs2.length cap2] W fun e w' => e = .returned (.bool true) ∧ Below W.heap.size W w' := by
  have HN0 : Hid _ := hn0
  have HR1 : Hid _ := hr1
  have HR2 : Hid _ := hr2
  have hin := spanS_in n0 1 65536 (by decide)
  have HSP := span_t n0 1 65536 W HN0.out.1 HN0.out.2 (by decide) (by decide)
  obtain ⟨N, hN⟩ : ∃ N : Nat, N = spanS n0 1 65536 := ⟨_, rfl⟩
  rw [← hN] at hin HSP
  have HIN : Hid _ := hin
  have HSP : Hid _ := HSP
  obtain ⟨L1, hL1⟩ : ∃ L : Nat, L = xs1.length := ⟨_, rfl⟩
  obtain ⟨L2, hL2⟩ : ∃ L : Nat, L = xs2.length := ⟨_, rfl⟩
  rw [← hL1, ← hL2]
  have HL1 : Hid _ := hL1
  have HL2 : Hid _ := hL2
  have HB1 : Hid (L1 ≤ cap1 ∧ cap1 ≤ 1048575) := ⟨by omega, hc1⟩
  have HB2 : Hid (L2 ≤ cap2 ∧ cap2 ≤ 1048575) := ⟨by omega, hc2⟩
  have HNEW : Hid _ := Ap.new (Ap.start W (fun _ => 0) (fun _ => d0 N)) N HIN.out.1 HIN.out.2
  clear hn0 hr1 hr2 ha1 ha2 hin hN hL1 hL2 hl1 hl2 hc1 hc2
  go_enter Try.func5, Try.ntmps5
  go_wp2_with fail
  refine Calls.mono HSP.out ?_
  rintro e w1 ⟨rfl, hq⟩
  have hq := hq.symm
  subst hq
  go_wp2_with fail
  refine Calls.mono HNEW.out ?_
  rintro e w2 ⟨p, rfl, hap, -⟩
  obtain ⟨P, hP⟩ : ∃ P : Nat → Nat, P = updN (fun _ => 0) 0 p := ⟨_, rfl⟩
  rw [← hP] at hap
  obtain rfl : P 0 = p := by rw [hP]; exact updN_eq _ _ _
  have HAP : Hid (Ap W w2 1 [] P (fun _ => d0 N) 0) := hap.eq (fun j hj => by unfold updS; split <;> rfl)
  clear hP hap HNEW HSP
  -- the script
  obtain ⟨d1, hd1⟩ : ∃ d : Dst, d = (runS (L1 : Int) 0 0 (d0 N) xs1).1 := ⟨_, rfl⟩
  have HF1 : Hid d1.fine := by rw [hd1]; exact runS_fine _ _ _ _ _ (d0_fine N)
  have HRUN : Hid (Calls Try.prog 22 #[.pointer (some ⟨P 0, 0, none⟩), .slice a1 L1 cap1, .int .i64 (L1 : Int)] w2 fun e w' => ∃ z, e = .returned (.int .i64 z) ∧ Ap W w' 1 [] P (fun _ => d1) 1048575) := by
    have h9 := Ap.runAll HAP.out 0 (by decide) a1 xs1 HR1.out cap1 (L1 : Int) (by have := HB1.out; have := HL1.out; omega)
    rw [← hd1, ← HL1.out] at h9
    refine h9.mono ?_
    rintro e w' ⟨rfl, h10⟩
    exact ⟨_, rfl, (h10.eq (ds' := fun _ => d1) (fun j hj => by cases Nat.lt_one_iff.1 hj; rfl)).more (by have := HB1.out; omega)⟩
  clear hd1
  go_wp2_with fail
  refine HRUN.out.mono ?_
  rintro e w3 ⟨z1, rfl, hap3⟩
  have HAP3 : Hid _ := hap3
  clear hap3 HRUN HAP
  -- its image
  have HFT : Hid _ := Ap.fit HAP3.out 0 (by decide)
  obtain ⟨S1, hS1⟩ : ∃ S : List Sec, S = d1.S := ⟨_, rfl⟩
  have hIM := Ap.image HAP3.out 0 (by decide)
  rw [← hS1] at hIM HFT
  have hIl := img_len (fit_ok HFT.out.1)
  obtain ⟨IM, hIMe⟩ : ∃ X, X = img S1 := ⟨_, rfl⟩
  obtain ⟨M, hM⟩ : ∃ M : Nat, M = IM.length := ⟨_, rfl⟩
  rw [← hIMe] at hIM hIl
  rw [← hM] at hIM hIl
  have HML : Hid (M = S1.length * 129 ∧ M ≤ 8454144) := ⟨by omega, by have := HFT.out.2.2; omega⟩
  have HIM : Hid _ := hIM
  have HM : Hid _ := hM
  have HIE : Hid _ := hIMe
  have HS1 : Hid _ := hS1
  clear hIM hIl hM hIMe hS1
  go_wp2_with fail
  refine Calls.mono HIM.out ?_
  rintro e w4 ⟨rfl, hrow4, hb4⟩
  obtain ⟨J, hJ⟩ : ∃ J : Nat, J = w3.heap.size := ⟨_, rfl⟩
  rw [← hJ] at hrow4 ⊢
  have HAP4 : Hid (Ap W w4 1 [rowB J IM] P (fun _ => d1) 1048575) := (Ap.below HAP3.out hb4).addRow hrow4 far5
  clear hJ hb4 hrow4 HIM HAP3
  -- loaded again
  have HLD : Hid _ := Ap.load HAP4.out (some ⟨J, 0, none⟩) M M S1 HFT.out.1 HFT.out.2.1 HFT.out.2.2 (by rw [HM.out, HIE.out]) (by rw [← HIE.out]; exact rd_row (Ap.rd HAP4.out (by simp))) (Nat.le_refl _)
  go_wp2_with fail
  refine Calls.mono HLD.out ?_
  rintro e w5 ⟨q, rfl, hap, -⟩
  obtain ⟨Q, hQ⟩ : ∃ Q : Nat → Nat, Q = updN P 1 q := ⟨_, rfl⟩
  rw [← hQ] at hap
  obtain rfl : Q 1 = q := by rw [hQ]; exact updN_eq _ _ _
  have hQ0 : P 0 = Q 0 := by rw [hQ]; exact (updN_ne _ _ (by decide)).symm
  rw [hQ0]
  obtain ⟨d2, hd2⟩ : ∃ d : Dst, d = ⟨S1, fun _ => [], false, -1⟩ := ⟨_, rfl⟩
  have HD2 : Hid _ := hd2
  have HAP5 : Hid (Ap W w5 2 [rowB J IM] Q (st2 d1 d2) 1048575) := hap.eq (fun j hj => by
    match j, hj with
    | 0, _ => rfl
    | 1, _ => rw [hd2]; rfl)
  clear hQ hap hQ0 hd2 HLD HAP4
  have HIMG : Hid (∀ u x y c i, i < 2 → img ((st2 x y) i).S = IM → Ap W u 2 [rowB J IM] Q (st2 x y) c → Calls Try.prog 13 #[.pointer (some ⟨Q i, 0, none⟩)] u fun e w' => ∃ g, e = .returned (.slice (some ⟨g, 0, none⟩) M M) ∧ w'.heap[g]? = some (.cells (bv IM).toArray 5 (0, 0)) ∧ Below u.heap.size u w' ∧ Ap W w' 2 [rowB J IM] Q (st2 x y) c) := by
    intro u x y c i hi he h9
    have h10 := h9.image i hi
    rw [he, ← HM.out] at h10
    refine h10.mono ?_
    rintro e w' ⟨rfl, h11, h12⟩
    exact ⟨_, rfl, h11, h12, h9.below h12⟩
  have HBYT : Hid (∀ u x y c g, u.heap[g]? = some (.cells (bv IM).toArray 5 (0, 0)) → Ap W u 2 [rowB J IM] Q (st2 x y) c → Calls Try.prog 20 #[.slice (some ⟨g, 0, none⟩) M M, .slice (some ⟨J, 0, none⟩) M M] u fun e w' => e = .returned (.bool true) ∧ Ap W w' 2 [rowB J IM] Q (st2 x y) c) := by
    intro u x y c g hg h9
    refine (byt_same g J M IM u HM.out hg (h9.rd (by simp)) (by have := HML.out; omega)).mono ?_
    rintro e w' ⟨rfl, h10⟩
    exact ⟨rfl, h9.below h10⟩
  go_wp2_with fail
  refine (HIMG.out w5 d1 d2 _ 1 (by decide) (by rw [HD2.out, HIE.out]; rfl) HAP5.out).mono ?_
  rintro e w6 ⟨g6, rfl, hr6, -, hap6⟩
  go_wp2_with fail
  refine (HBYT.out w6 d1 d2 _ g6 hr6 hap6).mono ?_
  rintro e w7 ⟨rfl, hap7⟩
  have HAP7 : Hid _ := hap7
  clear hr6 hap6 hap7 HAP5
  go_wp2_with fail
  refine (HIMG.out w7 d1 d2 _ 0 (by decide) (by rw [HIE.out, HS1.out]; rfl) HAP7.out).mono ?_
  rintro e w8 ⟨g8, rfl, hr8, -, hap8⟩
  go_wp2_with fail
  refine (HBYT.out w8 d1 d2 _ g8 hr8 hap8).mono ?_
  rintro e w9 ⟨rfl, hap9⟩
  have HAP9 : Hid _ := hap9
  clear hr8 hap8 hap9 HAP7
  -- the crash
  have HCR : Hid (Calls Try.prog 15 #[.pointer (some ⟨Q 0, 0, none⟩), .slice none 0 0] w9 fun e w' => e = .returned (.tuple #[]) ∧ Ap W w' 2 [rowB J IM] Q (st2 d2 d2) 1048575) := by
    refine (Ap.crash HAP9.out 0 (by decide) none 0 [] (fun j hj => by simp at hj) (fun h => by simp at h)).mono ?_
    rintro e w' ⟨rfl, h10⟩
    refine ⟨rfl, h10.eq fun j hj => ?_⟩
    rw [show (st2 d1 d2 0) = d1 from rfl, Dst.crash_none, ← HS1.out, ← HD2.out]
    exact st2_0 _ _ _ j hj
  go_wp2_with fail
  refine HCR.out.mono ?_
  rintro e w10 ⟨rfl, hap10⟩
  have HAP10 : Hid _ := hap10
  clear hap10 HAP9 HCR
  go_wp2_with fail
  refine (HIMG.out w10 d2 d2 _ 0 (by decide) (by rw [HD2.out, HIE.out]; rfl) HAP10.out).mono ?_
  rintro e w11 ⟨g11, rfl, hr11, -, hap11⟩
  go_wp2_with fail
  refine (HBYT.out w11 d2 d2 _ g11 hr11 hap11).mono ?_
  rintro e w12 ⟨rfl, hap12⟩
  have HAP12 : Hid _ := hap12
  clear hr11 hap11 hap12 HAP10
  -- the rest, on both
  obtain ⟨d3, hd3⟩ : ∃ d : Dst, d = (runS (L2 : Int) 0 0 d2 xs2).1 := ⟨_, rfl⟩
  obtain ⟨z, hz⟩ : ∃ z : Nat, z = (runS (L2 : Int) 0 0 d2 xs2).2 := ⟨_, rfl⟩
  have HF3 : Hid d3.fine := by rw [hd3]; exact runS_fine _ _ _ _ _ (by rw [HD2.out]; exact ⟨rfl, rfl⟩)
  have HLN : Hid (d3.S.length = S1.length) := by unfold Hid; rw [hd3, runS_len, HD2.out]
  have HRA : Hid (Calls Try.prog 22 #[.pointer (some ⟨Q 0, 0, none⟩), .slice a2 L2 cap2, .int .i64 (L2 : Int)] w12 fun e w' => e = .returned (.int .i64 (z : Int)) ∧ Ap W w' 2 [rowB J IM] Q (st2 d3 d2) 4194304) := by
    have h9 := Ap.runAll HAP12.out 0 (by decide) a2 xs2 HR2.out cap2 (L2 : Int) (by have := HB2.out; have := HL2.out; omega)
    rw [show (st2 d2 d2 0) = d2 from rfl, ← hd3, ← hz, ← HL2.out] at h9
    refine h9.mono ?_
    rintro e w' ⟨rfl, h10⟩
    exact ⟨rfl, (h10.eq (st2_0 _ _ _)).more (by have := HB2.out; omega)⟩
  have HRB : Hid (∀ u, Ap W u 2 [rowB J IM] Q (st2 d3 d2) 4194304 → Calls Try.prog 22 #[.pointer (some ⟨Q 1, 0, none⟩), .slice a2 L2 cap2, .int .i64 (L2 : Int)] u fun e w' => e = .returned (.int .i64 (z : Int)) ∧ Ap W w' 2 [rowB J IM] Q (st2 d3 d3) 8388608) := by
    intro u hu
    have h9 := hu.runAll 1 (by decide) a2 xs2 HR2.out cap2 (L2 : Int) (by have := HB2.out; have := HL2.out; omega)
    rw [show (st2 d3 d2 1) = d2 from rfl, ← hd3, ← hz, ← HL2.out] at h9
    refine h9.mono ?_
    rintro e w' ⟨rfl, h10⟩
    exact ⟨rfl, (h10.eq (st2_1 _ _ _)).more (by have := HB2.out; omega)⟩
  clear hd3 hz
  go_wp2_with fail
  refine HRA.out.mono ?_
  rintro e w13 ⟨rfl, hap13⟩
  go_wp2_with fail
  refine (HRB.out w13 hap13).mono ?_
  rintro e w14 ⟨rfl, hap14⟩
  have HAP14 : Hid _ := hap14
  clear hap13 hap14 HRA HRB HAP12
  -- what is dirty
  obtain ⟨XL, hXL⟩ : ∃ X, X = dirtyL d3.S.length d3.C := ⟨_, rfl⟩
  obtain ⟨XC, hXC⟩ : ∃ X, X = dirtyC d3.S.length d3.C := ⟨_, rfl⟩
  obtain ⟨nL, hnL⟩ : ∃ n, n = XL.length := ⟨_, rfl⟩
  obtain ⟨nC, hnC⟩ : ∃ n, n = XC.length := ⟨_, rfl⟩
  have HDL : Hid (nL ≤ 65536 ∧ nC ≤ 65536) := by rw [hnL, hnC, hXL, hXC]; exact lenD _ _ (by have := HLN.out; have := HFT.out.2.2; omega)
  have HDI : Hid (∀ u i, i < 2 → Ap W u 2 [rowB J IM] Q (st2 d3 d3) 8388608 → Calls Try.prog 17 #[.pointer (some ⟨Q i, 0, none⟩)] u fun e w' => ∃ a c b d, e = .returned (.tuple #[.slice a nL c, .slice b nC d]) ∧ Ints w' a XL ∧ Ints w' b XC ∧ Below u.heap.size u w' ∧ Ap W w' 2 [rowB J IM] Q (st2 d3 d3) 8388608) := by
    intro u i hi h9
    have h10 := h9.dirty i hi
    rw [show st2 d3 d3 i = d3 from by unfold st2; split <;> rfl] at h10
    refine h10.mono ?_
    rintro e w' ⟨v, x, rfl, h11, h12, -, h13⟩
    obtain ⟨a, c, rfl, h14⟩ := h11.ints
    obtain ⟨b, d, rfl, h15⟩ := h12.ints
    refine ⟨a, c, b, d, ?_, ?_, ?_, h13, h9.below h13⟩
    · rw [hnL, hnC, hXL, hXC]
    · rw [hXL]; exact h14
    · rw [hXC]; exact h15
  have HnL : Hid _ := hnL
  have HnC : Hid _ := hnC
  clear hXL hXC hnL hnC
  go_wp2_with fail
  refine (HDI.out w14 0 (by decide) HAP14.out).mono ?_
  rintro e w15 ⟨ax, cx, ay, cy, rfl, hx, hy, -, hap15⟩
  have HX : Hid _ := hx
  have HY : Hid _ := hy
  clear hx hy HAP14
  go_wp2_with fail
  refine (HDI.out w15 1 (by decide) hap15).mono ?_
  rintro e w16 ⟨au, cu, av, cv, rfl, hu, hv, hb16, hap16⟩
  have HU : Hid _ := hu
  have HV : Hid _ := hv
  have HX2 : Hid _ := Ints.below HX.out hb16
  have HY2 : Hid _ := Ints.below HY.out hb16
  have HAP16 : Hid _ := hap16
  clear hu hv hb16 hap15 hap16 HX HY HDI
  -- the sectors
  obtain ⟨K, hK⟩ : ∃ K : Nat, K = S1.length := ⟨_, rfl⟩
  have HK : Hid (K = S1.length ∧ K ≤ 65536 ∧ 1 ≤ K) := ⟨hK, by rw [hK]; exact HFT.out.2.2, by rw [hK]; exact HFT.out.2.1⟩
  have HSE : Hid (∀ u i, i < 2 → Ap W u 2 [rowB J IM] Q (st2 d3 d3) 8388608 → Calls Try.prog 18 #[.pointer (some ⟨Q i, 0, none⟩)] u fun e w' => e = .returned (.int .i64 (K : Int)) ∧ w' = u) := by
    intro u i hi h9
    have h10 := h9.sectors i hi
    rw [show st2 d3 d3 i = d3 from by unfold st2; split <;> rfl, HLN.out, ← hK] at h10
    exact h10
  clear hK
  go_wp2_with fail
  go_loopw [16, 17, 18, 19, 20] (fun i _ _ _ _ wq => ∃ k : Nat, k ≤ K ∧ i = .int .i64 (k : Int) ∧ Below w16.heap.size w16 wq ∧ Ap W wq 2 [rowB J IM] Q (st2 d3 d3) 8388608) (fun i _ _ _ _ _ => K - (intOf i).toNat)
  case atStart => exact ⟨0, Nat.zero_le _, rfl, Below.refl _ _, HAP16.out⟩
  case round =>
    obtain ⟨k, hk, rfl, hbk, hap⟩ := hrel
    have HAPk : Hid _ := hap
    have HBk : Hid _ := hbk
    clear hap hbk
    have hkw : IntKind.i64.wrap ((k : Int) + 1) = ((k + 1 : Nat) : Int) := by rw [IntKind.wrap_i64]; have := HK.out; omega
    go_wp2_with fail
    refine (HSE.out wr 0 (by decide) HAPk.out).mono ?_
    rintro e w17 ⟨rfl, hq⟩
    have hq := hq.symm
    subst hq
    by_cases hlt : k < K
    · have hlti : (k : Int) < (K : Int) := by omega
      obtain ⟨s, hs⟩ : ∃ s, s = rdS d3 k := ⟨_, rfl⟩
      obtain ⟨E, hE⟩ : ∃ E, E = readE s := ⟨_, rfl⟩
      obtain ⟨T, hT⟩ : ∃ T, T = readB s := ⟨_, rfl⟩
      have HRD : Hid (∀ u i, i < 2 → Ap W u 2 [rowB J IM] Q (st2 d3 d3) 8388608 → Calls Try.prog 16 #[.pointer (some ⟨Q i, 0, none⟩), .int .i64 (k : Int)] u fun e w' => ∃ a c, e = .returned (.tuple #[.slice a T.length c, .int .i64 E]) ∧ Rd w' a T ∧ Below u.heap.size u w' ∧ T.length ≤ 140737488355328) := by
        intro u i hi h9
        have e9 : st2 d3 d3 i = d3 := by unfold st2; split <;> rfl
        have h10 := h9.read i hi (by rw [e9]; exact HF3.out.1) k (by rw [e9, HLN.out, ← HK.out.1]; exact hlt)
        rw [e9, ← hs, ← hE, ← hT] at h10
        refine h10.mono ?_
        rintro e w' ⟨v, rfl, h11, h12⟩
        obtain ⟨a, c, rfl, _, h14, _, h13, _⟩ := h11.val
        have h15 := h9.readLen i hi k (by rw [e9, HLN.out, ← HK.out.1]; exact hlt)
        rw [e9, ← hs, ← hT] at h15
        exact ⟨a, c, rfl, h13, h12, by omega⟩
      have HT : Hid _ := hT
      clear hs hE hT
      go_wp2_with fail
      refine (HRD.out wr 0 (by decide) HAPk.out).mono ?_
      rintro e u1 ⟨b1, c1, rfl, hr1, hb1, hT1⟩
      have HA1 : Hid _ := Ap.below HAPk.out hb1
      have HT1 : Hid _ := hT1
      have HRd1 : Hid _ := hr1
      have HBu1 : Hid _ := below_next HBk.out hb1
      clear hr1 hb1 hT1 HAPk HBk
      go_wp2_with fail
      refine (HRD.out u1 1 (by decide) HA1.out).mono ?_
      rintro e u2 ⟨b2, c2, rfl, hr2, hb2, -⟩
      have HA2 : Hid _ := Ap.below HA1.out hb2
      have HBu2 : Hid _ := below_next HBu1.out hb2
      have HBY : Hid (Calls Try.prog 20 #[.slice b1 T.length c1, .slice b2 T.length c2] u2 fun e w' => e = .returned (.bool true) ∧ Below u2.heap.size u2 w') := by
        have h9 := byt_t b1 b2 c1 c2 T T u2 (Rd.below HRd1.out hb2) hr2 HT1.out HT1.out
        rw [beq_self_eq_true] at h9
        exact h9
      obtain ⟨nT, hnT⟩ : ∃ n, n = T.length := ⟨_, rfl⟩
      rw [← hnT] at HBY
      rw [← hnT]
      clear hr2 hb2 HRd1 HRD HA1 HBu1 hnT
      go_wp2_with fail
      refine HBY.out.mono ?_
      rintro e u3 ⟨rfl, hb3⟩
      go_wp2
      go_roundw
      case rel => exact ⟨k + 1, by omega, rfl, below_next HBu2.out hb3, Ap.below HA2.out hb3⟩
      case measure => simp [intOf]; omega
    · have hlti : ¬ (k : Int) < (K : Int) := by omega
      have HXX : Hid (∀ u, Below w16.heap.size w16 u → Calls Try.prog 24 #[.slice ax nL cx, .slice au nL cu] u fun e w' => e = .returned (.bool true) ∧ Below u.heap.size u w') := fun u hu => ints_same ax au cx cu nL XL u HnL.out (Ints.below HX2.out hu) (Ints.below HU.out hu) HDL.out.1
      have HYY : Hid (∀ u, Below w16.heap.size w16 u → Calls Try.prog 24 #[.slice ay nC cy, .slice av nC cv] u fun e w' => e = .returned (.bool true) ∧ Below u.heap.size u w') := fun u hu => ints_same ay av cy cv nC XC u HnC.out (Ints.below HY2.out hu) (Ints.below HV.out hu) HDL.out.2
      obtain ⟨I3, hI3⟩ : ∃ X, X = img d3.S := ⟨_, rfl⟩
      obtain ⟨M3, hM3⟩ : ∃ X, X = I3.length := ⟨_, rfl⟩
      have hML3 : M3 ≤ 140737488355328 := by
        have hfk : ∀ s ∈ d3.S, s.fit := (Ap.fit HAPk.out 0 (by decide)).1
        rw [hM3, hI3, img_len (fit_ok hfk), HLN.out]
        have := HFT.out.2.2
        omega
      have HI3 : Hid (∀ u i, i < 2 → Ap W u 2 [rowB J IM] Q (st2 d3 d3) 8388608 → Calls Try.prog 13 #[.pointer (some ⟨Q i, 0, none⟩)] u fun e w' => ∃ g, e = .returned (.slice (some ⟨g, 0, none⟩) M3 M3) ∧ w'.heap[g]? = some (.cells (bv I3).toArray 5 (0, 0)) ∧ Below u.heap.size u w' ∧ Ap W w' 2 [rowB J IM] Q (st2 d3 d3) 8388608) := by
        intro u i hi h9
        have h10 := h9.image i hi
        rw [show st2 d3 d3 i = d3 from by unfold st2; split <;> rfl, ← hI3, ← hM3] at h10
        refine h10.mono ?_
        rintro e w' ⟨rfl, h11, h12⟩
        exact ⟨_, rfl, h11, h12, h9.below h12⟩
      have HM3 : Hid _ := hM3
      have HML3 : Hid _ := hML3
      have hMK : IntKind.i64.wrap (129 * (K : Int)) = (M : Int) := by rw [IntKind.wrap_i64]; have := HK.out; have := HML.out; omega
      clear hI3 hM3 hML3 hkw
      go_wp2_with fail
      refine (HXX.out wr HBk.out).mono ?_
      rintro e u1 ⟨rfl, hb1⟩
      have HA1 : Hid _ := Ap.below HAPk.out hb1
      have HBu1 : Hid _ := below_next HBk.out hb1
      clear hb1 HAPk HBk HXX
      go_wp2_with fail
      refine (HYY.out u1 HBu1.out).mono ?_
      rintro e u2 ⟨rfl, hb2⟩
      have HA2 : Hid _ := Ap.below HA1.out hb2
      clear hb2 HA1 HBu1 HYY
      go_wp2_with fail
      refine (HI3.out u2 0 (by decide) HA2.out).mono ?_
      rintro e u3 ⟨g3, rfl, hr3, -, hap3⟩
      go_wp2_with fail
      refine (HI3.out u3 1 (by decide) hap3).mono ?_
      rintro e u4 ⟨g4, rfl, hr4, hb4, hap4⟩
      have HA4 : Hid _ := hap4
      have HBY : Hid _ := byt_same g3 g4 M3 I3 u4 HM3.out ((hb4.block g3 (Array.getElem?_eq_some_iff.1 hr3).1).trans hr3) hr4 HML3.out
      clear hr3 hr4 hb4 hap3 hap4 HA2 HI3
      go_wp2_with fail
      refine Calls.mono HBY.out ?_
      rintro e u5 ⟨rfl, hb5⟩
      have HA5 : Hid _ := Ap.below HA4.out hb5
      clear hb5 HA4 HBY
      go_wp2_with fail
      refine (HSE.out u5 0 (by decide) HA5.out).mono ?_
      rintro e u6 ⟨rfl, hq⟩
      have hq := hq.symm
      subst hq
      go_wp2_with fail
      refine (HSE.out u5 1 (by decide) HA5.out).mono ?_
      rintro e u7 ⟨rfl, hq⟩
      have hq := hq.symm
      subst hq
      go_wp2_with fail
      refine (HSE.out u5 0 (by decide) HA5.out).mono ?_
      rintro e u8 ⟨rfl, hq⟩
      have hq := hq.symm
      subst hq
      go_wp2
      go_ret
      exact ⟨rfl, Ap.bel HA5.out⟩
end Go.Proofs.Ytgdkiejlggiakab
