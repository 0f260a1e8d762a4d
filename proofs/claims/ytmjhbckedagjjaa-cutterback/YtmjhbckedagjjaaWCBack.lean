import Derived.Test.YtmjhbckedagjjaaCBk
import Derived.Test.YtmjhbckedagjjaaLCf
namespace Go.Proofs.Ytmjhbckedagjjaa
set_option linter.unusedVariables false
set_option linter.unusedSimpArgs false
open Go.RowKit
/-- cuts says no -/
def CutsNo (e : Ending) (w w' : World) : Prop := ∃ z, e = .returned (.tuple #[.int .i64 z, .bool false]) ∧ w' = w
theorem cuts_no {w : World} (ao : Option Addr) (n cap : Nat) (m : Int) (hm : -9223372036854775808 ≤ m ∧ m ≤ 9223372036854775807) (hn : n ≤ 140737488355328) (h : cutE n m ≠ 0) :
    Calls Try.prog 19 #[.slice ao n cap, .int .i64 m] w fun e w' => CutsNo e w w' := by
  by_cases h1 : n < 1
  · have h1I : (n : Int) < 1 := by omega
    go_enter Try.func19, Try.ntmps19
    go_wp2
    go_ret2
    exact ⟨_, rfl, rfl⟩
  by_cases h2 : 1024 < n
  · have h1I : ¬ (n : Int) < 1 := by omega
    have h2I : 1024 < (n : Int) := by omega
    go_enter Try.func19, Try.ntmps19
    go_wp2
    go_ret2
    exact ⟨_, rfl, rfl⟩
  by_cases h3 : m < 1
  · have h1I : ¬ (n : Int) < 1 := by omega
    have h2I : ¬ 1024 < (n : Int) := by omega
    go_enter Try.func19, Try.ntmps19
    go_wp2
    go_ret2
    exact ⟨_, rfl, rfl⟩
  by_cases h4 : 1024 < m
  · have h1I : ¬ (n : Int) < 1 := by omega
    have h2I : ¬ 1024 < (n : Int) := by omega
    go_enter Try.func19, Try.ntmps19
    go_wp2
    go_ret2
    exact ⟨_, rfl, rfl⟩
  have h5 : m * 64 < (n : Int) := by
    rcases Int.lt_or_le (m * 64) (n : Int) with h5 | h5
    · exact h5
    · exfalso
      apply h
      unfold cutE
      rw [if_neg (by omega), if_neg (by omega), if_neg (by omega)]
  have h1I : ¬ (n : Int) < 1 := by omega
  have h2I : ¬ 1024 < (n : Int) := by omega
  obtain ⟨M, rfl⟩ : ∃ M : Nat, m = (M : Int) := ⟨m.toNat, by omega⟩
  obtain ⟨A, hA⟩ : ∃ A : Nat, A = n + M := ⟨_, rfl⟩
  obtain ⟨B, hB⟩ : ∃ B : Nat, B = A - 1 := ⟨_, rfl⟩
  have w1 : IntKind.i64.wrap ((n : Int) + (M : Int)) = (A : Int) := by rw [IntKind.wrap_i64]; omega
  have w2 : IntKind.i64.wrap ((A : Int) - 1) = (B : Int) := by rw [IntKind.wrap_i64]; omega
  obtain ⟨K, hK⟩ : ∃ K : Nat, K = B / M := ⟨_, rfl⟩
  have hM1 : 1 ≤ M := by omega
  have w3 : Int.tdiv (B : Int) (M : Int) = (K : Int) := by rw [Int.tdiv_eq_ediv_of_nonneg (by omega), hK]; rfl
  have hK64 : 64 < K := by
    rw [hK]
    have : 65 * M ≤ B := by omega
    have := (Nat.le_div_iff_mul_le (by omega : 0 < M)).2 this
    omega
  have hKB : K ≤ B := by rw [hK]; exact Nat.div_le_self _ _
  have w4 : IntKind.i64.wrap (K : Int) = (K : Int) := by rw [IntKind.wrap_i64]; omega
  have hKI : ¬ (K : Int) ≤ 64 := by omega
  have hMz : ((M : Int) == 0) = false := by simp; omega
  have hMz2 : ¬ (M : Int) = 0 := by omega
  have HA : Hid _ := hA
  have HB : Hid _ := hB
  have HK : Hid _ := hK
  clear hA hB hK h
  go_enter Try.func19, Try.ntmps19
  go_wp2
  go_ret2
  exact ⟨_, rfl, rfl⟩
theorem cuts_ok {w : World} (ao : Option Addr) (n cap M K : Nat) (h : cutE n (M : Int) = 0) (hK : K = cutN n M) :
    Calls Try.prog 19 #[.slice ao n cap, .int .i64 (M : Int)] w fun e w' => e = .returned (.tuple #[.int .i64 (K : Int), .bool true]) ∧ w' = w := by
  obtain ⟨g1, g2, g3, g4, g5⟩ := cutE_zero h
  have h1I : ¬ (n : Int) < 1 := by omega
  have h2I : ¬ 1024 < (n : Int) := by omega
  have h3 : ¬ (M : Int) < 1 := by omega
  have h4 : ¬ 1024 < (M : Int) := by omega
  have hK64 : K ≤ 64 := by rw [hK]; exact cutN_le (by omega) (by omega)
  obtain ⟨A, hA⟩ : ∃ A : Nat, A = n + M := ⟨_, rfl⟩
  obtain ⟨B, hB⟩ : ∃ B : Nat, B = A - 1 := ⟨_, rfl⟩
  have w1 : IntKind.i64.wrap ((n : Int) + (M : Int)) = (A : Int) := by rw [IntKind.wrap_i64]; omega
  have w2 : IntKind.i64.wrap ((A : Int) - 1) = (B : Int) := by rw [IntKind.wrap_i64]; omega
  have w3 : Int.tdiv (B : Int) (M : Int) = (K : Int) := by rw [Int.tdiv_eq_ediv_of_nonneg (by omega), hK, hB, hA]; rfl
  have w4 : IntKind.i64.wrap (K : Int) = (K : Int) := by rw [IntKind.wrap_i64]; omega
  have hKI : (K : Int) ≤ 64 := by omega
  have hMz : ((M : Int) == 0) = false := by simp; omega
  have hMz2 : ¬ (M : Int) = 0 := by omega
  have HA : Hid _ := hA
  have HB : Hid _ := hB
  have HK : Hid _ := hK
  clear hA hB hK h
  go_enter Try.func19, Try.ntmps19
  go_wp2
  go_ret2
  exact ⟨rfl, rfl⟩
set_option maxRecDepth 20000 in
set_option maxHeartbeats 6400000 in
theorem cutterBack_walk (ba : Option Addr) (bc : Nat) (bs : List UInt8) (m : Int) (oa : Option Addr) (on oc : Nat) (os : List Int) (w : World) (hb : Rd w ba bs) (hlb : bs.length ≤ bc) (hcb : bc ≤ 140737488351232) (hnb : ba = none → bc = 0) (hm : -9223372036854775808 ≤ m ∧ m ≤ 9223372036854775807) (hon : on = os.length) (hro : RdN w oa os) (hol : on ≤ 17592186044416) :
    Calls Try.prog 6 #[.slice ba bs.length bc, .int .i64 m, .slice oa on oc] w fun e w' => e = .returned (.bool true) ∧ Below w.heap.size w w' := by
  clear hnb
  have HNUM : Hid (∀ (e : Int) (u : World), Calls _ _ _ u _) := fun e u => num_t e u
  obtain ⟨L, hL⟩ : ∃ L, L = bs.length := ⟨_, rfl⟩
  rw [← hL] at hlb ⊢
  have HL : Hid _ := hL
  have HRB : Hid _ := hb
  have HON : Hid _ := hon
  have HRO : Hid (RdN w oa os) := hro
  have HC1 : Hid _ := cut_p (w := w) ba L bc bs m hm hL hb hlb (by omega)
  by_cases hce : cutE L m = 0
  case neg =>
    have HU : Hid _ := cuts_no (w := w) ba L bc m hm (by omega) hce
    obtain ⟨Er, hEr⟩ : ∃ Er, Er = cutE L m := ⟨_, rfl⟩
    have hee : (Er != 0) = true := by rw [hEr]; simpa using hce
    have e1 : cutS bs m = [] := by unfold cutS; rw [← hL, if_neg hce]
    have HE1 : Hid _ := e1
    have HER : Hid _ := hEr
    clear hL hb hon hro hce hEr e1
    go_enter Try.func6, Try.ntmps6
    go_wp2_with fail
    refine Calls.mono HU.out ?_
    rintro e w' ⟨z, rfl, hq⟩
    have hq := hq.symm
    subst hq
    go_wp2_with fail
    refine Calls.mono HC1.out ?_
    rintro e w1 ⟨v1, E1, he1, hls, hb1⟩
    rw [← HL.out, ← HER.out] at he1
    rw [HE1.out] at hls
    subst he1
    obtain ⟨a1, c1, hv1, -, -, -⟩ := hls.rdL
    rw [List.length_nil] at hv1
    subst hv1
    have HB1 : Hid _ := hb1
    clear hls hb1
    go_wp2_with (go_at_call 12; refine Calls.mono (HNUM.out _ _) ?_; rintro e w' ⟨rfl, hq⟩; have hq := hq.symm; subst hq)
    go_ret
    exact ⟨rfl, HB1.out⟩
  case pos =>
    obtain ⟨g1, g2, g3, g4, g5⟩ := cutE_zero hce
    obtain ⟨M, rfl⟩ : ∃ M : Nat, m = (M : Int) := ⟨m.toNat, by omega⟩
    obtain ⟨T, hTd⟩ : ∃ T, T = segN bs M (cutN L M) := ⟨_, rfl⟩
    obtain ⟨K, hKd⟩ : ∃ K, K = cutN L M := ⟨_, rfl⟩
    have hST : SegT T bs M := by rw [hTd, hL]; exact segT_of (by omega) (by omega) (by omega) (by omega)
    have hTK : T.length = K := by rw [hTd, segN_len, hKd]
    have hcs : cutS bs (M : Int) = T := by unfold cutS; rw [← hL, if_pos hce, hTd]; rfl
    have HU : Hid _ := cuts_ok (w := w) ba L bc M K hce hKd
    have hK1 : 1 ≤ K := by rw [← hTK]; exact hST.len
    have hK64 : K ≤ 64 := by rw [← hTK]; exact hST.l64
    have HST : Hid _ := hST
    have HTK : Hid _ := hTK
    have HCS : Hid _ := hcs
    have HCE : Hid _ := hce
    have e1 : newSt (K : Int) = some (List.replicate K []) := by unfold newSt; rw [if_pos (by omega)]; rfl
    have e2 : newEr (K : Int) = 0 := if_pos (by omega)
    have HE1 : Hid _ := e1
    have HE2 : Hid _ := e2
    have hmk := fun u => make_bools K (by omega) u
    have hKK : ((K : Int) != (K : Int)) = false := by simp
    clear hST hTK hcs hce e1 e2 hTd hKd hL hb hon hro
    go_enter Try.func6, Try.ntmps6
    go_wp2_with fail
    refine Calls.mono HU.out ?_
    rintro e w' ⟨rfl, hq⟩
    have hq := hq.symm
    subst hq
    go_wp2_with fail
    refine Calls.mono HC1.out ?_
    rintro e w1 ⟨v1, E1, he1, hls, hb1⟩
    rw [← HL.out, HCE.out] at he1
    rw [HCS.out] at hls
    subst he1
    obtain ⟨a1, c1, hv1, hrl1, -, -⟩ := hls.rdL
    rw [HTK.out] at hv1
    subst hv1
    have HB1 : Hid _ := hb1
    have HRL : Hid _ := hrl1
    clear hls hb1 hrl1 HC1 HU
    go_wp2_with fail
    refine Calls.mono (One.new w1 (Below.refl _ _) (K : Int)) ?_
    rintro e w2 ⟨pv, rfl, hpn, ho2⟩
    rw [HE2.out]
    rw [HE1.out] at ho2
    rcases pv with _ | pa
    · exact absurd (HE1.out.symm.trans (hpn.1 rfl)) (by simp)
    have HO2 : Hid _ := ho2
    clear hpn ho2
    go_wp2_with (go_at_call 12; refine Calls.mono (HNUM.out _ _) ?_; rintro e w' ⟨rfl, hq⟩; have hq := hq.symm; subst hq)
    have hB2 : Bak w1 w2.heap.size (w2.alloc (.cells (List.replicate K (Value.bool false)).toArray 4)) (some pa) (List.replicate K []) (hvL (List.replicate K [])) := by
      obtain ⟨F, h1, h2⟩ := HO2.out.ex
      refine ⟨⟨F, h1.below (al (Below.refl _ _) _), fun b hf => ⟨h2 b hf, fun e => by have := h1.lt b hf; omega⟩⟩, ?_, HO2.out.bel.size, al HO2.out.bel _⟩
      rw [hvL_rep, List.map_replicate]
      exact heap_alloc_new _ _
    have HB2 : Hid _ := hB2
    have hPE : PtS T (List.replicate K []) := by rw [← HTK.out]; exact PtS.empty T
    have HPE : Hid _ := hPE
    clear hB2 hPE hmk
    obtain ⟨N, hN⟩ : ∃ N : Nat, N = on + K := ⟨_, rfl⟩
    have hsum : IntKind.i64.wrap ((on : Int) + (K : Int)) = (N : Int) := by rw [IntKind.wrap_i64]; omega
    have HN : Hid _ := hN
    clear hN
    go_loopw [14, 15] (fun l j wr => ∃ (k : Nat) (S : List Seg), k ≤ N ∧ j = .int .i64 (k : Int) ∧ l = .int .i64 (leftN S : Int) ∧ Hid (PtS T S) ∧ Hid (Came S (k - on)) ∧ Bak w1 w2.heap.size wr (some pa) S (hvL S)) (fun _ j _ => N - (intOf j).toNat)
    case atStart => exact ⟨0, _, Nat.zero_le _, rfl, by rw [leftN_rep], HPE, by unfold Hid; rw [Nat.zero_sub]; exact Came.zero _, HB2.out⟩
    case round =>
      obtain ⟨k, S, hk, rfl, rfl, HPT, HCM, hp⟩ := hrel
      have HP : Hid _ := hp
      clear hp
      by_cases hlt : k < N
      · have hltI : (k : Int) < (N : Int) := by omega
        have hk0 : (0 : Int) ≤ (k : Int) := by omega
        have hkw : IntKind.i64.wrap ((k : Int) + 1) = ((k + 1 : Nat) : Int) := by rw [IntKind.wrap_i64]; have := HN.out; omega
        have hWB : wholeB (some S) = decide (leftN S = 0) := PtS.wholeB (T := T)
        have hWX := HPT.out.wholeX HST.out
        have HLS : Hid (leftN S ≤ S.length) := leftN_le S
        have hleK : leftN S ≤ K := by rw [← HTK.out, ← HPT.out.len]; exact leftN_le S
        obtain ⟨l, hl⟩ : ∃ l, l = leftN S := ⟨_, rfl⟩
        rw [← hl] at hWB hWX hleK ⊢
        have HLD : Hid _ := hl
        have HWB : Hid _ := hWB
        have HWX : Hid _ := hWX
        have HOW : Hid (Calls _ _ _ wr _) := HP.out.one.whole
        clear hWB hWX hl
        by_cases hko : k < on
        · have hkoI : (k : Int) < (on : Int) := by omega
          obtain ⟨db, hdb⟩ : ∃ db : Int, db = (k : Int) - (on : Int) := ⟨_, rfl⟩
          have hsub : IntKind.i64.wrap ((k : Int) - (on : Int)) = db := by rw [IntKind.wrap_i64]; omega
          obtain ⟨ob, oo, eo, hoc⟩ := (RdN.below HRO.out (below_next HB1.out HP.out.bel)) (by rw [← HON.out]; omega)
          subst eo
          obtain ⟨hcz, hzb⟩ := hoc k (by rw [← HON.out]; exact hko)
          obtain ⟨z, hz⟩ : ∃ z, z = os[k]'(by rw [← HON.out]; exact hko) := ⟨_, rfl⟩
          rw [← hz] at hcz hzb
          obtain ⟨r1, a, hm1, hm2, hm3, hm4, haK⟩ := mod_in z K (by omega)
          have hra : IntKind.i64.wrap (r1 + (K : Int)) = r1 + (K : Int) := by rw [IntKind.wrap_i64]; omega
          have hr1w : IntKind.i64.wrap r1 = r1 := by rw [IntKind.wrap_i64]; omega
          have haw : IntKind.i64.wrap (a : Int) = (a : Int) := by rw [IntKind.wrap_i64]; omega
          have hKz : ((K : Int) == 0) = false := by simp; omega
          have hKz2 : ¬ (K : Int) = 0 := by omega
          have HC0 : Hid (k - on = 0 ∧ k + 1 - on = 0) := ⟨by omega, by omega⟩
          clear hdb hoc hz
          obtain ⟨b1, o1, d, t, ea, hd, ht, hcl, hby⟩ := HRL.out.at_ (k := a) (by rw [HTK.out]; exact haK)
          subst ea
          obtain ⟨da, dn, dc⟩ := d
          have htp := HST.out.pos ht
          have hdn : dn = t.length := hby.n
          have hdl : dn ≤ 1024 := by omega
          have HTN : Hid (t ≠ []) := by unfold Hid; intro e; rw [e] at htp; simp at htp
          have HCC : Hid (∀ u, Below w1.heap.size w1 u → ByV u ⟨da, dn, dc⟩ t ∧ u.cell? ⟨b1, o1 + a, none⟩ = some (.slice da dn dc)) := fun u hu => ⟨hby.below hu, (hu.cell (World.block_lt_of_cell? w1 _ hcl)).trans hcl⟩
          have HSTEP : Hid _ := HPT.out.step HST.out ht
          have ha0 : (0 : Int) ≤ (a : Int) := by omega
          have haKI : (a : Int) < (K : Int) := by omega
          clear hd ht hby hcl htp hdn
          rcases HSTEP.out with ⟨h1, h2, h3, h4, h5, h6, h7⟩ | ⟨h1, h2, h3, h4, h5⟩
          · have hl0 : l ≠ 0 := by have := HLD.out; omega
            have HPU : Hid (∀ u, Bak w1 w2.heap.size u (some pa) S (hvL S) → Calls _ _ _ u _) := fun u hu => hu.put (a : Int) da dn dc t (HCC.out _ hu.bel).1.n (HCC.out _ hu.bel).1.rd (HCC.out _ hu.bel).1.nil (by omega) h2 h3
            have HH1 : Hid _ := h1
            have HH4 : Hid _ := h4
            have HH5 : Hid _ := h5
            have HH7 : Hid _ := h7
            obtain ⟨l2, hl2⟩ : ∃ l2, l2 = leftN (S.set a t) := ⟨_, rfl⟩
            rw [← hl2, ← HLD.out] at h6
            have hlw : IntKind.i64.wrap ((l : Int) - 1) = (l2 : Int) := by rw [IntKind.wrap_i64]; omega
            have HH6 : Hid _ := hl2
            clear hl2
            have hlz : ((l : Int) == 0) = false := by simp; omega
            have e1 : wholeB (some S) = false := by rw [HWB.out]; exact decide_eq_false hl0
            have e2 : wholeX (some S) = [] := by rw [HWX.out, if_neg hl0]
            have HX1 : Hid _ := e1
            have HX2 : Hid _ := e2
            clear e1 e2 h1 h2 h3 h4 h5 h6 h7
            go_wp2_with (first | (go_at_call 18; refine Calls.mono HOW.out ?_; rintro e wa ⟨ua, hea, howna, hba⟩; rw [HX1.out] at hea; rw [HX2.out] at howna; subst hea; obtain ⟨aa, ca, hva, -⟩ := howna.val; rw [List.length_nil] at hva; subst hva; have HKA : Hid _ := HP.out.below hba; obtain ⟨hby, hcl⟩ := HCC.out _ HKA.out.bel; have HPA : Hid _ := HPU.out _ HKA.out; clear hba howna hby) | (go_at_call 17; refine Calls.mono HPA.out ?_; rintro e wb ⟨rfl, hkb⟩; have HKB : Hid _ := hkb; have hhc := hkb.cell HH4.out; have hhf := hkb.fz a; clear hkb) | (go_at_call 12; refine Calls.mono (HNUM.out _ _) ?_; rintro e w' ⟨rfl, hq⟩; have hq := hq.symm; subst hq))
            go_roundw
            case rel => exact ⟨k + 1, S.set a t, by omega, by go_num, by rw [← HH6.out], HH7, by unfold Hid; exact (by rw [HC0.out.2]; exact Came.zero _), by rw [HH5.out]; exact HKB.out.mark⟩
            case measure => simp [intOf]; omega
          · have HPU : Hid (∀ u, Bak w1 w2.heap.size u (some pa) S (hvL S) → Calls _ _ _ u _) := fun u hu => hu.put (a : Int) da dn dc t (HCC.out _ hu.bel).1.n (HCC.out _ hu.bel).1.rd (HCC.out _ hu.bel).1.nil (by omega) h2 h3
            have HH1 : Hid _ := h1
            have HH4 : Hid _ := h4
            have HH5 : Hid _ := h5
            by_cases hl0 : l = 0
            · subst hl0
              have e1 : wholeB (some S) = true := by rw [HWB.out]; rfl
              have e2 : wholeX (some S) = bs := by rw [HWX.out, if_pos rfl]
              have HX1 : Hid _ := e1
              have HX2 : Hid _ := e2
              clear e1 e2 h1 h2 h3 h4 h5
              go_wp2_with (first | (go_at_call 18; refine Calls.mono HOW.out ?_; rintro e wa ⟨ua, hea, howna, hba⟩; rw [HX1.out] at hea; rw [HX2.out] at howna; subst hea; obtain ⟨aa, ca, hva, -, -, -, hrda, -⟩ := howna.val; rw [← HL.out] at hva; subst hva; have cv1 := conv_rd' hrda L ca HL.out; have cv2 := conv_rd' (Rd.below HRB.out (below_next (below_next HB1.out HP.out.bel) hba)) L bc HL.out; have HKA : Hid _ := HP.out.below hba; obtain ⟨hby, hcl⟩ := HCC.out _ HKA.out.bel; have HPA : Hid _ := HPU.out _ HKA.out; clear hba howna hrda hby) | (go_at_call 17; refine Calls.mono HPA.out ?_; rintro e wb ⟨rfl, hkb⟩; have HKB : Hid _ := hkb; have hhc := hkb.cell HH4.out; have hhf := hkb.fz a; clear hkb) | (go_at_call 12; refine Calls.mono (HNUM.out _ _) ?_; rintro e w' ⟨rfl, hq⟩; have hq := hq.symm; subst hq))
              go_roundw
              case rel => exact ⟨k + 1, S, by omega, by go_num, by (rw [← HLD.out]; try rfl), HPT, by unfold Hid; exact (by rw [HC0.out.2]; exact Came.zero _), by rw [HH5.out]; exact HKB.out.mark⟩
              case measure => simp [intOf]; omega
            ·
              have hlz : ((l : Int) == 0) = false := by simp; omega
              have e1 : wholeB (some S) = false := by rw [HWB.out]; exact decide_eq_false hl0
              have e2 : wholeX (some S) = [] := by rw [HWX.out, if_neg hl0]
              have HX1 : Hid _ := e1
              have HX2 : Hid _ := e2
              clear e1 e2 h1 h2 h3 h4 h5
              go_wp2_with (first | (go_at_call 18; refine Calls.mono HOW.out ?_; rintro e wa ⟨ua, hea, howna, hba⟩; rw [HX1.out] at hea; rw [HX2.out] at howna; subst hea; obtain ⟨aa, ca, hva, -⟩ := howna.val; rw [List.length_nil] at hva; subst hva; have HKA : Hid _ := HP.out.below hba; obtain ⟨hby, hcl⟩ := HCC.out _ HKA.out.bel; have HPA : Hid _ := HPU.out _ HKA.out; clear hba howna hby) | (go_at_call 17; refine Calls.mono HPA.out ?_; rintro e wb ⟨rfl, hkb⟩; have HKB : Hid _ := hkb; have hhc := hkb.cell HH4.out; have hhf := hkb.fz a; clear hkb) | (go_at_call 12; refine Calls.mono (HNUM.out _ _) ?_; rintro e w' ⟨rfl, hq⟩; have hq := hq.symm; subst hq))
              go_roundw
              case rel => exact ⟨k + 1, S, by omega, by go_num, by (rw [← HLD.out]; try rfl), HPT, by unfold Hid; exact (by rw [HC0.out.2]; exact Came.zero _), by rw [HH5.out]; exact HKB.out.mark⟩
              case measure => simp [intOf]; omega
        · have hkoI : ¬ (k : Int) < (on : Int) := by omega
          obtain ⟨a, hka⟩ : ∃ a : Nat, a = k - on := ⟨_, rfl⟩
          have hsub : IntKind.i64.wrap ((k : Int) - (on : Int)) = (a : Int) := by rw [IntKind.wrap_i64]; have := HN.out; omega
          have haK : a < K := by have := HN.out; omega
          have HC0 : Hid (k - on = a ∧ k + 1 - on = a + 1) := ⟨by omega, by omega⟩
          clear hka
          obtain ⟨b1, o1, d, t, ea, hd, ht, hcl, hby⟩ := HRL.out.at_ (k := a) (by rw [HTK.out]; exact haK)
          subst ea
          obtain ⟨da, dn, dc⟩ := d
          have htp := HST.out.pos ht
          have hdn : dn = t.length := hby.n
          have hdl : dn ≤ 1024 := by omega
          have HTN : Hid (t ≠ []) := by unfold Hid; intro e; rw [e] at htp; simp at htp
          have HCC : Hid (∀ u, Below w1.heap.size w1 u → ByV u ⟨da, dn, dc⟩ t ∧ u.cell? ⟨b1, o1 + a, none⟩ = some (.slice da dn dc)) := fun u hu => ⟨hby.below hu, (hu.cell (World.block_lt_of_cell? w1 _ hcl)).trans hcl⟩
          have HSTEP : Hid _ := HPT.out.step HST.out ht
          have ha0 : (0 : Int) ≤ (a : Int) := by omega
          have haKI : (a : Int) < (K : Int) := by omega
          clear hd ht hby hcl htp hdn
          rcases HSTEP.out with ⟨h1, h2, h3, h4, h5, h6, h7⟩ | ⟨h1, h2, h3, h4, h5⟩
          · have hl0 : l ≠ 0 := by have := HLD.out; omega
            have HPU : Hid (∀ u, Bak w1 w2.heap.size u (some pa) S (hvL S) → Calls _ _ _ u _) := fun u hu => hu.put (a : Int) da dn dc t (HCC.out _ hu.bel).1.n (HCC.out _ hu.bel).1.rd (HCC.out _ hu.bel).1.nil (by omega) h2 h3
            have HH1 : Hid _ := h1
            have HH4 : Hid _ := h4
            have HH5 : Hid _ := h5
            have HH7 : Hid _ := h7
            obtain ⟨l2, hl2⟩ : ∃ l2, l2 = leftN (S.set a t) := ⟨_, rfl⟩
            rw [← hl2, ← HLD.out] at h6
            have hlw : IntKind.i64.wrap ((l : Int) - 1) = (l2 : Int) := by rw [IntKind.wrap_i64]; omega
            have HH6 : Hid _ := hl2
            clear hl2
            have hlz : ((l : Int) == 0) = false := by simp; omega
            have e1 : wholeB (some S) = false := by rw [HWB.out]; exact decide_eq_false hl0
            have e2 : wholeX (some S) = [] := by rw [HWX.out, if_neg hl0]
            have HX1 : Hid _ := e1
            have HX2 : Hid _ := e2
            clear e1 e2 h1 h2 h3 h4 h5 h6 h7
            go_wp2_with (first | (go_at_call 18; refine Calls.mono HOW.out ?_; rintro e wa ⟨ua, hea, howna, hba⟩; rw [HX1.out] at hea; rw [HX2.out] at howna; subst hea; obtain ⟨aa, ca, hva, -⟩ := howna.val; rw [List.length_nil] at hva; subst hva; have HKA : Hid _ := HP.out.below hba; obtain ⟨hby, hcl⟩ := HCC.out _ HKA.out.bel; have HPA : Hid _ := HPU.out _ HKA.out; clear hba howna hby) | (go_at_call 17; refine Calls.mono HPA.out ?_; rintro e wb ⟨rfl, hkb⟩; have HKB : Hid _ := hkb; have hhc := hkb.cell HH4.out; have hhf := hkb.fz a; clear hkb) | (go_at_call 12; refine Calls.mono (HNUM.out _ _) ?_; rintro e w' ⟨rfl, hq⟩; have hq := hq.symm; subst hq))
            go_roundw
            case rel => exact ⟨k + 1, S.set a t, by omega, by go_num, by rw [← HH6.out], HH7, by unfold Hid; exact (by rw [HC0.out.2]; have h9 := HCM.out; rw [HC0.out.1] at h9; exact (h9.set HTN.out).one (by rw [List.getElem?_set_self (List.getElem?_eq_some_iff.1 HH1.out).1]; intro e; exact HTN.out (Option.some.inj e))), by rw [HH5.out]; exact HKB.out.mark⟩
            case measure => simp [intOf]; omega
          · have HPU : Hid (∀ u, Bak w1 w2.heap.size u (some pa) S (hvL S) → Calls _ _ _ u _) := fun u hu => hu.put (a : Int) da dn dc t (HCC.out _ hu.bel).1.n (HCC.out _ hu.bel).1.rd (HCC.out _ hu.bel).1.nil (by omega) h2 h3
            have HH1 : Hid _ := h1
            have HH4 : Hid _ := h4
            have HH5 : Hid _ := h5
            by_cases hl0 : l = 0
            · subst hl0
              have e1 : wholeB (some S) = true := by rw [HWB.out]; rfl
              have e2 : wholeX (some S) = bs := by rw [HWX.out, if_pos rfl]
              have HX1 : Hid _ := e1
              have HX2 : Hid _ := e2
              clear e1 e2 h1 h2 h3 h4 h5
              go_wp2_with (first | (go_at_call 18; refine Calls.mono HOW.out ?_; rintro e wa ⟨ua, hea, howna, hba⟩; rw [HX1.out] at hea; rw [HX2.out] at howna; subst hea; obtain ⟨aa, ca, hva, -, -, -, hrda, -⟩ := howna.val; rw [← HL.out] at hva; subst hva; have cv1 := conv_rd' hrda L ca HL.out; have cv2 := conv_rd' (Rd.below HRB.out (below_next (below_next HB1.out HP.out.bel) hba)) L bc HL.out; have HKA : Hid _ := HP.out.below hba; obtain ⟨hby, hcl⟩ := HCC.out _ HKA.out.bel; have HPA : Hid _ := HPU.out _ HKA.out; clear hba howna hrda hby) | (go_at_call 17; refine Calls.mono HPA.out ?_; rintro e wb ⟨rfl, hkb⟩; have HKB : Hid _ := hkb; have hhc := hkb.cell HH4.out; have hhf := hkb.fz a; clear hkb) | (go_at_call 12; refine Calls.mono (HNUM.out _ _) ?_; rintro e w' ⟨rfl, hq⟩; have hq := hq.symm; subst hq))
              go_roundw
              case rel => exact ⟨k + 1, S, by omega, by go_num, by (rw [← HLD.out]; try rfl), HPT, by unfold Hid; exact (by rw [HC0.out.2]; have h9 := HCM.out; rw [HC0.out.1] at h9; exact h9.one (by rw [HH1.out]; intro e; exact HTN.out (Option.some.inj e))), by rw [HH5.out]; exact HKB.out.mark⟩
              case measure => simp [intOf]; omega
            ·
              have hlz : ((l : Int) == 0) = false := by simp; omega
              have e1 : wholeB (some S) = false := by rw [HWB.out]; exact decide_eq_false hl0
              have e2 : wholeX (some S) = [] := by rw [HWX.out, if_neg hl0]
              have HX1 : Hid _ := e1
              have HX2 : Hid _ := e2
              clear e1 e2 h1 h2 h3 h4 h5
              go_wp2_with (first | (go_at_call 18; refine Calls.mono HOW.out ?_; rintro e wa ⟨ua, hea, howna, hba⟩; rw [HX1.out] at hea; rw [HX2.out] at howna; subst hea; obtain ⟨aa, ca, hva, -⟩ := howna.val; rw [List.length_nil] at hva; subst hva; have HKA : Hid _ := HP.out.below hba; obtain ⟨hby, hcl⟩ := HCC.out _ HKA.out.bel; have HPA : Hid _ := HPU.out _ HKA.out; clear hba howna hby) | (go_at_call 17; refine Calls.mono HPA.out ?_; rintro e wb ⟨rfl, hkb⟩; have HKB : Hid _ := hkb; have hhc := hkb.cell HH4.out; have hhf := hkb.fz a; clear hkb) | (go_at_call 12; refine Calls.mono (HNUM.out _ _) ?_; rintro e w' ⟨rfl, hq⟩; have hq := hq.symm; subst hq))
              go_roundw
              case rel => exact ⟨k + 1, S, by omega, by go_num, by (rw [← HLD.out]; try rfl), HPT, by unfold Hid; exact (by rw [HC0.out.2]; have h9 := HCM.out; rw [HC0.out.1] at h9; exact h9.one (by rw [HH1.out]; intro e; exact HTN.out (Option.some.inj e))), by rw [HH5.out]; exact HKB.out.mark⟩
              case measure => simp [intOf]; omega
      · obtain rfl : k = N := by omega
        have hltI : ¬ (k : Int) < (k : Int) := by omega
        have hCM := HCM.out
        rw [show k - on = S.length by rw [HPT.out.len, HTK.out]; have := HN.out; omega] at hCM
        have hz := hCM.left
        have hST2 : S = T := HPT.out.all (leftN_zero.1 hz)
        subst hST2
        have e1 : wholeB (some S) = true := by rw [PtS.wholeB (T := S), hz]; rfl
        have e2 : wholeX (some S) = bs := by rw [HPT.out.wholeX HST.out, if_pos hz]
        have e3 : lengS (some S) = if 1 < K then M else 0 := by rw [← HTK.out]; exact HST.out.lenS
        have e4 : cntS (some S) = K := HTK.out
        have HX1 : Hid _ := e1
        have HX2 : Hid _ := e2
        have HX3 : Hid _ := e3
        have HX4 : Hid _ := e4
        have HOW : Hid (Calls _ _ _ wr _) := HP.out.one.whole
        have HOL : Hid (∀ u, Below wr.heap.size wr u → Calls _ _ _ u _) := fun u hu => (HP.out.below hu).one.length
        have HOC : Hid (∀ u, Below wr.heap.size wr u → Calls _ _ _ u _) := fun u hu => (HP.out.below hu).one.count
        have hKK2 : ((K : Int) == (K : Int)) = true := by simp
        have hMM2 : ((M : Int) == (M : Int)) = true := by simp
        rw [hz]
        clear hCM hz e1 e2 e3 e4
        go_wp2_with fail
        refine Calls.mono HOW.out ?_
        rintro e wa ⟨ua, hea, howna, hba⟩
        rw [HX1.out] at hea
        rw [HX2.out] at howna
        subst hea
        obtain ⟨aa, ca, hva, -, -, -, hrda, -⟩ := howna.val
        rw [← HL.out] at hva
        subst hva
        have HRA : Hid _ := hrda
        have HBA : Hid _ := hba
        clear howna hrda hba
        go_wp2_with fail
        refine Calls.mono (HOL.out _ HBA.out) ?_
        rintro e wb ⟨heb, hbb⟩
        rw [HX3.out] at heb
        have cv1 := conv_rd' (Rd.below HRA.out hbb) L ca HL.out
        have cv2 := conv_rd' (Rd.below HRB.out (below_next (below_next (below_next HB1.out HP.out.bel) HBA.out) hbb)) L bc HL.out
        have HBB : Hid _ := below_next HBA.out hbb
        clear hbb
        by_cases hK2 : 1 < K
        · have hK2I : (1 : Int) < (K : Int) := by omega
          rw [if_pos hK2, decide_eq_true (by omega)] at heb
          subst heb
          go_wp2_with (go_at_call 21; refine Calls.mono (HOC.out _ HBB.out) ?_; rintro e w' ⟨he, hq⟩; rw [HX4.out] at he; subst he; have hq := hq.symm; subst hq)
          go_ret
          exact ⟨rfl, below_next (below_next HB1.out HP.out.bel) HBB.out⟩
        · have hK2I : ¬ (1 : Int) < (K : Int) := by omega
          rw [if_neg hK2, decide_eq_false (by omega)] at heb
          subst heb
          go_wp2_with (go_at_call 21; refine Calls.mono (HOC.out _ HBB.out) ?_; rintro e w' ⟨he, hq⟩; rw [HX4.out] at he; subst he; have hq := hq.symm; subst hq)
          go_ret
          exact ⟨by show Ending.returned (Value.bool (!decide ((1 : Int) < (K : Int)))) = _; rw [decide_eq_false (by omega)]; rfl, below_next (below_next HB1.out HP.out.bel) HBB.out⟩
end Go.Proofs.Ytmjhbckedagjjaa
