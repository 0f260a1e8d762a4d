import Derived.Test.YtkbpdcjaimbioaaOpenRg
namespace Go.Proofs.Ytkbpdcjaimbioaa
set_option linter.unusedVariables false
set_option linter.unusedSimpArgs false
open Go.RowKit
theorem RdR.left {w : World} {ao : Option Addr} {xs ys : List Rg} (h : RdR w ao (xs ++ ys)) : RdR w ao xs := fun j hj => by
  obtain ⟨b, o, h1, h2, h3⟩ := h j (by rw [List.length_append]; omega)
  rw [List.getElem_append_left hj] at h2 h3
  exact ⟨b, o, h1, h2, h3⟩
theorem app_len (xs ys : List Rg) : (xs ++ ys).length = xs.length + ys.length := List.length_append
theorem addL_len (l : List Rg) (i : Int) : (addL l i).length ≤ l.length + 1 := by unfold addL; split <;> simp
theorem tot_same {xs o1 o2 : List Rg} (h1 : Lst o1) (h2 : ∀ i, hasR o1 i ↔ hasR xs i) (h3 : Lst o2) (h4 : ∀ i, hasR o2 i ↔ hasR xs i) : o1 = o2 := Lst.uniq h1 h3 (fun i => by rw [h2 i, h4 i])
section
set_option maxRecDepth 20000
set_option maxHeartbeats 6400000
theorem pduRanges_walk (a0 : Option Addr) (cap0 : Nat) (xs0 : List Rg) (a1 : Option Addr) (cap1 : Nat) (xs1 : List Rg) (n2 : Int) (W : World)
    (hr0 : RdR W a0 xs0) (hi0 : RI xs0) (hl0 : xs0.length ≤ cap0) (hn0 : a0 = none → cap0 = 0) (hc0 : cap0 ≤ 1048575) (hr1 : RdR W a1 xs1) (hi1 : RI xs1) (hl1 : xs1.length ≤ cap1) (hn1 : a1 = none → cap1 = 0) (hc1 : cap1 ≤ 1048575) (hi2 : -9223372036854775808 ≤ n2 ∧ n2 ≤ 9223372036854775807) :
    Calls Try.prog 3 #[.slice a0 xs0.length cap0, .slice a1 xs1.length cap1, .int .i64 n2] W fun e w' => e = .returned (.bool true) ∧ Below W.heap.size W w' := by
  obtain ⟨n, hn⟩ : ∃ n : Nat, n = xs0.length := ⟨_, rfl⟩
  obtain ⟨m, hm⟩ : ∃ m : Nat, m = xs1.length := ⟨_, rfl⟩
  rw [← hn, ← hm]
  have HN : Hid (n = xs0.length) := hn
  have HM : Hid (m = xs1.length) := hm
  have HLE : Hid (n ≤ 1048575 ∧ m ≤ 1048575) := ⟨by omega, by omega⟩
  have HI0 : Hid (RI xs0) := hi0
  have HI1 : Hid (RI xs1) := hi1
  have HI2 : Hid (I64 n2) := hi2
  have HR0 : Hid (∀ u, Below W.heap.size W u → RdR u a0 xs0) := fun u hu => hr0.below hu
  have HR1 : Hid (∀ u, Below W.heap.size W u → RdR u a1 xs1) := fun u hu => hr1.below hu
  have HN0 : Hid (a0 = none → cap0 = 0) := hn0
  have HN1 : Hid (a1 = none → cap1 = 0) := hn1
  clear hn hm hi0 hi1 hi2 hr0 hr1 hn0 hn1 hl0 hl1 hc0 hc1
  go_enter Try.func3, Try.ntmps3
  go_wp2_with fail
  refine Calls.mono (ranges_t a0 n cap0 xs0 W HN.out (HR0.out _ (Below.refl _ _)) (by have := HLE.out; omega)) ?_
  rintro e w1 ⟨g0, rfl, hg0, hx0, hb1⟩
  have HB1 : Hid (Below W.heap.size W w1) := hb1
  have HX0' : Hid (RdR w1 (some ⟨g0, 0, none⟩) (xs0 ++ m3)) := hx0
  clear hg0 hx0 hb1
  go_wp2_with fail
  refine Calls.mono (ranges_t a1 m cap1 xs1 w1 HM.out (HR1.out _ HB1.out) (by have := HLE.out; omega)) ?_
  rintro e w2 ⟨g1, rfl, hg1, hx1, hb2⟩
  have HB2 : Hid (Below W.heap.size W w2) := below_next HB1.out hb2
  have HX0 : Hid (∀ u, Below w2.heap.size w2 u → RdR u (some ⟨g0, 0, none⟩) (xs0 ++ m3)) := fun u hu => RdR.below (RdR.below HX0'.out hb2) hu
  have HX1 : Hid (∀ u, Below w2.heap.size w2 u → RdR u (some ⟨g1, 0, none⟩) (xs1 ++ m3)) := fun u hu => RdR.below hx1 hu
  obtain ⟨C0, hC0⟩ : ∃ C : Nat, C = n + 3 := ⟨_, rfl⟩
  obtain ⟨C1, hC1⟩ : ∃ C : Nat, C = m + 3 := ⟨_, rfl⟩
  rw [← hC0, ← hC1]
  have HC0 : Hid (C0 = n + 3) := hC0
  have HC1 : Hid (C1 = m + 3) := hC1
  clear hg1 hx1 hb2 HX0' hC0 hC1

  have HQ2 : Hid (Below w2.heap.size w2 w2) := Below.refl _ _
  go_wp2_with fail
  refine Calls.mono (least_t (some ⟨g0, 0, none⟩) n C0 xs0 _ HN.out (RdR.left (HX0.out _ HQ2.out)) (fun h => by cases h) (by have := HLE.out; omega)) ?_
  rintro e wa1 ⟨va1, oa1, rfl, ha1, ha2, ha3, ha4, ha5⟩
  have HBa1 : Hid (Below W.heap.size W wa1) := below_next HB2.out ha5
  have HQa1 : Hid (Below w2.heap.size w2 wa1) := below_next HQ2.out ha5
  obtain ⟨pa1, ca1, hva, -, -, -, hra, -⟩ := OwnR.val ha1
  have HA1 : Hid (Lst oa1 ∧ (∀ i, hasR oa1 i ↔ hasR (xs0) i) ∧ oa1.length ≤ (xs0).length) := ⟨ha2, ha3, ha4⟩
  obtain ⟨la1, hla⟩ : ∃ l : Nat, l = oa1.length := ⟨_, rfl⟩
  rw [← hla] at hva
  subst hva
  have HLa1 : Hid (la1 = oa1.length) := hla
  have HRa1 : Hid (RdR wa1 pa1 oa1) := hra
  clear ha1 ha2 ha3 ha4 ha5 hra hla
  go_wp2_with fail
  refine Calls.mono (rleast_t a0 n cap0 xs0 _ HN.out (HR0.out _ HBa1.out) (by have := HLE.out; omega) HI0.out) ?_
  rintro e wb1 ⟨vb1, ob1, rfl, ha1, ha2, ha3, ha4, ha5⟩
  have HBb1 : Hid (Below W.heap.size W wb1) := below_next HBa1.out ha5
  have HQb1 : Hid (Below w2.heap.size w2 wb1) := below_next HQa1.out ha5
  obtain ⟨pb1, cb1, hva, -, -, -, hra, -⟩ := OwnR.val ha1
  have HE1 : Hid (oa1 = ob1) := Lst.uniq HA1.out.1 ha2 (fun i => by rw [HA1.out.2.1 i, ha3 i])
  obtain ⟨lb1, hla⟩ : ∃ l : Nat, l = ob1.length := ⟨_, rfl⟩
  rw [← hla] at hva
  subst hva
  have HS1 : Hid _ := same_t pa1 pb1 la1 lb1 ca1 cb1 oa1 ob1 wb1 HLa1.out hla (RdR.below HRa1.out ha5) hra (by have h1 := HLa1.out; have h2 := HA1.out.2.2; have h3 := And.intro HLE.out HN.out; omega) HE1.out
  clear ha1 ha2 ha3 ha4 ha5 hra hla
  go_wp2_with fail
  refine Calls.mono HS1.out ?_
  rintro e wc1 ⟨rfl, hc5⟩
  have HBc1 : Hid (Below W.heap.size W wc1) := below_next HBb1.out hc5
  have HQc1 : Hid (Below w2.heap.size w2 wc1) := below_next HQb1.out hc5
  clear hc5 HS1 HE1 HA1 HLa1 HRa1
  go_wp2_with fail
  refine Calls.mono (union_t (some ⟨g0, 0, none⟩) (some ⟨g1, 0, none⟩) n m C0 C1 xs0 xs1 _ HN.out HM.out (RdR.left (HX0.out _ HQc1.out)) (RdR.left (HX1.out _ HQc1.out)) (by have := HLE.out; omega) (fun h => by cases h) (fun h => by cases h)) ?_
  rintro e wa2 ⟨va2, oa2, rfl, ha1, ha2, ha3, ha4, ha5⟩
  have HBa2 : Hid (Below W.heap.size W wa2) := below_next HBc1.out ha5
  have HQa2 : Hid (Below w2.heap.size w2 wa2) := below_next HQc1.out ha5
  obtain ⟨pa2, ca2, hva, -, -, -, hra, -⟩ := OwnR.val ha1
  have HA2 : Hid (Lst oa2 ∧ (∀ i, hasR oa2 i ↔ hasR (xs0 ++ xs1) i) ∧ oa2.length ≤ (xs0 ++ xs1).length) := ⟨ha2, ha3, ha4⟩
  obtain ⟨la2, hla⟩ : ∃ l : Nat, l = oa2.length := ⟨_, rfl⟩
  rw [← hla] at hva
  subst hva
  have HLa2 : Hid (la2 = oa2.length) := hla
  have HRa2 : Hid (RdR wa2 pa2 oa2) := hra
  clear ha1 ha2 ha3 ha4 ha5 hra hla
  go_wp2_with fail
  refine Calls.mono (runion_t a0 a1 n m cap0 cap1 xs0 xs1 _ HN.out HM.out (HR0.out _ HBa2.out) (HR1.out _ HBa2.out) (by have := HLE.out; omega) HI0.out HI1.out HN0.out HN1.out) ?_
  rintro e wb2 ⟨vb2, ob2, rfl, ha1, ha2, ha3, ha4, ha5⟩
  have HBb2 : Hid (Below W.heap.size W wb2) := below_next HBa2.out ha5
  have HQb2 : Hid (Below w2.heap.size w2 wb2) := below_next HQa2.out ha5
  obtain ⟨pb2, cb2, hva, -, -, -, hra, -⟩ := OwnR.val ha1
  have HE2 : Hid (oa2 = ob2) := Lst.uniq HA2.out.1 ha2 (fun i => by rw [HA2.out.2.1 i, ha3 i])
  obtain ⟨lb2, hla⟩ : ∃ l : Nat, l = ob2.length := ⟨_, rfl⟩
  rw [← hla] at hva
  subst hva
  have HS2 : Hid _ := same_t pa2 pb2 la2 lb2 ca2 cb2 oa2 ob2 wb2 HLa2.out hla (RdR.below HRa2.out ha5) hra (by have h1 := HLa2.out; have h2 := HA2.out.2.2; have h3 := And.intro (And.intro HLE.out (And.intro HN.out HM.out)) (app_len xs0 xs1); omega) HE2.out
  clear ha1 ha2 ha3 ha4 ha5 hra hla
  go_wp2_with fail
  refine Calls.mono HS2.out ?_
  rintro e wc2 ⟨rfl, hc5⟩
  have HBc2 : Hid (Below W.heap.size W wc2) := below_next HBb2.out hc5
  have HQc2 : Hid (Below w2.heap.size w2 wc2) := below_next HQb2.out hc5
  clear hc5 HS2 HE2 HA2 HLa2 HRa2
  go_wp2_with fail
  refine Calls.mono (add_t (some ⟨g0, 0, none⟩) n C0 xs0 n2 _ HN.out (RdR.left (HX0.out _ HQc2.out)) (by have := HLE.out; omega) HI2.out (fun h => by cases h)) ?_
  rintro e wa3 ⟨va3, oa3, rfl, ha1, ha2, ha3, ha4, ha5⟩
  have HBa3 : Hid (Below W.heap.size W wa3) := below_next HBc2.out ha5
  have HQa3 : Hid (Below w2.heap.size w2 wa3) := below_next HQc2.out ha5
  obtain ⟨pa3, ca3, hva, -, -, -, hra, -⟩ := OwnR.val ha1
  have HA3 : Hid (Lst oa3 ∧ (∀ i, hasR oa3 i ↔ hasR (addL xs0 n2) i) ∧ oa3.length ≤ (addL xs0 n2).length) := ⟨ha2, ha3, ha4⟩
  obtain ⟨la3, hla⟩ : ∃ l : Nat, l = oa3.length := ⟨_, rfl⟩
  rw [← hla] at hva
  subst hva
  have HLa3 : Hid (la3 = oa3.length) := hla
  have HRa3 : Hid (RdR wa3 pa3 oa3) := hra
  clear ha1 ha2 ha3 ha4 ha5 hra hla
  go_wp2_with fail
  refine Calls.mono (radd_t a0 n cap0 xs0 n2 _ HN.out (HR0.out _ HBa3.out) (by have := HLE.out; omega) HI0.out HI2.out HN0.out) ?_
  rintro e wb3 ⟨vb3, ob3, rfl, ha1, ha2, ha3, ha4, ha5⟩
  have HBb3 : Hid (Below W.heap.size W wb3) := below_next HBa3.out ha5
  have HQb3 : Hid (Below w2.heap.size w2 wb3) := below_next HQa3.out ha5
  obtain ⟨pb3, cb3, hva, -, -, -, hra, -⟩ := OwnR.val ha1
  have HE3 : Hid (oa3 = ob3) := Lst.uniq HA3.out.1 ha2 (fun i => by rw [HA3.out.2.1 i, ha3 i])
  obtain ⟨lb3, hla⟩ : ∃ l : Nat, l = ob3.length := ⟨_, rfl⟩
  rw [← hla] at hva
  subst hva
  have HS3 : Hid _ := same_t pa3 pb3 la3 lb3 ca3 cb3 oa3 ob3 wb3 HLa3.out hla (RdR.below HRa3.out ha5) hra (by have h1 := HLa3.out; have h2 := HA3.out.2.2; have h3 := And.intro (And.intro HLE.out HN.out) (addL_len xs0 n2); omega) HE3.out
  clear ha1 ha2 ha3 ha4 ha5 hra hla
  go_wp2_with fail
  refine Calls.mono HS3.out ?_
  rintro e wc3 ⟨rfl, hc5⟩
  have HBc3 : Hid (Below W.heap.size W wc3) := below_next HBb3.out hc5
  have HQc3 : Hid (Below w2.heap.size w2 wc3) := below_next HQb3.out hc5
  clear hc5 HS3 HE3 HA3 HLa3 HRa3
  go_wp2_with fail
  refine Calls.mono (has_t (some ⟨g0, 0, none⟩) n C0 xs0 n2 _ HN.out (RdR.left (HX0.out _ HQc3.out)) (by have := HLE.out; omega)) ?_
  rintro e w6 ⟨rfl, hb6⟩
  have HB6 : Hid (Below W.heap.size W w6) := below_next HBc3.out hb6
  have HQ6 : Hid (Below w2.heap.size w2 w6) := below_next HQc3.out hb6
  clear hb6
  go_wp2_with fail
  refine Calls.mono (rhas_t a0 n cap0 xs0 n2 _ HN.out (HR0.out _ HB6.out) (by have := HLE.out; omega)) ?_
  rintro e w6b ⟨rfl, rfl⟩
  obtain ⟨hb, hhb⟩ : ∃ b : Bool, b = hasB xs0 n2 := ⟨_, rfl⟩
  rw [← hhb]
  clear hhb
  go_wp2_with fail
  refine Calls.mono (total_t (some ⟨g0, 0, none⟩) n C0 xs0 _ HN.out (RdR.left (HX0.out _ HQ6.out)) (fun h => by cases h) (by have := HLE.out; omega)) ?_
  rintro e w7 ⟨o7, ht1, ht2, rfl, hb7⟩
  have HT7 : Hid (Lst o7 ∧ ∀ i, hasR o7 i ↔ hasR xs0 i) := ⟨ht1, ht2⟩
  have HB7 : Hid (Below W.heap.size W w7) := below_next HB6.out hb7
  have HQ7 : Hid (Below w2.heap.size w2 w7) := below_next HQ6.out hb7
  clear ht1 ht2 hb7
  obtain ⟨T7, hT7⟩ : ∃ T : Int, T = totI (sumU 0 o7) := ⟨_, rfl⟩
  rw [← hT7]
  have HTT : Hid (T7 = totI (sumU 0 o7)) := hT7
  clear hT7
  go_wp2_with fail
  refine Calls.mono (rtotal_t a0 n cap0 xs0 _ HN.out (HR0.out _ HB7.out) (by have := HLE.out; omega) HI0.out) ?_
  rintro e w8 ⟨o8, ht1, ht2, rfl, hb8⟩
  have HE8 : Hid (totI (sumU 0 o8) = T7) := by unfold Hid; rw [HTT.out, tot_same HT7.out.1 HT7.out.2 ht1 ht2]
  have HB8 : Hid (Below W.heap.size W w8) := below_next HB7.out hb8
  have HQ8 : Hid (Below w2.heap.size w2 w8) := below_next HQ7.out hb8
  rw [HE8.out]
  clear ht1 ht2 hb8 HE8
  go_wp2_with fail
  refine Calls.mono (missing_t (some ⟨g0, 0, none⟩) n C0 xs0 n2 _ HN.out (RdR.left (HX0.out _ HQ8.out)) (fun h => by cases h) (by have := HLE.out; omega)) ?_
  rintro e w9 ⟨v9, o9, rfl, h91, h92, h93, h94⟩
  have HB9 : Hid (Below W.heap.size W w9) := below_next HB8.out h94
  have HQ9 : Hid (Below w2.heap.size w2 w9) := below_next HQ8.out h94
  obtain ⟨p9, c9, hv9, -, -, -, hr9, -⟩ := OwnR.val h91
  have HA9 : Hid (MissS xs0 o9 n2 ∧ o9.length ≤ xs0.length + 1) := ⟨h92, h93⟩
  obtain ⟨l9, hl9⟩ : ∃ l : Nat, l = o9.length := ⟨_, rfl⟩
  rw [← hl9] at hv9
  subst hv9
  have HL9 : Hid (l9 = o9.length) := hl9
  have HR9 : Hid (RdR w9 p9 o9) := hr9
  clear h91 h92 h93 h94 hr9 hl9
  go_wp2_with fail
  refine Calls.mono (rmissing_t a0 n cap0 xs0 n2 _ HN.out (HR0.out _ HB9.out) (by have := HLE.out; omega)) ?_
  rintro e w10 ⟨v10, o10, rfl, h91, h92, h93, h94⟩
  have HB10 : Hid (Below W.heap.size W w10) := below_next HB9.out h94
  have HQ10 : Hid (Below w2.heap.size w2 w10) := below_next HQ9.out h94
  obtain ⟨p10, c10, hv9, -, -, -, hr10, -⟩ := OwnR.val h91
  have HE10 : Hid (o9 = o10) := MissS.uniq HA9.out.1 h92 (fun i => Iff.rfl)
  obtain ⟨l10, hl10⟩ : ∃ l : Nat, l = o10.length := ⟨_, rfl⟩
  rw [← hl10] at hv9
  subst hv9
  have HS10 : Hid _ := same_t p9 p10 l9 l10 c9 c10 o9 o10 w10 HL9.out hl10 (RdR.below HR9.out h94) hr10 (by have h1 := HL9.out; have h2 := HA9.out.2; have h3 := HLE.out; have h4 := HN.out; omega) HE10.out
  clear h91 h92 h93 h94 hr10 hl10
  go_wp2_with fail
  refine Calls.mono HS10.out ?_
  rintro e w11 ⟨rfl, hb11⟩
  have HB11 : Hid (Below W.heap.size W w11) := below_next HB10.out hb11
  have HQ11 : Hid (Below w2.heap.size w2 w11) := below_next HQ10.out hb11
  clear hb11 HS10 HE10
  go_wp2_with fail
  refine Calls.mono (rest_t g0 a0 n C0 cap0 xs0 _ HN.out HC0.out (HX0.out _ HQ11.out) (HR0.out _ HB11.out) (by have := HLE.out; omega)) ?_
  rintro e w12 ⟨rfl, hb12⟩
  have HB12 : Hid (Below W.heap.size W w12) := below_next HB11.out hb12
  have HQ12 : Hid (Below w2.heap.size w2 w12) := below_next HQ11.out hb12
  clear hb12
  go_wp2_with fail
  refine Calls.mono (rest_t g1 a1 m C1 cap1 xs1 _ HM.out HC1.out (HX1.out _ HQ12.out) (HR1.out _ HB12.out) (by have := HLE.out; omega)) ?_
  rintro e w13 ⟨rfl, hb13⟩
  have HB13 : Hid (Below W.heap.size W w13) := below_next HB12.out hb13
  clear hb13
  go_wp2
  go_ret
  exact ⟨rfl, HB13.out⟩
end
end Go.Proofs.Ytkbpdcjaimbioaa
