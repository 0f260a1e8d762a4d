import Derived.Test.YtmjhbckedagjjaaLCg
namespace Go.Proofs.Ytmjhbckedagjjaa
set_option linter.unusedVariables false
set_option linter.unusedSimpArgs false
open Go.RowKit
set_option maxRecDepth 20000 in
set_option maxHeartbeats 3200000 in
theorem cutterKeeps_walk (r : Int) (ao : Option Addr) (cap : Nat) (xs : List OpD) (w : World) (hr : RdO w ao xs) (hle : xs.length ≤ cap) (hnil : ao = none → cap = 0) (hl : xs.length ≤ 4398046511103) :
    Calls Try.prog 7 #[.agg #[.int .i64 r, .slice ao xs.length cap]] w fun e w' => e = .returned (.bool true) ∧ Below w.heap.size w w' := by
  clear hle hnil
  have HNUM : Hid (∀ (e : Int) (u : World), Calls _ _ _ u _) := fun e u => num_t e u
  go_enter Try.func7, Try.ntmps7
  go_wp2_with fail
  have hb0 : Below w.heap.size w (w.alloc (.cells #[.int .i64 r, .slice ao xs.length cap] tSc)) := al (Below.refl _ _) _
  have hbx0 : (w.alloc (.cells #[.int .i64 r, .slice ao xs.length cap] tSc)).heap[w.heap.size]? = some (.cells #[.int .i64 r, .slice ao xs.length cap] tSc (0, 0)) := heap_alloc_new w _
  generalize (w.alloc (.cells #[.int .i64 r, .slice ao xs.length cap] tSc)) = W0 at *
  have HR : Hid (RdO W0 ao xs) := hr.below hb0
  have HCS : Hid (∀ u, Below W0.heap.size W0 u → u.cell? ⟨w.heap.size, 0, none⟩ = some (.int .i64 r) ∧ u.cell? ⟨w.heap.size, 1, none⟩ = some (.slice ao xs.length cap)) := fun u hu => scells ((hu.block _ (Array.getElem?_eq_some_iff.1 hbx0).1).trans hbx0)
  have HB0 : Hid _ := hb0
  clear hr hbx0 hb0
  obtain ⟨Er, hEr⟩ : ∃ Er, Er = newEr r := ⟨_, rfl⟩
  have HER : Hid _ := hEr
  have hee : (Er != Er) = false := by simp
  clear hEr
  refine Calls.mono (One.new W0 (Below.refl _ _) r) ?_
  rintro e w1 ⟨pv, rfl, hpn, h1⟩
  rw [← HER.out]
  have HP1 : Hid _ := h1
  have HPN : Hid _ := hpn
  obtain ⟨x0, x1⟩ := HCS.out _ h1.bel
  clear h1 hpn
  go_wp2_with fail
  refine Calls.mono (Dup.new HP1.out r) ?_
  rintro e w2 ⟨cv, rfl, hcn, h2⟩
  rw [← HER.out]
  have HD2 : Hid _ := h2
  obtain ⟨z0, z1⟩ := HCS.out _ h2.bel
  have hpc : cv.isNone = pv.isNone := by
    rcases pv with _ | pa
    · rcases cv with _ | qa
      · rfl
      · exact absurd (hcn.2 (HPN.out.1 rfl)) (by simp)
    · rcases cv with _ | qa
      · exact absurd (HPN.out.2 (hcn.1 rfl)) (by simp)
      · rfl
  obtain ⟨pn, hpn⟩ : ∃ pn, pn = pv.isNone := ⟨_, rfl⟩
  have hnn : (pn != pn) = false := by simp
  have q1 : ∀ (u : World), (binOp .eql 38 (.pointer pv) (.pointer none)).run Try.prog u = .ok (.bool pn) u := fun u => by
    rw [hpn]
    rcases pv with _ | pa <;> go_simp
  have q2 : ∀ (u : World), (binOp .eql 38 (.pointer cv) (.pointer none)).run Try.prog u = .ok (.bool pn) u := fun u => by
    rw [hpn, ← hpc]
    rcases cv with _ | qa <;> go_simp
  clear hpn hpc
  have HSM : Hid _ := small_t w2
  clear hcn h2 HP1 x0 x1
  go_wp2_with (first | (go_at_call 12; refine Calls.mono (HNUM.out _ _) ?_; rintro e w' ⟨rfl, hq⟩; have hq := hq.symm; subst hq) | (go_at_call 15; refine Calls.mono HSM.out ?_; rintro e w3 ⟨rfl, hb3⟩; have HB3 : Hid _ := hb3; obtain ⟨z0, z1⟩ := HCS.out _ (below_next HD2.out.bel hb3); clear hb3))
  go_loopw [7] (fun j wr => ∃ (k : Nat) (St : Option (List Seg)), k ≤ xs.length ∧ j = .int .i64 (k : Int) ∧ Dup W0 (fun _ => False) wr pv cv St St) (fun j _ => xs.length - (intOf j).toNat)
  case atStart => exact ⟨0, _, Nat.zero_le _, rfl, HD2.out.below (fun b h => h.elim) HB3.out⟩
  case round =>
    obtain ⟨k, St, hk, rfl, hp⟩ := hrel
    have HP : Hid _ := hp
    obtain ⟨y0, y1⟩ := HCS.out _ hp.bel
    clear hp
    by_cases hlt : k < xs.length
    · obtain ⟨b, o, rfl, hok, hrg⟩ := HR.out k hlt
      obtain ⟨op, hop⟩ : ∃ op, op = xs[k] := ⟨_, rfl⟩
      rw [← hop] at hok hrg
      obtain ⟨kd, oi, oa, on, oc, oxs⟩ := op
      have HOK : Hid _ := hok
      have hk0 : (0 : Int) ≤ (k : Int) := by omega
      have hkI : (k : Int) < (xs.length : Int) := by omega
      have hkw : IntKind.i64.wrap ((k : Int) + 1) = ((k + 1 : Nat) : Int) := by rw [IntKind.wrap_i64]; omega
      obtain ⟨l0, l1, l2⟩ := op_cells (rangeAt_below hrg HP.out.bel)
      have hd1 : Dup W0 (fun b => b = wr.heap.size) (wr.alloc (.cells (opv kd oi oa on oc) tOp)) pv cv St St := HP.out.excl (al (Below.refl _ _) _) (fun b e => by omega)
      have hx1 : ∀ b, (b = wr.heap.size) → b < (wr.alloc (.cells (opv kd oi oa on oc) tOp)).heap.size := fun b e => by subst e; simp
      have hbx : (wr.alloc (.cells (opv kd oi oa on oc) tOp)).heap[wr.heap.size]? = some (.cells (opv kd oi oa on oc) tOp (0, 0)) := heap_alloc_new _ _
      have HRX : Hid (∀ u, Below W0.heap.size W0 u → Rd u oa oxs) := fun u hu => Rd.below HOK.out.rd hu
      have HPU : Hid _ := hd1.put hx1 oi oa on oc oxs HOK.out.hn (HRX.out _ hd1.bel) HOK.out.nil (by have := HOK.out.le; simp only at *; omega)
      have HLE : Hid (on ≤ 140737488355328) := by have := HOK.out.le; unfold Hid; simp only at *; omega
      obtain ⟨Pe, hPe⟩ : ∃ Pe, Pe = putE St oi oxs := ⟨_, rfl⟩
      rw [← hPe] at HPU
      have HBX : Hid _ := hbx
      have HX1 : Hid _ := hx1
      clear hop hok hrg hd1 hx1 hbx
      by_cases hpe : Pe = 0
      · have h00 : putE St oi oxs = 0 := by rw [← hPe]; exact hpe
        subst hpe
        have HTW : Hid _ := put_twice h00
        have H00 : Hid _ := h00
        clear hPe h00
        go_wp2_with (first | (have hh := HD7; go_at_call 17; refine Calls.mono HPU7.out ?_; rintro e w8 ⟨rfl, h8, -, -⟩; have HD8 : Hid _ := h8; clear h8) | (have hh := HD6; go_at_call 17; refine Calls.mono HPU6.out ?_; rintro e w7 ⟨rfl, h7, hx7, hs7⟩; have HBX7 : Hid _ := ((hx7 _ rfl).trans HBX6.out); obtain ⟨e70, e71, e72⟩ := opcell HBX7.out; have HPU7 : Hid _ := h7.put (fun b e => by have := HX6.out b e; omega) oi oa on oc oxs HOK.out.hn (HRX.out _ h7.bel) HOK.out.nil HLE.out; rw [HTW.out.1, HTW.out.2] at HPU7; have HD7 : Hid _ := h7; clear h7 hx7 hs7) | (go_at_call 17; refine Calls.mono HPU.out ?_; rintro e w6 ⟨rfl, h6, hx6, hs6⟩; have HBX6 : Hid _ := ((hx6 _ rfl).trans HBX.out); obtain ⟨e60, e61, e62⟩ := opcell HBX6.out; have HX6 : Hid (∀ b, b = wr.heap.size → b < w6.heap.size) := (fun b e => Nat.lt_of_lt_of_le (HX1.out b e) hs6); have HPU6 : Hid _ := h6.swap.put HX6.out oi oa on oc oxs HOK.out.hn (HRX.out _ h6.bel) HOK.out.nil HLE.out; rw [H00.out] at HPU6; have HD6 : Hid _ := h6; clear h6 hx6 hs6) | (go_at_call 12; refine Calls.mono (HNUM.out _ _) ?_; rintro e w' ⟨rfl, hq⟩; have hq := hq.symm; subst hq))
        go_roundw
        case rel => exact ⟨k + 1, putS St oi oxs, by omega, by go_num, HD8.out.swap.excl (Below.refl _ _) (fun b h => h.elim)⟩
        case measure => simp [intOf]; omega
      · have hpb : (Pe != 0) = true := by simpa using hpe
        have HNO : Hid _ := putS_no (St := St) (i := oi) (xs := oxs) (by rw [← hPe]; exact hpe)
        rw [HNO.out] at HPU
        clear hPe
        go_wp2_with (first | (go_at_call 17; refine Calls.mono HPU.out ?_; rintro e w6 ⟨rfl, h6, hx6, hs6⟩; have HD6 : Hid _ := h6; clear h6 hx6 hs6) | (go_at_call 12; refine Calls.mono (HNUM.out _ _) ?_; rintro e w' ⟨rfl, hq⟩; have hq := hq.symm; subst hq))
        go_roundw
        case rel => exact ⟨k + 1, St, by omega, by go_num, HD6.out.excl (Below.refl _ _) (fun b h => h.elim)⟩
        case measure => simp [intOf]; omega
    · obtain rfl : k = xs.length := by omega
      have hkI : ¬ (xs.length : Int) < (xs.length : Int) := by omega
      have HW1 : Hid (∀ u, Below wr.heap.size wr u → Calls _ _ _ u _) := fun u hu => (HP.out.below (fun b h => h.elim) hu).one.whole
      have HW2 : Hid (∀ u, Below wr.heap.size wr u → Calls _ _ _ u _) := fun u hu => (HP.out.below (fun b h => h.elim) hu).swap.one.whole
      have HL1 : Hid (∀ u, Below wr.heap.size wr u → Calls _ _ _ u _) := fun u hu => (HP.out.below (fun b h => h.elim) hu).one.length
      have HL2 : Hid (∀ u, Below wr.heap.size wr u → Calls _ _ _ u _) := fun u hu => (HP.out.below (fun b h => h.elim) hu).swap.one.length
      have HG1 : Hid (∀ u, Below wr.heap.size wr u → Calls _ _ _ u _) := fun u hu => (HP.out.below (fun b h => h.elim) hu).one.got
      have HG2 : Hid (∀ u, Below wr.heap.size wr u → Calls _ _ _ u _) := fun u hu => (HP.out.below (fun b h => h.elim) hu).swap.one.got
      have HBR : Hid (Below w.heap.size w wr) := below_next HB0.out HP.out.bel
      generalize hwb : wholeB St = lb at *
      generalize hwx : wholeX St = Z at *
      generalize decide (0 < lengS St) = ld at *
      generalize lengS St = N at *
      have hbb : (lb == lb) = true := by simp
      have hdd : (ld == ld) = true := by simp
      have hNN : ((N : Int) == (N : Int)) = true := by simp
      go_wp2_with fail
      refine Calls.mono (HW1.out _ (Below.refl _ _)) ?_
      rintro e w1' ⟨u1, he1, hown1, hb1⟩
      rw [hwb] at he1
      rw [hwx] at hown1
      subst he1
      obtain ⟨a1, c1, hv1, -, -, -, hrd1, -⟩ := hown1.val
      subst hv1
      have HRD1 : Hid _ := hrd1
      have HB1 : Hid _ := hb1
      clear hown1 hrd1 hb1
      go_wp2_with fail
      refine Calls.mono (HW2.out _ HB1.out) ?_
      rintro e w2' ⟨u2, he2, hown2, hb2⟩
      rw [hwb] at he2
      rw [hwx] at hown2
      subst he2
      obtain ⟨a2, c2, hv2, -, -, -, hrd2, -⟩ := hown2.val
      subst hv2
      have HRD2 : Hid _ := hrd2
      have HRD1' : Hid _ := Rd.below HRD1.out hb2
      have HB2 : Hid _ := below_next HB1.out hb2
      clear hown2 hrd2 hb2
      go_wp2_with fail
      refine Calls.mono (HL1.out _ HB2.out) ?_
      rintro e w3' ⟨rfl, hb3⟩
      have HB3' : Hid _ := below_next HB2.out hb3
      have HB23 : Hid _ := hb3
      clear hb3
      go_wp2_with fail
      refine Calls.mono (HL2.out _ HB3'.out) ?_
      rintro e w4' ⟨rfl, hb4⟩
      have HB4' : Hid _ := below_next HB3'.out hb4
      have hb24 := below_next HB23.out hb4
      have cv1 := conv_rd' (Rd.below HRD1'.out hb24) Z.length c1 rfl
      have cv2 := conv_rd' (Rd.below HRD2.out hb24) Z.length c2 rfl
      clear hb4 hb24
      go_wp2_with (first | (have hh := HB6'; go_at_call 22; refine Calls.mono HSR.out ?_; rintro e w7' ⟨rfl, hb7⟩; have HB7' : Hid _ := below_next HB6'.out hb7; clear hb7) | (have hh := HB5'; go_at_call 23; refine Calls.mono (HG2.out _ HB5'.out) ?_; rintro e w6' ⟨u6, ss, rfl, hown6, hgot6, hlen6, hb6⟩; obtain ⟨a6, c6, hv6, -, -, -, hrd6, -⟩ := OwnR.val hown6; subst hv6; have HSR : Hid _ := sameR_t a5 a6 _ _ c5 c6 rs ss w6' rfl rfl (RdR.below HRD5.out hb6) hrd6 (by have := HLN5.out; omega) (GotIs.uniq HG5.out hgot6); have HB6' : Hid _ := below_next HB5'.out hb6; clear hown6 hrd6 hgot6 hlen6 hb6) | (go_at_call 23; refine Calls.mono (HG1.out _ HB4'.out) ?_; rintro e w5' ⟨u5, rs, rfl, hown5, hgot5, hlen5, hb5⟩; obtain ⟨a5, c5, hv5, -, -, -, hrd5, -⟩ := OwnR.val hown5; subst hv5; have HRD5 : Hid _ := hrd5; have HG5 : Hid _ := hgot5; have HLN5 : Hid _ := hlen5; have HB5' : Hid _ := below_next HB4'.out hb5; clear hown5 hrd5 hgot5 hlen5 hb5))
      go_ret
      exact ⟨rfl, below_next HBR.out HB7'.out⟩
end Go.Proofs.Ytmjhbckedagjjaa
