import Derived.Test.YtinphflminaijaaDoorConv
import Derived.Test.YtinphflminaijaaDoorOpen
import Derived.Test.YtinphflminaijaaDoorOne
import Derived.Test.YtinphflminaijaaDoorRegn
import Derived.Lib.Strings
namespace Go.Proofs.YtinphflminaijaaDoor
set_option linter.unusedVariables false
set_option linter.unusedSimpArgs false
open Go.RowKit

theorem u64_of {n : Int} (h : (Lit.int .u64 n).wf = true) : ∃ m : Nat, n = m ∧ m < 18446744073709551616 := by
  have h2 : 0 ≤ n ∧ n ≤ 18446744073709551615 := by simpa [Lit.wf, IntKind.min, IntKind.max, IntKind.signed, IntKind.bits] using h
  exact ⟨n.toNat, by omega, by omega⟩

theorem beq_int_comm (a b : Int) : (a == b) = (b == a) := by rw [Bool.eq_iff_iff]; simp; exact eq_comm
theorem pfx (n m : Nat) (hn : n < 18446744073709551616) (hm : m < 18446744073709551616) : (((ByteArray.mk (dg n).toArray).extract 0 (dg m).length).toList == dg m) = ((n : Int) == (m : Int)) := by
  have e : ((ByteArray.mk (dg n).toArray).extract 0 (dg m).length).toList = (dg n).take (dg m).length := by
    rw [Lib.toList_data, Lib.extract_data]; simp
  rw [e, Bool.eq_iff_iff, beq_iff_eq, beq_iff_eq, dg_prefix n m hn hm]
  omega
set_option maxRecDepth 20000 in
set_option maxHeartbeats 400000 in
theorem octetOneWay_walk (a0 : Option Addr) (cap0 : Nat) (xs0 : List UInt8) (n1 n2 : Int) (w : World) (hr0 : Rd w a0 xs0) (hl0 : xs0.length ≤ cap0) (hc0 : cap0 ≤ 140737488351232) (hn0 : a0 = none → cap0 = 0)
    (w1 : (Lit.int .u64 n1).wf = true) (w2 : (Lit.int .u64 n2).wf = true) (ht : TabOk w) :
    Calls Tryd.prog 3 #[.slice a0 xs0.length cap0, .int .u64 n1, .int .u64 n2] w fun e w' => e = .returned (.bool true) ∧ Below w.heap.size w w' := by
  obtain ⟨m1, rfl, hm1⟩ := u64_of w1
  obtain ⟨m2, rfl, hm2⟩ := u64_of w2
  clear w1 w2
  have HN : Hid (a0 = none → cap0 = 0) := hn0
  clear hn0
  go_enter Tryd.func3, Tryd.ntmps3
  go_wp2_with fail
  refine (knows_any _ ht).mono ?_
  rintro e wk ⟨rfl, hbk⟩
  have hrk := hr0.below hbk
  go_wp2_with fail
  refine (number_any a0 cap0 xs0 wk hrk hl0 (by omega)).mono ?_
  rintro e w1 ⟨rfl, hw1⟩
  subst hw1
  unfold numV
  have hlt := numS_lt xs0
  have HB : Hid (∀ n k, numS xs0 = (n, k, 0) → 1 ≤ k ∧ k ≤ xs0.length ∧ xs0.take k = dg n) := fun n k => numS_one xs0 n k
  have hs1 := hbk.size
  generalize hnum : numS xs0 = ns at *
  obtain ⟨nv, nk, ne⟩ := ns
  simp only at hlt ⊢
  clear hnum
  by_cases he : ne = 0
  · subst he
    obtain ⟨hk1, hkl, hkt⟩ := HB.out _ _ rfl
    clear HB
    obtain ⟨hnv, -⟩ := hlt
    have hnv' : (nv : Int) < 18446744073709551616 := by omega
    have hk1b : decide ((nk : Int) < 1) = false := by simp; omega
    have hklb : decide (xs0.length < nk) = false := by simp; omega
    have hkc : (nk : Int) ≤ (cap0 : Int) := by omega
    have hkc' : nk ≤ cap0 := by omega
    have hrt : Rd w1 a0 (dg nv) := hkt ▸ hrk.take nk
    have hdl : (dg nv).length = nk := by rw [← hkt]; simp; omega
    clear hkt
    have hcv : ∀ u, Below w1.heap.size w1 u → (convert 22 9 (.slice a0 nk cap0)).run Tryd.prog u = .ok (.string ⟨(dg nv).toArray⟩) u := fun u hu => conv_rd (hrt.below hu) nk cap0 hdl.symm
    go_wp2_with fail
    have HDL : Hid ((dg nv).length = nk) := hdl
    clear hdl
    refine wp_region_noPanic ?_
    refine wp_region_held_drew (S := (fun u => Below w1.heap.size w1 u)) (by kernel_rfl) (by first | exact (Below.refl _ _).drew | assumption) (fun hHeld => ?_)
    refine take_at (i := 0) 22 (v := ?vq1) rfl rfl (by kernel_rfl) (by kernel_rfl) (by kernel_rfl) (fun _ _ _ h => h) (by rfl) ?hq1 hHeld ?rq1
    case hq1 => (intro w hSw; (try dsimp only at hSw); go_simp; try with_reducible rfl)
    simp only [Act.put, List.setIfInBounds_toArray, List.set_cons_zero, List.set_cons_succ]
    refine take_at (i := 1) 23 (v := ?vq2) rfl rfl (by kernel_rfl) (by kernel_rfl) (by kernel_rfl) (fun _ _ _ h => h) (by rfl) ?hq2 hHeld ?rq2
    case hq2 => (intro w hSw; (try dsimp only at hSw); go_simp; try with_reducible rfl)
    simp only [Act.put, List.setIfInBounds_toArray, List.set_cons_zero, List.set_cons_succ]
    refine take_at (i := 2) 24 (v := ?vq3) rfl rfl (by kernel_rfl) (by kernel_rfl) (by kernel_rfl) (fun _ _ _ h => h) (by rfl) ?hq3 hHeld ?rq3
    case hq3 => (intro w hSw; (try dsimp only at hSw); go_simp; try with_reducible rfl)
    simp only [Act.put, List.setIfInBounds_toArray, List.set_cons_zero, List.set_cons_succ]
    refine take_at (i := 3) 25 (v := ?vq4) rfl rfl (by kernel_rfl) (by kernel_rfl) (by kernel_rfl) (fun _ _ _ h => h) (by rfl) ?hq4 hHeld ?rq4
    case hq4 => (intro w hSw; (try dsimp only at hSw); go_simp; try with_reducible rfl)
    simp only [Act.put, List.setIfInBounds_toArray, List.set_cons_zero, List.set_cons_succ]
    refine take_at (i := 4) 26 (v := ?vq5) rfl rfl (by kernel_rfl) (by kernel_rfl) (by kernel_rfl) (fun _ _ _ h => h) (by rfl) ?hq5 hHeld ?rq5
    case hq5 => (intro w hSw; (try dsimp only at hSw); go_simp; try with_reducible rfl)
    simp only [Act.put, List.setIfInBounds_toArray, List.set_cons_zero, List.set_cons_succ]
    refine take_at (i := 5) 27 (v := ?vq6) rfl rfl (by kernel_rfl) (by kernel_rfl) (by kernel_rfl) (fun _ _ _ h => h) (by rfl) ?hq6 hHeld ?rq6
    case hq6 => (intro w hSw; (try dsimp only at hSw); go_simp; try with_reducible rfl)
    simp only [Act.put, List.setIfInBounds_toArray, List.set_cons_zero, List.set_cons_succ]
    refine take_at (i := 6) 28 (v := ?vq7) rfl rfl (by kernel_rfl) (by kernel_rfl) (by kernel_rfl) (fun _ _ _ h => h) (by rfl) ?hq7 hHeld ?rq7
    case hq7 => (intro w hSw; (try dsimp only at hSw); go_simp; try with_reducible rfl)
    simp only [Act.put, List.setIfInBounds_toArray, List.set_cons_zero, List.set_cons_succ]
    refine take_at (i := 7) 29 (v := ?vq8) rfl rfl (by kernel_rfl) (by kernel_rfl) (by kernel_rfl) (fun _ _ _ h => h) (by rfl) ?hq8 hHeld ?rq8
    case hq8 => (intro w hSw; (try dsimp only at hSw); go_simp; try with_reducible rfl)
    simp only [Act.put, List.setIfInBounds_toArray, List.set_cons_zero, List.set_cons_succ]
    refine take_at (i := 8) 30 (v := ?vq9) rfl rfl (by kernel_rfl) (by kernel_rfl) (by kernel_rfl) (fun _ _ _ h => h) (by rfl) ?hq9 hHeld ?rq9
    case hq9 => (intro w hSw; (try dsimp only at hSw); go_simp; try with_reducible rfl)
    simp only [Act.put, List.setIfInBounds_toArray, List.set_cons_zero, List.set_cons_succ]
    refine take_at (i := 9) 31 (v := ?vq10) rfl rfl (by kernel_rfl) (by kernel_rfl) (by kernel_rfl) (fun _ _ _ h => h) (by rfl) ?hq10 hHeld ?rq10
    case hq10 => (intro w hSw; (try dsimp only at hSw); go_simp; try with_reducible rfl)
    simp only [Act.put, List.setIfInBounds_toArray, List.set_cons_zero, List.set_cons_succ]
    refine take_at (i := 10) 32 (v := ?vq11) rfl rfl (by kernel_rfl) (by kernel_rfl) (by kernel_rfl) (fun _ _ _ h => h) (by rfl) ?hq11 hHeld ?rq11
    case hq11 => (intro w hSw; (try dsimp only at hSw); go_simp; try with_reducible rfl)
    simp only [Act.put, List.setIfInBounds_toArray, List.set_cons_zero, List.set_cons_succ]
    refine take_at (i := 11) 33 (v := ?vq12) rfl rfl (by kernel_rfl) (by kernel_rfl) (by kernel_rfl) (fun _ _ _ h => h) (by rfl) ?hq12 hHeld ?rq12
    case hq12 => (intro w hSw; (try dsimp only at hSw); go_simp; try with_reducible rfl)
    simp only [Act.put, List.setIfInBounds_toArray, List.set_cons_zero, List.set_cons_succ]
    refine take_at (i := 12) 34 (v := ?vq13) rfl rfl (by kernel_rfl) (by kernel_rfl) (by kernel_rfl) (fun _ _ _ h => h) (by rfl) ?hq13 hHeld ?rq13
    case hq13 => (intro w hSw; (try dsimp only at hSw); go_simp; try with_reducible rfl)
    simp only [Act.put, List.setIfInBounds_toArray, List.set_cons_zero, List.set_cons_succ]
    refine take_at (i := 15) 37 (v := ?vq14) rfl rfl (by kernel_rfl) (by kernel_rfl) (by kernel_rfl) (fun _ _ _ h => h) (by rfl) ?hq14 hHeld ?rq14
    case hq14 => (intro w hSw; (try dsimp only at hSw); go_simp; try with_reducible rfl)
    simp only [Act.put, List.setIfInBounds_toArray, List.set_cons_zero, List.set_cons_succ]
    refine take_at (i := 16) 38 (v := ?vq15) rfl rfl (by kernel_rfl) (by kernel_rfl) (by kernel_rfl) (fun _ _ _ h => h) (by rfl) ?hq15 hHeld ?rq15
    case hq15 => (intro w hSw; (try dsimp only at hSw); go_simp; try with_reducible rfl)
    simp only [Act.put, List.setIfInBounds_toArray, List.set_cons_zero, List.set_cons_succ]
    refine take_at (i := 17) 39 (v := ?vq16) rfl rfl (by kernel_rfl) (by kernel_rfl) (by kernel_rfl) (fun _ _ _ h => h) (by rfl) ?hq16 hHeld ?rq16
    case hq16 => (intro w hSw; (try dsimp only at hSw); go_simp; try with_reducible rfl)
    simp only [Act.put, List.setIfInBounds_toArray, List.set_cons_zero, List.set_cons_succ]
    refine take_at (i := 18) 40 (v := ?vq17) rfl rfl (by kernel_rfl) (by kernel_rfl) (by kernel_rfl) (fun _ _ _ h => h) (by rfl) ?hq17 hHeld ?rq17
    case hq17 => (intro w hSw; (try dsimp only at hSw); go_simp; try with_reducible rfl)
    simp only [Act.put, List.setIfInBounds_toArray, List.set_cons_zero, List.set_cons_succ]
    refine run_at (i := 13) rfl (by kernel_rfl) (by rfl) (fun K hK => ?_)
    simp only [List.getElem_toArray, List.getElem_cons_zero, List.getElem_cons_succ]
    go_simp
    go_at_call 9; refine (appendNumber_any none 0 [] nv _ (Rd.nil _ _) (fun _ => rfl) (by decide) (by omega)).mono ?_; rintro e w2 ⟨v2, rfl, hown2, hb2⟩; have hS2 : Below w1.heap.size w1 w2 := ((Below.refl _ _).drew).trans hb2; rw [List.nil_append] at hown2; obtain ⟨ao2, cp2, rfl, -, -, -, hr2, -⟩ := hown2.val; have hcv2 := conv_rd hr2 _ cp2 rfl
    go_wp2_with fail
    refine hK.out _ _ (by first | exact (Below.refl _ _).drew | assumption) (fun hHeld2 => ?_)
    clear hK K hHeld
    have hHeld := hHeld2
    clear hHeld2
    try simp only [Act.put, List.setIfInBounds_toArray, List.set_cons_zero, List.set_cons_succ]
    refine val_at (i := 14) 36 (v := ?vq18) rfl rfl (by kernel_rfl) (by rfl) ?hq18 ?sq18 ?rq18
    case hq18 => (go_simp; try with_reducible rfl)
    case sq18 => (first | exact (Below.refl _ _).drew | assumption)
    intro hHeld2
    clear hHeld
    have hHeld := hHeld2
    clear hHeld2
    simp only [Act.put, List.setIfInBounds_toArray, List.set_cons_zero, List.set_cons_succ]
    refine take_at (i := 19) 41 (v := ?vq19) rfl rfl (by kernel_rfl) (by kernel_rfl) (by kernel_rfl) (fun _ _ _ h => h) (by rfl) ?hq19 hHeld ?rq19
    case hq19 => (intro w hSw; (try dsimp only at hSw); go_simp; try with_reducible rfl)
    simp only [Act.put, List.setIfInBounds_toArray, List.set_cons_zero, List.set_cons_succ]
    refine take_at (i := 20) 42 (v := ?vq20) rfl rfl (by kernel_rfl) (by kernel_rfl) (by kernel_rfl) (fun _ _ _ h => h) (by rfl) ?hq20 hHeld ?rq20
    case hq20 => (intro w hSw; (try dsimp only at hSw); go_simp; try with_reducible rfl)
    simp only [Act.put, List.setIfInBounds_toArray, List.set_cons_zero, List.set_cons_succ]
    refine take_at (i := 21) 43 (v := ?vq21) rfl rfl (by kernel_rfl) (by kernel_rfl) (by kernel_rfl) (fun _ _ _ h => h) (by rfl) ?hq21 hHeld ?rq21
    case hq21 => (intro w hSw; (try dsimp only at hSw); go_simp; try with_reducible rfl)
    simp only [Act.put, List.setIfInBounds_toArray, List.set_cons_zero, List.set_cons_succ]
    refine wpAnyH_done (by kernel_rfl) ?_ _
    refine NoPanic.normal ?_
    have hbx : Below w.heap.size w w2 := hbk.trans (hHeld.mono hs1)
    clear hHeld hS2 hb2 hown2 hcv hcv2 hrt hr2 HDL hnv hnv' hc0
    go_wp2_with fail
    refine (appendNumber_any none 0 [] m1 _ (Rd.nil _ _) (fun _ => rfl) (by decide) hm1).mono ?_
    rintro e w3 ⟨v3, rfl, hown3, hb3⟩
    rw [List.nil_append] at hown3
    obtain ⟨ao3, cp3, rfl, -, -, -, hr3, -⟩ := hown3.val
    have hcv3 := conv_rd hr3 _ cp3 rfl
    have hb3' : Below w.heap.size w w3 := hbx.trans (hb3.mono hbx.size)
    clear hb3 hown3
    go_wp2_with fail
    refine (appendNumber_any none 0 [] m2 _ (Rd.nil _ _) (fun _ => rfl) (by decide) hm2).mono ?_
    rintro e w4 ⟨v4, rfl, hown4, hb4⟩
    rw [List.nil_append] at hown4
    obtain ⟨ao4, cp4, rfl, -, -, -, hr4, -⟩ := hown4.val
    have hcv4 := conv_rd hr4 _ cp4 rfl
    have hb4' : Below w.heap.size w w4 := hb3'.trans (hb4.mono hb3'.size)
    have hd1 := dg_len m1 hm1
    have hd2 := dg_len m2 hm2
    clear hb4 hown4 hr3 hr4
    have hp1 := pfx m1 m2 hm1 hm2
    have hp2 := pfx m2 m1 hm2 hm1
    rw [beq_int_comm] at hp2
    clear hm1 hm2
    by_cases hlen : (dg m2).length < (dg m1).length
    · go_wp2
      go_ret
      refine ⟨?_, hb4'⟩
      first | rfl | (simp; done) | (simp; omega)
    · go_wp2
      go_ret
      refine ⟨?_, hb4'⟩
      first | rfl | (simp; done) | (simp; omega)
  · have heb : ((ne : Int) == 0) = false := by simp; omega
    clear he
    go_wp2_with fail
    go_quiet (fail)
    go_wp2_with fail
    have hbx : Below w.heap.size w (w1.drewN nq) := below_drewN hbk nq
    refine (appendNumber_any none 0 [] m1 _ (Rd.nil _ _) (fun _ => rfl) (by decide) hm1).mono ?_
    rintro e w3 ⟨v3, rfl, hown3, hb3⟩
    rw [List.nil_append] at hown3
    obtain ⟨ao3, cp3, rfl, -, -, -, hr3, -⟩ := hown3.val
    have hcv3 := conv_rd hr3 _ cp3 rfl
    have hb3' : Below w.heap.size w w3 := hbx.trans (hb3.mono hbx.size)
    clear hb3 hown3
    go_wp2_with fail
    refine (appendNumber_any none 0 [] m2 _ (Rd.nil _ _) (fun _ => rfl) (by decide) hm2).mono ?_
    rintro e w4 ⟨v4, rfl, hown4, hb4⟩
    rw [List.nil_append] at hown4
    obtain ⟨ao4, cp4, rfl, -, -, -, hr4, -⟩ := hown4.val
    have hcv4 := conv_rd hr4 _ cp4 rfl
    have hb4' : Below w.heap.size w w4 := hb3'.trans (hb4.mono hb3'.size)
    have hd1 := dg_len m1 hm1
    have hd2 := dg_len m2 hm2
    clear hb4 hown4 hr3 hr4
    have hp1 := pfx m1 m2 hm1 hm2
    have hp2 := pfx m2 m1 hm2 hm1
    rw [beq_int_comm] at hp2
    clear hm1 hm2
    by_cases hlen : (dg m2).length < (dg m1).length
    · go_wp2
      go_ret
      refine ⟨?_, hb4'⟩
      first | rfl | (simp; done) | (simp; omega)
    · go_wp2
      go_ret
      refine ⟨?_, hb4'⟩
      first | rfl | (simp; done) | (simp; omega)
end Go.Proofs.YtinphflminaijaaDoor
