import Derived.Test.YtdpkommmkcmifaaWrap
namespace Go.Proofs.Ytdpkommmkcmifaa
set_option linter.unusedVariables false
set_option linter.unusedSimpArgs false
open Go.RowKit
set_option maxRecDepth 20000 in
set_option maxHeartbeats 1600000 in
theorem wrap_any (st : Int) (tm sq lf : Nat) (d : List UInt8) (fa : Option Addr) (fc : Nat) (fr tt : Nat) (nw : Bool) (w : World) (hd : Rd w fa d) (hn : fa = none → fc = 0) (hst : -9223372036854775808 ≤ st ∧ st ≤ 9223372036854775807) (hb : tm < 18446744073709551616 ∧ sq < 18446744073709551616 ∧ lf < 18446744073709551616 ∧ fr < 18446744073709551616 ∧ tt < 18446744073709551616) (hdl : d.length ≤ 140737488351232) :
    Calls Try.prog 15 #[.agg #[.int .i64 st, .int .u64 (tm : Nat), .int .u64 (sq : Nat), .int .u64 (lf : Nat), .slice fa d.length fc], .int .u64 (fr : Nat), .int .u64 (tt : Nat), .bool nw] w fun e w' => WrapOut w w' (wrapS st tm sq lf d fr tt nw) e ∧ Below w.heap.size w w' := by
  by_cases hgood : (fitF st tm sq lf ∧ fr ≤ 281474976710655 ∧ tt ≤ 281474976710655) ∧ d.length ≤ 512
  · have he : wrapS st tm sq lf d fr tt nw = (wrB st tm sq lf d fr tt nw, 0) := by unfold wrapS; rw [if_neg (fun h9 => h9 hgood.1), if_neg (by omega)]
    rw [he]
    exact wrap_lo st tm sq lf d fa fc fr tt nw w hd hn hgood.1.1 hgood.1.2.1 hgood.1.2.2 hgood.2
  have HBAD : Hid (¬ ((fitF st tm sq lf ∧ fr ≤ 281474976710655 ∧ tt ≤ 281474976710655) ∧ d.length ≤ 512)) := hgood
  clear hgood
  obtain ⟨b1, b2, b3, b4, b5⟩ := hb
  obtain ⟨t1, t2⟩ := hst
  clear hd hn
  by_cases hs0 : st < 0
  · have HWS : Hid (wrapS st tm sq lf d fr tt nw = (zeroB, 1)) := by unfold Hid wrapS; rw [if_pos (by unfold fitF; omega)]
    clear HBAD
    go_enter Try.func15, Try.ntmps15
    go_wp2
    refine bodyPost_ret (results_ct rfl _ _ (w.heap.size + 1) 34 _ (0, 0) _ rfl (two_new w _ _).2 Try.underlying34 rfl (by kernel_rfl)) rfl ?_
    exact ⟨⟨zeroB, none, 0, none, 0, 1, rfl, HWS.out, RowB.nil _ _, World.ownsRow_nil _ _ _ _, (zeroB_R w).ok⟩, al (al (Below.refl _ _) _) _⟩
  by_cases hs8 : 8 ≤ st
  · have HWS : Hid (wrapS st tm sq lf d fr tt nw = (zeroB, 1)) := by unfold Hid wrapS; rw [if_pos (by unfold fitF; omega)]
    clear HBAD
    go_enter Try.func15, Try.ntmps15
    go_wp2
    refine bodyPost_ret (results_ct rfl _ _ (w.heap.size + 1) 34 _ (0, 0) _ rfl (two_new w _ _).2 Try.underlying34 rfl (by kernel_rfl)) rfl ?_
    exact ⟨⟨zeroB, none, 0, none, 0, 1, rfl, HWS.out, RowB.nil _ _, World.ownsRow_nil _ _ _ _, (zeroB_R w).ok⟩, al (al (Below.refl _ _) _) _⟩
  obtain ⟨W0, hW0⟩ : ∃ W0 : World, W0 = (w.alloc (.cells #[.int .i64 st, .int .u64 (tm : Nat), .int .u64 (sq : Nat), .int .u64 (lf : Nat), .slice fa d.length fc] 47)).alloc (.cells #[.int .u64 0, .int .u64 0, .int .u64 0, .int .u64 0, .int .u64 0, .int .u64 0, .int .u64 0, .int .u64 0, .int .u64 0, .int .u64 0, .slice none 0 0, .slice none 0 0] 34) := ⟨_, rfl⟩
  have hF : W0.heap[w.heap.size]? = some (.cells #[.int .i64 st, .int .u64 (tm : Nat), .int .u64 (sq : Nat), .int .u64 (lf : Nat), .slice fa d.length fc] 47 (0, 0)) := by rw [hW0]; exact (two_new w _ _).1
  have hR : W0.heap[w.heap.size + 1]? = some (.cells #[.int .u64 0, .int .u64 0, .int .u64 0, .int .u64 0, .int .u64 0, .int .u64 0, .int .u64 0, .int .u64 0, .int .u64 0, .int .u64 0, .slice none 0 0, .slice none 0 0] 34 (0, 0)) := by rw [hW0]; exact (two_new w _ _).2
  have hb0 : Below w.heap.size w W0 := by rw [hW0]; exact al (al (Below.refl _ _) _) _
  have HS0 : Hid (w.heap.size + 1 + 1 = W0.heap.size) := by unfold Hid; rw [hW0]; simp
  have HNUM : Hid (numsS [tm, sq, lf, fr, tt] = true → 512 < d.length ∧ fitF st tm sq lf ∧ fr ≤ 281474976710655 ∧ tt ≤ 281474976710655) := by
    intro hn
    unfold numsS at hn
    simp at hn
    have h2 : fitF st tm sq lf ∧ fr ≤ 281474976710655 ∧ tt ≤ 281474976710655 := by unfold fitF; omega
    have h3 : ¬ d.length ≤ 512 := fun h => HBAD.out ⟨h2, h⟩
    exact ⟨by omega, h2⟩
  have HNOT : Hid (numsS [tm, sq, lf, fr, tt] = false → ¬ (fitF st tm sq lf ∧ fr ≤ 281474976710655 ∧ tt ≤ 281474976710655)) := by
    intro hn h
    unfold fitF at h
    unfold numsS at hn
    simp at hn
    omega
  go_enter Try.func15, Try.ntmps15
  go_wp2_with fail
  rw [← hW0]
  clear hW0
  obtain ⟨W1, hW1⟩ : ∃ W1 : World, W1 = W0.alloc (.cells #[.int .u64 (tm : Nat), .int .u64 (sq : Nat), .int .u64 (lf : Nat), .int .u64 (fr : Nat), .int .u64 (tt : Nat)] 22) := ⟨_, rfl⟩
  rw [← hW1]
  have hb1 : Below W0.heap.size W0 W1 := by rw [hW1]; exact al (Below.refl _ _) _
  have hU : RdU W1 (some ⟨w.heap.size + 1 + 1, 0, none⟩) [tm, sq, lf, fr, tt] := by rw [hW1]; exact rdu_new W0 _ HS0.out _ _ _ _ rfl
  clear hW1
  refine (numbers_any _ 5 5 [tm, sq, lf, fr, tt] W1 rfl hU (by simp)).mono ?_
  rintro e w1 ⟨rfl, hbe⟩
  have hbn : Below W1.heap.size W1 w1 := by rw [hbe]; exact Below.refl _ _
  clear hbe
  have hbw := below_next hb0 (below_next hb1 hbn)
  have hF1 := box_on (box_on hF hb1) hbn
  have hR1 := box_on (box_on hR hb1) hbn
  obtain ⟨k0, k1, k2, k3, k4, k5, k6, k7, k8, k9, k10, k11, kz0, kz1, kz2, kz3, kz4, kz5, kz6, kz7, kz8, kz9, kz10, kz11⟩ := cells12 hR1
  obtain ⟨f0, f1, f2, f3, f4, -⟩ := cells5W hF1
  clear hF hR hU hb1 hbn
  rcases hnum : numsS [tm, sq, lf, fr, tt] with _ | _
  · have HWS : Hid (wrapS st tm sq lf d fr tt nw = (zeroB, 1)) := by unfold Hid wrapS; rw [if_pos (HNOT.out hnum)]
    clear hnum HNOT HNUM HBAD
    go_wp2
    have hfin := heap_set12 (v0 := .int .u64 0) (v1 := .int .u64 0) (v2 := .int .u64 0) (v3 := .int .u64 0) (v4 := .int .u64 0) (v5 := .int .u64 0) (v6 := .int .u64 0) (v7 := .int .u64 0) (v8 := .int .u64 0) (v9 := .int .u64 0) (v10 := .slice none 0 0) (v11 := .slice none 0 0) hR1
    refine bodyPost_ret (results_ct rfl _ _ (w.heap.size + 1) 34 _ (0, 0) _ rfl hfin Try.underlying34 rfl (by kernel_rfl)) rfl ?_
    exact ⟨⟨zeroB, none, 0, none, 0, 1, rfl, HWS.out, RowB.nil _ _, World.ownsRow_nil _ _ _ _, (zeroB_R w).ok⟩, below_set12 hbw (by simp)⟩
  · obtain ⟨h512, hfit⟩ := HNUM.out hnum
    have HWS : Hid (wrapS st tm sq lf d fr tt nw = (zeroB, 81)) := by unfold Hid wrapS; rw [if_neg (fun h9 => h9 hfit), if_pos h512]
    have hdI : (512 : Int) < (d.length : Int) := by omega
    clear hnum HNOT HNUM HBAD hfit
    go_wp2
    have hfin := heap_set12 (v0 := .int .u64 0) (v1 := .int .u64 0) (v2 := .int .u64 0) (v3 := .int .u64 0) (v4 := .int .u64 0) (v5 := .int .u64 0) (v6 := .int .u64 0) (v7 := .int .u64 0) (v8 := .int .u64 0) (v9 := .int .u64 0) (v10 := .slice none 0 0) (v11 := .slice none 0 0) hR1
    refine bodyPost_ret (results_ct rfl _ _ (w.heap.size + 1) 34 _ (0, 0) _ rfl hfin Try.underlying34 rfl (by kernel_rfl)) rfl ?_
    exact ⟨⟨zeroB, none, 0, none, 0, 81, rfl, HWS.out, RowB.nil _ _, World.ownsRow_nil _ _ _ _, (zeroB_R w).ok⟩, below_set12 hbw (by simp)⟩
end Go.Proofs.Ytdpkommmkcmifaa
