import Derived.Test.YtnfikcegmicooaaDoorLwT
namespace Go.Proofs.YtnfikcegmicooaaDoor
set_option linter.unusedVariables false
set_option linter.unusedSimpArgs false
open Go.RowKit Go.Maps Go.Shelf
set_option maxRecDepth 20000 in
set_option maxHeartbeats 3200000 in
theorem wheelSteps_walk (now : Int) (a1 : Option Addr) (len1 cap1 : Nat) (xs : List Wop) (a2 : Option Addr) (len2 cap2 : Nat) (ys : List Nat) (w : World) (w0 : (Lit.int .u64 now).wf = true) (hx1 : len1 = xs.length) (hr1 : RdW w a1 xs) (hc1 : len1 ≤ 4398046511103) (hx2 : len2 = ys.length) (hr2 : RdU w a2 ys) (hc2 : len2 ≤ 17592186044416) (ht : TabZ w) :
    Calls Tryd.prog 4 #[.int .u64 now, .slice a1 len1 cap1, .slice a2 len2 cap2] w fun e w' => e = .returned (.bool true) ∧ Below w.heap.size w w' := by
  obtain ⟨x0, rfl, -⟩ := u64_of w0
  have HT : Hid _ := ht
  have HX1 : Hid _ := hx1
  have HX2 : Hid _ := hx2
  have HRD1 : Hid _ := hr1
  have HRD2 : Hid _ := hr2
  have hpos : 0 < w.heap.size := World.block_lt_of_cell? w _ (ht 0 (by decide))
  clear ht w0 hx1 hx2 hr1 hr2
  go_enter Tryd.func4, Tryd.ntmps4
  go_wp2_with fail
  refine Calls.mono (mades_t x0 a1 len1 cap1 xs w HX1.out HRD1.out hc1 HT.out) ?_
  rintro e w2 ⟨p, S, L, rfl, hm2, h2, hl2, hb2⟩
  have H2 : Hid _ := h2
  have HB2 : Hid _ := hb2
  have HM2 : Hid _ := hm2
  clear h2 hb2 hm2
  go_wp2_with fail
  refine Calls.mono (mades_t x0 a1 len1 cap1 xs w2 HX1.out (RdW.below HRD1.out HB2.out) hc1 (TabZ.below HT.out HB2.out)) ?_
  rintro e w3 ⟨q, S', L', rfl, hm3, h3, hl3, hb3⟩
  obtain ⟨hS, hL⟩ := Prod.mk.inj (hm3.symm.trans HM2.out)
  rw [hS, hL] at h3
  obtain ⟨N0, hN0⟩ : ∃ N0, N0 = min x0 mxN := ⟨_, rfl⟩
  rw [← hN0] at h3
  have h2' := H2.out
  rw [← hN0] at h2'
  obtain ⟨m, V, hp1, hp2⟩ := h2'.wt
  obtain ⟨k, U, hq1, hq2⟩ := h3.wt
  have HB3 : Hid (Below w.heap.size w w3) := below_next HB2.out hb3
  have H3 : Hid (Tw w.heap.size w3 p m N0 S L V q k N0 S L U) := ⟨hp1.below hb3, hq1, fun i h8 h9 => by have h7 := hp1.lt h8; have h6 := hq2 i h9; omega, hp2, fun i h9 => Nat.le_trans HB2.out.size (hq2 i h9), h3.tab, HB3.out.size⟩
  clear h2' hp1 hp2 hq1 hq2 h3 hm3 hS hL hl3 hb3 hN0 H2 HM2
  go_wp2_with fail
  refine Calls.mono (knows_t w3 H3.out.tab) ?_
  rintro e w4 ⟨rfl, hb4⟩
  have H4 : Hid _ := H3.out.below hb4
  have HB4 : Hid (Below w.heap.size w w4) := below_next HB3.out hb4
  clear hb4 H3 HB3 HB2
  go_wp2
  go_loopw [9, 10, 11] (fun z la i wr => ∃ (j l0 : Nat) (T : List Tm) (V1 : Nat → Nat → Value), j ≤ len2 ∧ i = .int .i64 (j : Int) ∧ la = .int .u64 (l0 : Int) ∧ AdvA L N0 l0 T ∧ OwnZ wr w.heap.size z (T.map Tm.id) ∧ Tw w.heap.size wr p m (max N0 (min l0 mxN)) S (advL L N0 l0) V1 q k N0 S L U ∧ Below w.heap.size w wr) (fun _ _ i _ => len2 - (intOf i).toNat)
  case atStart =>
    have h0 : ¬ N0 < min 0 mxN := by omega
    refine ⟨0, 0, [], V, Nat.zero_le _, rfl, rfl, by unfold AdvA; rw [if_neg h0], World.ownsRow_nil _ _ _ _, ?_, HB4.out⟩
    have e1 : max N0 (min 0 mxN) = N0 := by omega
    unfold advL
    rw [e1, if_neg h0]
    exact H4.out
  case round =>
    obtain ⟨j, l0, T, V1, hj, rfl, rfl, hA, hZ, hW, hB⟩ := hrel
    have HA : Hid _ := hA
    have HZ : Hid _ := hZ
    have HW : Hid _ := hW
    have HB : Hid _ := hB
    have hal : (advL L N0 l0).length ≤ 4398046511103 := Nat.le_trans (advL_len _ _ _) (by omega)
    clear hA hZ hW hB H4 HB4
    by_cases hlt : j < len2
    · have hj1 : j < ys.length := by rw [← HX2.out]; exact hlt
      obtain ⟨b, o, hab, hcc⟩ := HRD2.out (by omega)
      obtain ⟨hc, -⟩ := hcc j hj1
      obtain ⟨x, hxx⟩ : ∃ x, x = ys[j] := ⟨_, rfl⟩
      rw [← hxx] at hc
      subst hab
      have hbl : b < w.heap.size := World.block_lt_of_cell? w _ hc
      have c1 := (HB.out.cell (p := ⟨b, _, none⟩) hbl).trans hc
      have hbr : b < wr.heap.size := Nat.lt_of_lt_of_le hbl HB.out.size
      have HC : Hid _ := hc
      obtain ⟨l1, hl1⟩ : ∃ l1, l1 = max l0 x := ⟨_, rfl⟩
      have hmx : max (l0 : Int) (x : Int) = (l1 : Int) := by omega
      have HL1 : Hid _ := hl1
      have HMX : Hid _ := hmx
      clear hc hxx hl1 hmx hcc
      go_wp2_with fail
      refine Calls.mono (both_adv HW.out.a x hal HW.out.tab) ?_
      rintro e w5 ⟨z5, D5, V5, rfl, hD5, hz5, h5, hst5⟩
      obtain ⟨hw5, hb5⟩ := HW.out.stp h5 hst5
      obtain ⟨hc5, hc6, hc7⟩ := adv_comp HA.out hD5
      rw [hc6, hc7, ← HL1.out] at hw5
      rw [← HL1.out] at hc5
      have H5 : Hid _ := hw5
      have HB5 : Hid (Below w.heap.size w w5) := HB.out.trans hb5
      have HZ5 : Hid (OwnZ w5 w.heap.size u9 (T.map Tm.id)) := rowZ_kept HZ.out (fun y hy => hst5.chg.block y (World.ownsRow.lt HZ.out y hy).2 (fun h9 => rowZ_noW HZ.out HW.out.a hy h9))
      have HD5 : Hid _ := hz5
      have HA5 : Hid _ := hc5
      have hbd : (T.map Tm.id).length + (D5.map Tm.id).length ≤ 4398046511104 := by
        have h9 := adv_len hc5
        rw [List.length_append] at h9
        rw [List.length_map, List.length_map]
        omega
      have c5 := (HB5.out.cell (p := ⟨b, _, none⟩) hbl).trans HC.out
      clear h5 hst5 hw5 hb5 hc5 hc6 hc7 hz5 hD5 c1
      go_wp2_with (at_builtin; refine wp_appZ rfl _ _ rfl w.heap.size _ _ _ (T.map Tm.id) (D5.map Tm.id) rfl HZ5.out rfl HD5.out hbd HB5.out.size ?_; intro v6 w6 hown6 hg6; have H6 : Hid _ := H5.out.grown HZ5.out hpos hg6; have HB6 : Hid (Below w.heap.size w w6) := HB5.out.grown hg6 HB5.out.size (fun y e => (World.ownsRow.lt HZ5.out y e).1); have HO6 : Hid _ := hown6; have c6 := (HB6.out.cell (p := ⟨b, _, none⟩) hbl).trans HC.out; have hb6 : b < w6.heap.size := Nat.lt_of_lt_of_le hbl HB6.out.size; clear hown6 hg6)
      go_roundw
      case rel => exact ⟨j + 1, l1, T ++ D5, V5, hlt, by go_num, by rw [HMX.out], HA5.out, by rw [List.map_append]; exact HO6.out, H6.out, HB6.out⟩
      case measure => simp [intOf]; omega
    · have hjn : j = len2 := by omega
      go_wp2_with fail
      refine Calls.mono (both_adv HW.out.b l0 (by omega) HW.out.tab) ?_
      rintro e w5 ⟨z5, D5, V5, rfl, hD5, hz5, h5, hst5⟩
      obtain rfl := hD5.uniq HA.out
      obtain ⟨hw5, hb5⟩ := HW.out.swap.stp h5 hst5
      have H5 : Hid _ := hw5
      have HB5 : Hid (Below w.heap.size w w5) := HB.out.trans hb5
      have HZ5 : Hid (OwnZ w5 w.heap.size u9 (D5.map Tm.id)) := rowZ_kept HZ.out (fun y hy => hst5.chg.block y (World.ownsRow.lt HZ.out y hy).2 (fun h9 => rowZ_noW HZ.out HW.out.b hy h9))
      have HD5 : Hid _ := hz5
      have hbd : (D5.map Tm.id).length ≤ 9223372036854775806 := by
        have h9 := adv_len hD5
        rw [List.length_map]
        omega
      clear h5 hst5 hw5 hb5 hz5 hD5
      go_wp2_with fail
      refine Calls.mono (same_t _ z5 (D5.map Tm.id) (D5.map Tm.id) w5 (OwnZ.rd HZ5.out) (OwnZ.rd HD5.out) hbd hbd) ?_
      rintro e w6 ⟨rfl, hd6⟩
      have hdec : decide (D5.map Tm.id = D5.map Tm.id) = true := decide_eq_true rfl
      rw [hdec]
      have H6 : Hid _ := H5.out.below (hd6.below _)
      have HB6 : Hid (Below w.heap.size w w6) := below_next HB5.out (hd6.below _)
      clear hd6 hdec
      go_wp2_with fail
      refine Calls.mono (next_t H6.out.b H6.out.tab) ?_
      rintro e w7 ⟨⟨n7, b7, rfl, h7⟩, hb7⟩
      have H7 : Hid _ := H6.out.below hb7
      have HB7 : Hid (Below w.heap.size w w7) := below_next HB6.out hb7
      have HN7 : Hid _ := h7
      clear hb7 h7
      go_wp2_with fail
      refine Calls.mono (next_t H7.out.a H7.out.tab) ?_
      rintro e w8 ⟨⟨n8, b8, rfl, h8⟩, hb8⟩
      obtain ⟨rfl, rfl⟩ := h8.uniq HN7.out
      have H8 : Hid _ := H7.out.below hb8
      have HB8 : Hid (Below w.heap.size w w8) := below_next HB7.out hb8
      clear hb8 h8
      go_wp2_with (first
        | (go_at_call 13; first | (refine Calls.mono (now_t H8.out.b) ?_; rintro e w' ⟨rfl, hq⟩; have hq := hq.symm; subst hq) | (refine Calls.mono (now_t H8.out.a) ?_; rintro e w' ⟨rfl, hq⟩; have hq := hq.symm; subst hq))
        | (go_at_call 14; first | (refine Calls.mono (len_t H8.out.b) ?_; rintro e w' ⟨rfl, hq⟩; have hq := hq.symm; subst hq) | (refine Calls.mono (len_t H8.out.a) ?_; rintro e w' ⟨rfl, hq⟩; have hq := hq.symm; subst hq)))
      go_ret
      exact ⟨by simp, HB8.out⟩
end Go.Proofs.YtnfikcegmicooaaDoor
