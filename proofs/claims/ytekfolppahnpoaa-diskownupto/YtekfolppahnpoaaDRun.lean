import Derived.Test.YtekfolppahnpoaaDStep
namespace Go.Proofs.Ytekfolppahnpoaa
set_option linter.unusedVariables false
set_option linter.unusedSimpArgs false
open Go.RowKit Go.Maps
/-- a script in memory -/
def RdSt (W : World) (a : Option Addr) (xs : List Stp) : Prop := ∀ k (hk : k < xs.length), ∃ b o ca cc, a = some ⟨b, o, none⟩ ∧ W.rangeAt b (o + k * 3) [.int .i64 xs[k].op, .int .i64 xs[k].at_, .slice ca xs[k].cs.length cc] ∧ Ints W ca xs[k].cs ∧ (-9223372036854775808 ≤ xs[k].at_ ∧ xs[k].at_ ≤ 9223372036854775807)
theorem info_step : (Try.prog.info? 52).map (fun i => (i.zero, i.size)) = some (some (.agg #[.int .i64 0, .int .i64 0, .slice none 0 0]), 3) := by kernel_rfl
theorem Step.of_below {p g m : Nat} {V : Nat → Value} {w w' : World} (h : Below w.heap.size w w') : Step p g m V V w w' := ⟨Chg.of_below h, fun _ h => .inl h⟩
theorem Ints.below {w w' : World} {a : Option Addr} {xs : List Int} (h : Ints w a xs) (hb : Below w.heap.size w w') : Ints w' a xs := h.chg (F := fun _ => False) (Chg.of_below hb) (fun _ _ hf => hf)
theorem Ints.lt {w : World} {a : Option Addr} {xs : List Int} (h : Ints w a xs) (h0 : 0 < xs.length) : ∀ q, a = some q → q.block < w.heap.size := by
  intro q hq
  obtain ⟨b, o, rfl, hc⟩ := h 0 h0
  cases hq
  exact World.block_lt_of_cell? w _ hc
set_option maxRecDepth 20000 in
set_option maxHeartbeats 800000 in
theorem run_t (p g m : Nat) (d : Dst) (V : Nat → Value) (n : Nat) (a : Option Addr) (cap : Nat) (xs : List Stp) (most : Int) (W w : World) (h : DS w p g m d V n) (hn : n + xs.length ≤ 1099511627776) (hx : RdSt W a xs) (hW : Below W.heap.size W w) (hF : ∀ b, foot p g m V b → W.heap.size ≤ b) :
    Calls Try.prog 6 #[.pointer (some ⟨p, 0, none⟩), .slice a xs.length cap, .int .i64 most] w fun e w' => e = .returned (.int .i64 ((runS most 0 0 d xs).2 : Nat)) ∧ ∃ V', DS w' p g m (runS most 0 0 d xs).1 V' (n + xs.length) ∧ Step p g m V V' w w' := by
  obtain ⟨R, hR⟩ : ∃ R : Dst × Nat, R = runS most 0 0 d xs := ⟨_, rfl⟩
  rw [← hR]
  have HD : Hid _ := h
  have HX : Hid _ := hx
  have HW : Hid _ := hW
  have HF : Hid _ := hF
  clear h hx hW hF
  go_enter Try.func6, Try.ntmps6
  go_wp2_with fail
  go_loopw [7, 8, 9, 10, 28, 42, 46] (fun dn i _ _ _ _ _ wr => ∃ (k j : Nat) (d' : Dst) (V' : Nat → Value), k ≤ xs.length ∧ j ≤ k ∧ i = .int .i64 (k : Int) ∧ dn = .int .i64 (j : Int) ∧ runS most k j d' (xs.drop k) = R ∧ DS wr p g m d' V' (n + k) ∧ Step p g m V V' w wr) (fun _ i _ _ _ _ _ _ => xs.length - (intOf i).toNat)
  case atStart => exact ⟨0, 0, d, V, Nat.zero_le _, Nat.le_refl _, rfl, rfl, hR.symm, HD.out, Step.refl _ _ _ _ _⟩
  case round =>
    obtain ⟨k, j, d', V', hk, hj, rfl, rfl, hrun, hdk, hst⟩ := hrel
    have HDk : Hid _ := hdk
    have HSt : Hid _ := hst
    clear hdk hst hR
    by_cases hlt : k < xs.length
    · rw [List.drop_eq_getElem_cons hlt] at hrun
      unfold runS at hrun
      by_cases hm : (j : Int) < most
      · rw [if_pos hm] at hrun
        obtain ⟨b, o, ca, cc, rfl, hrg, hin, hat⟩ := HX.out k hlt
        obtain ⟨s, hs⟩ : ∃ s : Stp, s = xs[k] := ⟨_, rfl⟩
        rw [← hs] at hrun hrg hin hat
        have hbw : Below W.heap.size W wr := Below.trans HW.out ((Step.chg HSt.out).below HF.out (Below.size HW.out))
        have hrgr : wr.rangeAt b (o + k * 3) [.int .i64 s.op, .int .i64 s.at_, .slice ca s.cs.length cc] := rangeAt_below hrg hbw
        have HRg : Hid _ := hrgr
        have hz := (zero_of_info info_step).1
        have hk0 : (0 : Int) ≤ (k : Int) := by omega
        have hk1 : (k : Int) < (xs.length : Int) := by omega
        have hkw : IntKind.i64.wrap ((k : Int) + 1) = ((k + 1 : Nat) : Int) := by rw [IntKind.wrap_i64]; omega
        have hjw : IntKind.i64.wrap ((j : Int) + 1) = ((j + 1 : Nat) : Int) := by rw [IntKind.wrap_i64]; omega
        have HRun : Hid _ := hrun
        have HIn : Hid _ := hin
        have HAt : Hid _ := hat
        obtain ⟨q, t, cs⟩ := s
        obtain ⟨L, hL⟩ : ∃ L : Nat, L = wr.heap.size := ⟨_, rfl⟩
        obtain ⟨X, hX⟩ : ∃ X : World, X = wr.alloc (.cells #[.int .i64 q, .int .i64 t, .slice ca cs.length cc] 52) := ⟨_, rfl⟩
        have hXr : X.heap[L]? = some (.cells #[.int .i64 q, .int .i64 t, .slice ca cs.length cc] 52 (0, 0)) := by rw [hX, hL]; exact heap_alloc_new wr _
        have hXb : Below wr.heap.size wr X := by rw [hX]; exact al (Below.refl _ _) _
        have hXc : X.cell? ⟨L, 1, none⟩ = some (.int .i64 t) := by rw [cell_of_row _ _ 1 _ _ _ hXr]; rfl
        have hXd : X.cell? ⟨L, 2, none⟩ = some (.slice ca cs.length cc) := by rw [cell_of_row _ _ 2 _ _ _ hXr]; rfl
        have hLX : L < X.heap.size := (Array.getElem?_eq_some_iff.1 hXr).1
        have HDX : Hid (DS X p g m d' V' (n + k)) := DK.below HDk.out hXb
        have HLf : Hid (∀ b, foot p g m V' b → b ≠ L) := fun b hb e => by subst e; have := DK.lt HDk.out hb; omega
        have HSX : Hid (Step p g m V V' w X) := Step.trans HSt.out (Step.of_below hXb)
        have hWX : Below W.heap.size W X := hbw.trans (hXb.mono hbw.size)
        have HCH : Hid (Ints X ca cs) := (Ints.below HIn.out hWX)
        have HCN : Hid (0 < cs.length → ∀ y, ca = some y → y.block ≠ p ∧ y.block ≠ g ∧ y.block ≠ m) := by
          intro h9 y hy
          have h10 := Ints.lt HIn.out h9 y hy
          have h11 : ∀ b, foot p g m V' b → W.heap.size ≤ b := fun b hb => by
            rcases Step.new HSt.out b hb with h12 | h12
            · exact HF.out b h12
            · exact Nat.le_trans (Below.size HW.out) h12
          have a1 := h11 p (.inl rfl)
          have a2 := h11 g (.inr (.inl rfl))
          have a3 := h11 m (.inr (.inr (.inl rfl)))
          omega
        clear hrun hs hrg hrgr hin hat hXr hXb hWX hbw
        by_cases c0 : q = 0
        · subst c0
          have hdS : 1 ≤ d'.S.length := DK.one HDX.out
          have hdM : d'.S.length ≤ 65536 := DK.most HDX.out
          obtain ⟨N, hN⟩ : ∃ N : Nat, N = d'.S.length := ⟨_, rfl⟩
          obtain ⟨K, hK⟩ : ∃ K : Nat, K = N - 1 := ⟨_, rfl⟩
          have hKw : IntKind.i64.wrap ((N : Int) - 1) = (K : Int) := by rw [IntKind.wrap_i64]; omega
          obtain ⟨z, hz9⟩ : ∃ z : Nat, z = spanS t 0 K := ⟨_, rfl⟩
          have hzK := (spanS_in t 0 K (Nat.zero_le _)).2
          rw [← hz9] at hzK
          have hstep : d'.step k ⟨0, t, cs⟩ = d'.write z (fillS (k + 1)) := by
            unfold Dst.step
            simp only [← hN, ← hK, ← hz9]
            simp
          rw [hstep] at HRun
          have hdid : d'.did ⟨0, t, cs⟩ = if d'.can then 1 else 0 := by unfold Dst.did; simp
          rw [hdid] at HRun
          have HSE : Hid (∀ u, Below X.heap.size X u → Calls Try.prog 17 #[.pointer (some ⟨p, 0, none⟩)] u fun e w' => e = .returned (.int .i64 (N : Int)) ∧ w' = u) := fun u hu => by
            have h9 := sectors_t p _ d'.S.length d'.S.length u (by rw [cell_of_row _ _ 0 _ _ _ (DK.below HDX.out hu).hp]; rfl)
            rw [← hN] at h9
            exact h9
          have HSP : Hid (∀ u, Calls Try.prog 4 #[.int .i64 t, .int .i64 0, .int .i64 (K : Int)] u fun e w' => e = .returned (.int .i64 (z : Int)) ∧ w' = u) := fun u => by rw [hz9]; exact span_t t 0 K u HAt.out.1 HAt.out.2 (Nat.zero_le _) (by omega)
          obtain ⟨F, hF9⟩ : ∃ F : List UInt8, F = fillS (k + 1) := ⟨_, rfl⟩
          rw [← hF9] at HRun
          have HFI : Hid (∀ u, Calls Try.prog 18 #[.int .i64 ((k + 1 : Nat) : Int)] u fun e w' => ∃ g1, e = .returned (.slice (some ⟨g1, 0, none⟩) 128 128) ∧ u.heap.size ≤ g1 ∧ w'.heap[g1]? = some (.cells (bv F).toArray 5 (0, 0)) ∧ Below u.heap.size u w') := fun u => by rw [hF9]; exact fill_t (k + 1) u (by omega)
          obtain ⟨E, hE⟩ : ∃ E : Int, E = if d'.can then 0 else 5 := ⟨_, rfl⟩
          have HWR : Hid (∀ u g1, Below X.heap.size X u → u.heap[g1]? = some (.cells (bv F).toArray 5 (0, 0)) → Calls Try.prog 16 #[.pointer (some ⟨p, 0, none⟩), .int .i64 (z : Int), .slice (some ⟨g1, 0, none⟩) 128 128] u fun e w' => e = .returned (.int .i64 E) ∧ ∃ V9, DS w' p g m (d'.write z F) V9 (n + k + 1) ∧ Step p g m V' V9 u w') := by
            intro u g1 hu hr9
            rw [hE]
            exact write_all p g m z d' V' (n + k) (some ⟨g1, 0, none⟩) 128 F u (DK.below HDX.out hu) (by omega) (by omega) (rd_row hr9) (by rw [hF9]; exact fillS_len _) (fun y hy => by cases hy; exact fun e => (DK.below HDX.out hu).not5 (.inl e) hr9)
          have HE : Hid _ := hE
          clear hN hK hz9 hF9 hstep hdid hE
          go_wp2_with (first
            | (refine wpList_load_mid rfl 52 _ rfl b (o + k * 3) (by rfl) [.int .i64 0, .int .i64 t, .slice ca cs.length cc] _ HRg.out Try.underlying52 rfl (by rw [(zero_of_info info_step).2]; rfl) ?_))
          rw [← hX, ← hL]
          clear hX hL
          refine wp_region_noPanic ?_
          refine wp_region_held_drew (S := (fun u => u.cell? ⟨L, 1, none⟩ = some (.int .i64 t))) (by kernel_rfl) (by first | exact hXc | exact (hb1.cell (p := ⟨L, 1, none⟩) hLX).trans hXc | exact hc4) (fun hHeld => ?_)
          refine take_at (i := 0) 31 (v := ?_) rfl rfl (by kernel_rfl) (by kernel_rfl) (by kernel_rfl) (fun _ _ _ h => h) (by rfl) ?_ hHeld ?_
          rotate_left
          · (intro w hSw; (try dsimp only at hSw); go_simp; try with_reducible rfl)
          simp only [Act.put, List.setIfInBounds_toArray, List.set_cons_zero, List.set_cons_succ]
          refine take_at (i := 1) 32 (v := ?_) rfl rfl (by kernel_rfl) (by kernel_rfl) (by kernel_rfl) (fun _ _ _ h => h) (by rfl) ?_ hHeld ?_
          rotate_left
          · (intro w hSw; (try dsimp only at hSw); go_simp; try with_reducible rfl)
          simp only [Act.put, List.setIfInBounds_toArray, List.set_cons_zero, List.set_cons_succ]
          refine take_at (i := 2) 33 (v := ?_) rfl rfl (by kernel_rfl) (by kernel_rfl) (by kernel_rfl) (fun _ _ _ h => h) (by rfl) ?_ hHeld ?_
          rotate_left
          · (intro w hSw; (try dsimp only at hSw); go_simp; try with_reducible rfl)
          simp only [Act.put, List.setIfInBounds_toArray, List.set_cons_zero, List.set_cons_succ]
          refine take_at (i := 3) 34 (v := ?_) rfl rfl (by kernel_rfl) (by kernel_rfl) (by kernel_rfl) (fun _ _ _ h => h) (by rfl) ?_ hHeld ?_
          rotate_left
          · (intro w hSw; (try dsimp only at hSw); go_simp; try with_reducible rfl)
          simp only [Act.put, List.setIfInBounds_toArray, List.set_cons_zero, List.set_cons_succ]
          refine take_at (i := 7) 38 (v := ?_) rfl rfl (by kernel_rfl) (by kernel_rfl) (by kernel_rfl) (fun _ _ _ h => h) (by rfl) ?_ hHeld ?_
          rotate_left
          · (intro w hSw; (try dsimp only at hSw); go_simp; try with_reducible rfl)
          simp only [Act.put, List.setIfInBounds_toArray, List.set_cons_zero, List.set_cons_succ]
          refine take_at (i := 8) 39 (v := ?_) rfl rfl (by kernel_rfl) (by kernel_rfl) (by kernel_rfl) (fun _ _ _ h => h) (by rfl) ?_ hHeld ?_
          rotate_left
          · (intro w hSw; (try dsimp only at hSw); go_simp; try with_reducible rfl)
          simp only [Act.put, List.setIfInBounds_toArray, List.set_cons_zero, List.set_cons_succ]
          refine run_at (i := 4) rfl (by kernel_rfl) (by rfl) (fun K hK => ?_)
          simp only [List.getElem_toArray, List.getElem_cons_zero, List.getElem_cons_succ]
          go_simp
          first | (go_at_call 17; refine (HSE.out _ (Below.refl _ _).drew).mono ?_; rintro e y1 ⟨rfl, hq1⟩; have hq1 := hq1.symm; subst hq1) | (go_at_call 4; refine (HSP.out _).mono ?_; rintro e y2 ⟨rfl, hq2⟩; have hq2 := hq2.symm; subst hq2) | (go_at_call 18; refine (HFI.out _).mono ?_; rintro e y3 ⟨g1, rfl, hg1, hrow1, hb1'⟩; have hb1 : Below X.heap.size X y3 := below_next (Below.refl _ _).drew hb1') | (go_at_call 16; refine (HWR.out _ g1 hb1 hrow1).mono ?_; rintro e y4 ⟨rfl, V4, hdk4, hst4⟩; have hc4 : y4.cell? ⟨L, 1, none⟩ = some (.int .i64 t) := (World.cell?_of_block (hst4.chg.block L (Nat.lt_of_lt_of_le hLX hb1.size) (fun hf => HLf.out L hf rfl))).trans ((hb1.cell (p := ⟨L, 1, none⟩) hLX).trans hXc))
          go_wp2_with fail
          refine hK.out _ _ (by first | exact hXc | exact (hb1.cell (p := ⟨L, 1, none⟩) hLX).trans hXc | exact hc4) ?_
          clear hK K
          intro hHeld2
          clear hHeld
          have hHeld := hHeld2
          clear hHeld2
          try simp only [Act.put, List.setIfInBounds_toArray, List.set_cons_zero, List.set_cons_succ]
          refine take_at (i := 5) 36 (v := ?_) rfl rfl (by kernel_rfl) (by kernel_rfl) (by kernel_rfl) (fun _ _ _ h => h) (by rfl) ?_ hHeld ?_
          rotate_left
          · (intro w hSw; (try dsimp only at hSw); go_simp; try with_reducible rfl)
          simp only [Act.put, List.setIfInBounds_toArray, List.set_cons_zero, List.set_cons_succ]
          refine run_at (i := 6) rfl (by kernel_rfl) (by rfl) (fun K hK => ?_)
          simp only [List.getElem_toArray, List.getElem_cons_zero, List.getElem_cons_succ]
          go_simp
          first | (go_at_call 17; refine (HSE.out _ (Below.refl _ _).drew).mono ?_; rintro e y1 ⟨rfl, hq1⟩; have hq1 := hq1.symm; subst hq1) | (go_at_call 4; refine (HSP.out _).mono ?_; rintro e y2 ⟨rfl, hq2⟩; have hq2 := hq2.symm; subst hq2) | (go_at_call 18; refine (HFI.out _).mono ?_; rintro e y3 ⟨g1, rfl, hg1, hrow1, hb1'⟩; have hb1 : Below X.heap.size X y3 := below_next (Below.refl _ _).drew hb1') | (go_at_call 16; refine (HWR.out _ g1 hb1 hrow1).mono ?_; rintro e y4 ⟨rfl, V4, hdk4, hst4⟩; have hc4 : y4.cell? ⟨L, 1, none⟩ = some (.int .i64 t) := (World.cell?_of_block (hst4.chg.block L (Nat.lt_of_lt_of_le hLX hb1.size) (fun hf => HLf.out L hf rfl))).trans ((hb1.cell (p := ⟨L, 1, none⟩) hLX).trans hXc))
          go_wp2_with fail
          refine hK.out _ _ (by first | exact hXc | exact (hb1.cell (p := ⟨L, 1, none⟩) hLX).trans hXc | exact hc4) ?_
          clear hK K
          intro hHeld2
          clear hHeld
          have hHeld := hHeld2
          clear hHeld2
          try simp only [Act.put, List.setIfInBounds_toArray, List.set_cons_zero, List.set_cons_succ]
          refine run_at (i := 9) rfl (by kernel_rfl) (by rfl) (fun K hK => ?_)
          simp only [List.getElem_toArray, List.getElem_cons_zero, List.getElem_cons_succ]
          go_simp
          first | (go_at_call 17; refine (HSE.out _ (Below.refl _ _).drew).mono ?_; rintro e y1 ⟨rfl, hq1⟩; have hq1 := hq1.symm; subst hq1) | (go_at_call 4; refine (HSP.out _).mono ?_; rintro e y2 ⟨rfl, hq2⟩; have hq2 := hq2.symm; subst hq2) | (go_at_call 18; refine (HFI.out _).mono ?_; rintro e y3 ⟨g1, rfl, hg1, hrow1, hb1'⟩; have hb1 : Below X.heap.size X y3 := below_next (Below.refl _ _).drew hb1') | (go_at_call 16; refine (HWR.out _ g1 hb1 hrow1).mono ?_; rintro e y4 ⟨rfl, V4, hdk4, hst4⟩; have hc4 : y4.cell? ⟨L, 1, none⟩ = some (.int .i64 t) := (World.cell?_of_block (hst4.chg.block L (Nat.lt_of_lt_of_le hLX hb1.size) (fun hf => HLf.out L hf rfl))).trans ((hb1.cell (p := ⟨L, 1, none⟩) hLX).trans hXc))
          go_wp2_with fail
          refine hK.out _ _ (by first | exact hXc | exact (hb1.cell (p := ⟨L, 1, none⟩) hLX).trans hXc | exact hc4) ?_
          clear hK K
          intro hHeld2
          clear hHeld
          have hHeld := hHeld2
          clear hHeld2
          try simp only [Act.put, List.setIfInBounds_toArray, List.set_cons_zero, List.set_cons_succ]
          refine run_at (i := 10) rfl (by kernel_rfl) (by rfl) (fun K hK => ?_)
          simp only [List.getElem_toArray, List.getElem_cons_zero, List.getElem_cons_succ]
          go_simp
          first | (go_at_call 17; refine (HSE.out _ (Below.refl _ _).drew).mono ?_; rintro e y1 ⟨rfl, hq1⟩; have hq1 := hq1.symm; subst hq1) | (go_at_call 4; refine (HSP.out _).mono ?_; rintro e y2 ⟨rfl, hq2⟩; have hq2 := hq2.symm; subst hq2) | (go_at_call 18; refine (HFI.out _).mono ?_; rintro e y3 ⟨g1, rfl, hg1, hrow1, hb1'⟩; have hb1 : Below X.heap.size X y3 := below_next (Below.refl _ _).drew hb1') | (go_at_call 16; refine (HWR.out _ g1 hb1 hrow1).mono ?_; rintro e y4 ⟨rfl, V4, hdk4, hst4⟩; have hc4 : y4.cell? ⟨L, 1, none⟩ = some (.int .i64 t) := (World.cell?_of_block (hst4.chg.block L (Nat.lt_of_lt_of_le hLX hb1.size) (fun hf => HLf.out L hf rfl))).trans ((hb1.cell (p := ⟨L, 1, none⟩) hLX).trans hXc))
          go_wp2_with fail
          refine hK.out _ _ (by first | exact hXc | exact (hb1.cell (p := ⟨L, 1, none⟩) hLX).trans hXc | exact hc4) ?_
          clear hK K
          intro hHeld2
          clear hHeld
          have hHeld := hHeld2
          clear hHeld2
          try simp only [Act.put, List.setIfInBounds_toArray, List.set_cons_zero, List.set_cons_succ]
          refine take_at (i := 11) 10 (v := ?_) rfl rfl (by kernel_rfl) (by kernel_rfl) (by kernel_rfl) (fun _ _ _ h => h) (by rfl) ?_ hHeld ?_
          rotate_left
          · (intro w hSw; (try dsimp only at hSw); go_simp; try with_reducible rfl)
          simp only [Act.put, List.setIfInBounds_toArray, List.set_cons_zero, List.set_cons_succ]
          refine wpAnyH_done (by kernel_rfl) ?_ _
          refine NoPanic.normal ?_
          have HD4 : Hid _ := hdk4
          have HS4 : Hid _ := Step.trans (Step.trans HSX.out (Step.of_below hb1)) hst4
          clear hdk4 hst4
          have hE := HE.out
          clear HE
          cases hcan : d'.can
          all_goals
            rw [hcan] at hE HRun
            simp only [if_true, Bool.false_eq_true, if_false] at hE HRun
            subst hE
            go_wp2
            go_roundw
            case rel => exact ⟨k + 1, _, _, V4, by omega, by omega, by go_num, by go_num, HRun.out, HD4.out, HS4.out⟩
            case measure => simp [intOf]; omega
        by_cases c1 : q = 1
        · subst c1
          have hdS : 1 ≤ d'.S.length := DK.one HDX.out
          have hdM : d'.S.length ≤ 65536 := DK.most HDX.out
          obtain ⟨N, hN⟩ : ∃ N : Nat, N = d'.S.length := ⟨_, rfl⟩
          obtain ⟨K, hK⟩ : ∃ K : Nat, K = N - 1 := ⟨_, rfl⟩
          have hKw : IntKind.i64.wrap ((N : Int) - 1) = (K : Int) := by rw [IntKind.wrap_i64]; omega
          obtain ⟨z, hz9⟩ : ∃ z : Nat, z = spanS t 0 K := ⟨_, rfl⟩
          have hzK := (spanS_in t 0 K (Nat.zero_le _)).2
          rw [← hz9] at hzK
          have hstep : d'.step k ⟨1, t, cs⟩ = d'.write z (fillS (k + 1)) := by
            unfold Dst.step
            simp only [← hN, ← hK, ← hz9]
            simp
          rw [hstep] at HRun
          have hdid : d'.did ⟨1, t, cs⟩ = if d'.can then 1 else 0 := by unfold Dst.did; simp
          rw [hdid] at HRun
          have HSE : Hid (∀ u, Below X.heap.size X u → Calls Try.prog 17 #[.pointer (some ⟨p, 0, none⟩)] u fun e w' => e = .returned (.int .i64 (N : Int)) ∧ w' = u) := fun u hu => by
            have h9 := sectors_t p _ d'.S.length d'.S.length u (by rw [cell_of_row _ _ 0 _ _ _ (DK.below HDX.out hu).hp]; rfl)
            rw [← hN] at h9
            exact h9
          have HSP : Hid (∀ u, Calls Try.prog 4 #[.int .i64 t, .int .i64 0, .int .i64 (K : Int)] u fun e w' => e = .returned (.int .i64 (z : Int)) ∧ w' = u) := fun u => by rw [hz9]; exact span_t t 0 K u HAt.out.1 HAt.out.2 (Nat.zero_le _) (by omega)
          obtain ⟨F, hF9⟩ : ∃ F : List UInt8, F = fillS (k + 1) := ⟨_, rfl⟩
          rw [← hF9] at HRun
          have HFI : Hid (∀ u, Calls Try.prog 18 #[.int .i64 ((k + 1 : Nat) : Int)] u fun e w' => ∃ g1, e = .returned (.slice (some ⟨g1, 0, none⟩) 128 128) ∧ u.heap.size ≤ g1 ∧ w'.heap[g1]? = some (.cells (bv F).toArray 5 (0, 0)) ∧ Below u.heap.size u w') := fun u => by rw [hF9]; exact fill_t (k + 1) u (by omega)
          obtain ⟨E, hE⟩ : ∃ E : Int, E = if d'.can then 0 else 5 := ⟨_, rfl⟩
          have HWR : Hid (∀ u g1, Below X.heap.size X u → u.heap[g1]? = some (.cells (bv F).toArray 5 (0, 0)) → Calls Try.prog 16 #[.pointer (some ⟨p, 0, none⟩), .int .i64 (z : Int), .slice (some ⟨g1, 0, none⟩) 128 128] u fun e w' => e = .returned (.int .i64 E) ∧ ∃ V9, DS w' p g m (d'.write z F) V9 (n + k + 1) ∧ Step p g m V' V9 u w') := by
            intro u g1 hu hr9
            rw [hE]
            exact write_all p g m z d' V' (n + k) (some ⟨g1, 0, none⟩) 128 F u (DK.below HDX.out hu) (by omega) (by omega) (rd_row hr9) (by rw [hF9]; exact fillS_len _) (fun y hy => by cases hy; exact fun e => (DK.below HDX.out hu).not5 (.inl e) hr9)
          have HE : Hid _ := hE
          clear hN hK hz9 hF9 hstep hdid hE
          go_wp2_with (first
            | (refine wpList_load_mid rfl 52 _ rfl b (o + k * 3) (by rfl) [.int .i64 1, .int .i64 t, .slice ca cs.length cc] _ HRg.out Try.underlying52 rfl (by rw [(zero_of_info info_step).2]; rfl) ?_))
          rw [← hX, ← hL]
          clear hX hL
          refine wp_region_noPanic ?_
          refine wp_region_held_drew (S := (fun u => u.cell? ⟨L, 1, none⟩ = some (.int .i64 t))) (by kernel_rfl) (by first | exact hXc | exact (hb1.cell (p := ⟨L, 1, none⟩) hLX).trans hXc | exact hc4) (fun hHeld => ?_)
          refine take_at (i := 0) 31 (v := ?_) rfl rfl (by kernel_rfl) (by kernel_rfl) (by kernel_rfl) (fun _ _ _ h => h) (by rfl) ?_ hHeld ?_
          rotate_left
          · (intro w hSw; (try dsimp only at hSw); go_simp; try with_reducible rfl)
          simp only [Act.put, List.setIfInBounds_toArray, List.set_cons_zero, List.set_cons_succ]
          refine take_at (i := 1) 32 (v := ?_) rfl rfl (by kernel_rfl) (by kernel_rfl) (by kernel_rfl) (fun _ _ _ h => h) (by rfl) ?_ hHeld ?_
          rotate_left
          · (intro w hSw; (try dsimp only at hSw); go_simp; try with_reducible rfl)
          simp only [Act.put, List.setIfInBounds_toArray, List.set_cons_zero, List.set_cons_succ]
          refine take_at (i := 2) 33 (v := ?_) rfl rfl (by kernel_rfl) (by kernel_rfl) (by kernel_rfl) (fun _ _ _ h => h) (by rfl) ?_ hHeld ?_
          rotate_left
          · (intro w hSw; (try dsimp only at hSw); go_simp; try with_reducible rfl)
          simp only [Act.put, List.setIfInBounds_toArray, List.set_cons_zero, List.set_cons_succ]
          refine take_at (i := 3) 34 (v := ?_) rfl rfl (by kernel_rfl) (by kernel_rfl) (by kernel_rfl) (fun _ _ _ h => h) (by rfl) ?_ hHeld ?_
          rotate_left
          · (intro w hSw; (try dsimp only at hSw); go_simp; try with_reducible rfl)
          simp only [Act.put, List.setIfInBounds_toArray, List.set_cons_zero, List.set_cons_succ]
          refine take_at (i := 7) 38 (v := ?_) rfl rfl (by kernel_rfl) (by kernel_rfl) (by kernel_rfl) (fun _ _ _ h => h) (by rfl) ?_ hHeld ?_
          rotate_left
          · (intro w hSw; (try dsimp only at hSw); go_simp; try with_reducible rfl)
          simp only [Act.put, List.setIfInBounds_toArray, List.set_cons_zero, List.set_cons_succ]
          refine take_at (i := 8) 39 (v := ?_) rfl rfl (by kernel_rfl) (by kernel_rfl) (by kernel_rfl) (fun _ _ _ h => h) (by rfl) ?_ hHeld ?_
          rotate_left
          · (intro w hSw; (try dsimp only at hSw); go_simp; try with_reducible rfl)
          simp only [Act.put, List.setIfInBounds_toArray, List.set_cons_zero, List.set_cons_succ]
          refine run_at (i := 4) rfl (by kernel_rfl) (by rfl) (fun K hK => ?_)
          simp only [List.getElem_toArray, List.getElem_cons_zero, List.getElem_cons_succ]
          go_simp
          first | (go_at_call 17; refine (HSE.out _ (Below.refl _ _).drew).mono ?_; rintro e y1 ⟨rfl, hq1⟩; have hq1 := hq1.symm; subst hq1) | (go_at_call 4; refine (HSP.out _).mono ?_; rintro e y2 ⟨rfl, hq2⟩; have hq2 := hq2.symm; subst hq2) | (go_at_call 18; refine (HFI.out _).mono ?_; rintro e y3 ⟨g1, rfl, hg1, hrow1, hb1'⟩; have hb1 : Below X.heap.size X y3 := below_next (Below.refl _ _).drew hb1') | (go_at_call 16; refine (HWR.out _ g1 hb1 hrow1).mono ?_; rintro e y4 ⟨rfl, V4, hdk4, hst4⟩; have hc4 : y4.cell? ⟨L, 1, none⟩ = some (.int .i64 t) := (World.cell?_of_block (hst4.chg.block L (Nat.lt_of_lt_of_le hLX hb1.size) (fun hf => HLf.out L hf rfl))).trans ((hb1.cell (p := ⟨L, 1, none⟩) hLX).trans hXc))
          go_wp2_with fail
          refine hK.out _ _ (by first | exact hXc | exact (hb1.cell (p := ⟨L, 1, none⟩) hLX).trans hXc | exact hc4) ?_
          clear hK K
          intro hHeld2
          clear hHeld
          have hHeld := hHeld2
          clear hHeld2
          try simp only [Act.put, List.setIfInBounds_toArray, List.set_cons_zero, List.set_cons_succ]
          refine take_at (i := 5) 36 (v := ?_) rfl rfl (by kernel_rfl) (by kernel_rfl) (by kernel_rfl) (fun _ _ _ h => h) (by rfl) ?_ hHeld ?_
          rotate_left
          · (intro w hSw; (try dsimp only at hSw); go_simp; try with_reducible rfl)
          simp only [Act.put, List.setIfInBounds_toArray, List.set_cons_zero, List.set_cons_succ]
          refine run_at (i := 6) rfl (by kernel_rfl) (by rfl) (fun K hK => ?_)
          simp only [List.getElem_toArray, List.getElem_cons_zero, List.getElem_cons_succ]
          go_simp
          first | (go_at_call 17; refine (HSE.out _ (Below.refl _ _).drew).mono ?_; rintro e y1 ⟨rfl, hq1⟩; have hq1 := hq1.symm; subst hq1) | (go_at_call 4; refine (HSP.out _).mono ?_; rintro e y2 ⟨rfl, hq2⟩; have hq2 := hq2.symm; subst hq2) | (go_at_call 18; refine (HFI.out _).mono ?_; rintro e y3 ⟨g1, rfl, hg1, hrow1, hb1'⟩; have hb1 : Below X.heap.size X y3 := below_next (Below.refl _ _).drew hb1') | (go_at_call 16; refine (HWR.out _ g1 hb1 hrow1).mono ?_; rintro e y4 ⟨rfl, V4, hdk4, hst4⟩; have hc4 : y4.cell? ⟨L, 1, none⟩ = some (.int .i64 t) := (World.cell?_of_block (hst4.chg.block L (Nat.lt_of_lt_of_le hLX hb1.size) (fun hf => HLf.out L hf rfl))).trans ((hb1.cell (p := ⟨L, 1, none⟩) hLX).trans hXc))
          go_wp2_with fail
          refine hK.out _ _ (by first | exact hXc | exact (hb1.cell (p := ⟨L, 1, none⟩) hLX).trans hXc | exact hc4) ?_
          clear hK K
          intro hHeld2
          clear hHeld
          have hHeld := hHeld2
          clear hHeld2
          try simp only [Act.put, List.setIfInBounds_toArray, List.set_cons_zero, List.set_cons_succ]
          refine run_at (i := 9) rfl (by kernel_rfl) (by rfl) (fun K hK => ?_)
          simp only [List.getElem_toArray, List.getElem_cons_zero, List.getElem_cons_succ]
          go_simp
          first | (go_at_call 17; refine (HSE.out _ (Below.refl _ _).drew).mono ?_; rintro e y1 ⟨rfl, hq1⟩; have hq1 := hq1.symm; subst hq1) | (go_at_call 4; refine (HSP.out _).mono ?_; rintro e y2 ⟨rfl, hq2⟩; have hq2 := hq2.symm; subst hq2) | (go_at_call 18; refine (HFI.out _).mono ?_; rintro e y3 ⟨g1, rfl, hg1, hrow1, hb1'⟩; have hb1 : Below X.heap.size X y3 := below_next (Below.refl _ _).drew hb1') | (go_at_call 16; refine (HWR.out _ g1 hb1 hrow1).mono ?_; rintro e y4 ⟨rfl, V4, hdk4, hst4⟩; have hc4 : y4.cell? ⟨L, 1, none⟩ = some (.int .i64 t) := (World.cell?_of_block (hst4.chg.block L (Nat.lt_of_lt_of_le hLX hb1.size) (fun hf => HLf.out L hf rfl))).trans ((hb1.cell (p := ⟨L, 1, none⟩) hLX).trans hXc))
          go_wp2_with fail
          refine hK.out _ _ (by first | exact hXc | exact (hb1.cell (p := ⟨L, 1, none⟩) hLX).trans hXc | exact hc4) ?_
          clear hK K
          intro hHeld2
          clear hHeld
          have hHeld := hHeld2
          clear hHeld2
          try simp only [Act.put, List.setIfInBounds_toArray, List.set_cons_zero, List.set_cons_succ]
          refine run_at (i := 10) rfl (by kernel_rfl) (by rfl) (fun K hK => ?_)
          simp only [List.getElem_toArray, List.getElem_cons_zero, List.getElem_cons_succ]
          go_simp
          first | (go_at_call 17; refine (HSE.out _ (Below.refl _ _).drew).mono ?_; rintro e y1 ⟨rfl, hq1⟩; have hq1 := hq1.symm; subst hq1) | (go_at_call 4; refine (HSP.out _).mono ?_; rintro e y2 ⟨rfl, hq2⟩; have hq2 := hq2.symm; subst hq2) | (go_at_call 18; refine (HFI.out _).mono ?_; rintro e y3 ⟨g1, rfl, hg1, hrow1, hb1'⟩; have hb1 : Below X.heap.size X y3 := below_next (Below.refl _ _).drew hb1') | (go_at_call 16; refine (HWR.out _ g1 hb1 hrow1).mono ?_; rintro e y4 ⟨rfl, V4, hdk4, hst4⟩; have hc4 : y4.cell? ⟨L, 1, none⟩ = some (.int .i64 t) := (World.cell?_of_block (hst4.chg.block L (Nat.lt_of_lt_of_le hLX hb1.size) (fun hf => HLf.out L hf rfl))).trans ((hb1.cell (p := ⟨L, 1, none⟩) hLX).trans hXc))
          go_wp2_with fail
          refine hK.out _ _ (by first | exact hXc | exact (hb1.cell (p := ⟨L, 1, none⟩) hLX).trans hXc | exact hc4) ?_
          clear hK K
          intro hHeld2
          clear hHeld
          have hHeld := hHeld2
          clear hHeld2
          try simp only [Act.put, List.setIfInBounds_toArray, List.set_cons_zero, List.set_cons_succ]
          refine take_at (i := 11) 10 (v := ?_) rfl rfl (by kernel_rfl) (by kernel_rfl) (by kernel_rfl) (fun _ _ _ h => h) (by rfl) ?_ hHeld ?_
          rotate_left
          · (intro w hSw; (try dsimp only at hSw); go_simp; try with_reducible rfl)
          simp only [Act.put, List.setIfInBounds_toArray, List.set_cons_zero, List.set_cons_succ]
          refine wpAnyH_done (by kernel_rfl) ?_ _
          refine NoPanic.normal ?_
          have HD4 : Hid _ := hdk4
          have HS4 : Hid _ := Step.trans (Step.trans HSX.out (Step.of_below hb1)) hst4
          clear hdk4 hst4
          have hE := HE.out
          clear HE
          cases hcan : d'.can
          all_goals
            rw [hcan] at hE HRun
            simp only [if_true, Bool.false_eq_true, if_false] at hE HRun
            subst hE
            go_wp2
            go_roundw
            case rel => exact ⟨k + 1, _, _, V4, by omega, by omega, by go_num, by go_num, HRun.out, HD4.out, HS4.out⟩
            case measure => simp [intOf]; omega
        by_cases c2 : q = 2
        · subst c2
          have hstep : d'.step k ⟨2, t, cs⟩ = d'.flush := by unfold Dst.step; simp
          rw [hstep] at HRun
          have hdid : d'.did ⟨2, t, cs⟩ = if d'.can then 1 else 0 := by unfold Dst.did; simp
          rw [hdid] at HRun
          obtain ⟨E, hE⟩ : ∃ E : Int, E = if d'.can then 0 else 5 := ⟨_, rfl⟩
          have HFL := flush_all p g m d' V' (n + k) X HDX.out
          rw [← hE] at HFL
          have HFL : Hid _ := HFL
          have HE : Hid _ := hE
          clear hstep hdid hE
          go_wp2_with (first
            | (refine wpList_load_mid rfl 52 _ rfl b (o + k * 3) (by rfl) [.int .i64 2, .int .i64 t, .slice ca cs.length cc] _ HRg.out Try.underlying52 rfl (by rw [(zero_of_info info_step).2]; rfl) ?_))
          rw [← hX, ← hL]
          clear hX hL
          refine Calls.mono HFL.out ?_
          rintro e y4 ⟨rfl, V4, hdk4, hst4⟩
          have HD4 : Hid _ := DK.more hdk4 (Nat.le_succ _) (by omega)
          have HS4 : Hid _ := Step.trans HSX.out hst4
          clear hdk4 hst4
          have hE := HE.out
          clear HE
          cases hcan : d'.can
          all_goals
            rw [hcan] at hE HRun
            simp only [if_true, Bool.false_eq_true, if_false] at hE HRun
            subst hE
            go_wp2
            go_roundw
            case rel => exact ⟨k + 1, _, _, V4, by omega, by omega, by go_num, by go_num, HRun.out, HD4.out, HS4.out⟩
            case measure => simp [intOf]; omega
        by_cases c3 : q = 3
        · subst c3
          have hstep : d'.step k ⟨3, t, cs⟩ = d'.crash cs := by unfold Dst.step; simp
          rw [hstep] at HRun
          have hdid : d'.did ⟨3, t, cs⟩ = 0 := by unfold Dst.did; simp
          rw [hdid] at HRun
          have HCR : Hid _ := crash_all p g m d' V' (n + k) ca cc cs X HDX.out HCH.out HCN.out
          clear hstep hdid
          go_wp2_with (first
            | (refine wpList_load_mid rfl 52 _ rfl b (o + k * 3) (by rfl) [.int .i64 3, .int .i64 t, .slice ca cs.length cc] _ HRg.out Try.underlying52 rfl (by rw [(zero_of_info info_step).2]; rfl) ?_))
          rw [← hX, ← hL]
          clear hX hL
          refine Calls.mono HCR.out ?_
          rintro e y4 ⟨rfl, V4, hdk4, hst4⟩
          have HD4 : Hid _ := DK.more hdk4 (Nat.le_succ _) (by omega)
          have HS4 : Hid _ := Step.trans HSX.out hst4
          clear hdk4 hst4
          go_wp2
          go_roundw
          case rel => exact ⟨k + 1, _, _, V4, by omega, by omega, by go_num, by go_num, HRun.out, HD4.out, HS4.out⟩
          case measure => simp [intOf]; omega
        have hstep : d'.step k ⟨q, t, cs⟩ = d' := by unfold Dst.step; simp [c0, c1, c2, c3]
        rw [hstep] at HRun
        have hdid : d'.did ⟨q, t, cs⟩ = 0 := by unfold Dst.did; simp [c0, c1, c2]
        rw [hdid] at HRun
        have HD4 : Hid _ := DK.more HDX.out (Nat.le_succ _) (by omega)
        clear hstep hdid
        go_wp2_with (first
          | (refine wpList_load_mid rfl 52 _ rfl b (o + k * 3) (by rfl) [.int .i64 q, .int .i64 t, .slice ca cs.length cc] _ HRg.out Try.underlying52 rfl (by rw [(zero_of_info info_step).2]; rfl) ?_))
        rw [← hX]
        go_roundw
        case rel => exact ⟨k + 1, _, _, V', by omega, by omega, by go_num, by go_num, HRun.out, HD4.out, HSX.out⟩
        case measure => simp [intOf]; omega
      · rw [if_neg hm] at hrun
        have hk1 : (k : Int) < (xs.length : Int) := by omega
        subst hrun
        go_wp2
        go_ret
        exact ⟨rfl, V', DK.more HDk.out (by omega) hn, HSt.out⟩
    · have hk' : xs.drop k = [] := List.drop_eq_nil_of_le (by omega)
      rw [hk'] at hrun
      unfold runS at hrun
      have hk1 : ¬ (k : Int) < (xs.length : Int) := by omega
      subst hrun
      go_wp2
      go_ret
      exact ⟨rfl, V', DK.more HDk.out (by omega) hn, HSt.out⟩
end Go.Proofs.Ytekfolppahnpoaa
