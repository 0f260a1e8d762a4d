import Derived.Test.YtkdgjfjcpgiokaaGreatLxQ
namespace Go.Proofs.YtkdgjfjcpgiokaaGreat
set_option linter.unusedVariables false
set_option linter.unusedSimpArgs false
open Go.RowKit Go.Maps
section
set_option maxRecDepth 20000
set_option maxHeartbeats 6400000
theorem inboxBounds_walk (a b : Int) (sa : Option Addr) (sc : Nat) (xs : List OpX) (w : World) (ha : -9223372036854775808 ≤ a ∧ a ≤ 9223372036854775807) (hb : -9223372036854775808 ≤ b ∧ b ≤ 9223372036854775807) (hx : RdX w sa xs) (hlc : xs.length ≤ sc) (hnil : sa = none → sc = 0) (hn : xs.length ≤ 4398046511103) :
    Calls Tryz.prog 7 #[.int .i64 a, .int .i64 b, .slice sa xs.length sc] w fun e w' => e = .returned (.bool true) ∧ Below w.heap.size w w' := by
  have HK : Hid (∀ u : World, Calls _ _ _ u _) := fun u => knows_t u
  have HWA : Hid (Calls Tryz.prog 16 #[.int .i64 a, .int .i64 64] w _) := winI_t a 64 (by decide) (by decide) w ha.1 ha.2
  have HWB : Hid (Calls Tryz.prog 16 #[.int .i64 b, .int .i64 4096] w _) := winI_t b 4096 (by decide) (by decide) w hb.1 hb.2
  have hlA := winN_lt a 64 (by decide)
  have hlB := winN_lt b 4096 (by decide)
  obtain ⟨ka, hka⟩ : ∃ ka, ka = winN a 64 := ⟨_, rfl⟩
  obtain ⟨kb, hkb⟩ : ∃ kb, kb = winN b 4096 := ⟨_, rfl⟩
  rw [← hka] at HWA hlA
  rw [← hkb] at HWB hlB
  have hnw := new_a (ka + 1) (kb + 1) (by omega) (by omega) (by omega) (by omega) w
  rw [show ((ka + 1 : Nat) : Int) = 1 + (ka : Int) by omega, show ((kb + 1 : Nat) : Int) = 1 + (kb : Int) by omega] at hnw
  have HNW : Hid (Calls _ _ _ w _) := hnw
  have HX : Hid _ := hx
  have HM : Hid (xs.length ≤ 4398046511103) := hn
  obtain ⟨M, hM⟩ : ∃ M, M = xs.length := ⟨_, rfl⟩
  rw [← hM]
  have HML : Hid _ := hM
  have hMb : M ≤ 4398046511103 := by omega
  clear hx hn hM hka hkb ha hb hlc hnil hnw
  go_enter Tryz.func7, Tryz.ntmps7
  go_wp2_with (first | (go_at_call 16; first | (with_reducible refine Calls.mono HWA.out ?_; rintro e w' ⟨rfl, hq⟩; have hq := hq.symm; subst hq) | (with_reducible refine Calls.mono HWB.out ?_; rintro e w' ⟨rfl, hq⟩; have hq := hq.symm; subst hq)))
  refine Calls.mono HNW.out ?_
  rintro e w1 ⟨p, F1, rfl, hI1, hF1, hb1⟩
  have HI1 : Hid _ := hI1
  have HF1 : Hid _ := hF1
  have HB1 : Hid _ := hb1
  clear hI1 hF1 hb1
  go_wp2_with fail
  refine Calls.mono (HK.out _) ?_
  rintro e w2 ⟨rfl, hb2⟩
  have HI2 : Hid (IbA w2 p 0 (newI (ka + 1) (kb + 1)) F1) := HI1.out.below hb2
  have HB2 : Hid (Below w.heap.size w w2) := below_next HB1.out hb2
  clear hb2
  go_wp2
  go_loopw [10, 9] (fun j lv wr => ∃ (k : Nat) (I : Ib) (F : Nat → Prop), k ≤ M ∧ j = .int .i64 (k : Int) ∧ lv = .int .u64 (I.ep : Int) ∧ IbA wr p k I F ∧ (I.mo = ka + 1 ∧ I.ms = kb + 1) ∧ (∀ b, F b → w.heap.size ≤ b) ∧ Below w.heap.size w wr) (fun j _ _ => M - (intOf j).toNat)
  case atStart => exact ⟨0, _, F1, Nat.zero_le _, rfl, rfl, HI2.out, ⟨rfl, rfl⟩, HF1.out, HB2.out⟩
  case round =>
    obtain ⟨k, I, F, hk, rfl, rfl, hI, hm, hF, hbw⟩ := hrel
    have hkw : IntKind.i64.wrap ((k : Int) + 1) = ((k + 1 : Nat) : Int) := by rw [IntKind.wrap_i64]; omega
    by_cases hlt : k < M
    · have hlti : (k : Int) < (M : Int) := by omega
      have hk0 : (0 : Int) ≤ (k : Int) := by omega
      have hk1 : k < xs.length := by rw [← HML.out]; exact hlt
      obtain ⟨sb, so, rfl, hrng, hop⟩ := HX.out k hk1
      obtain ⟨y, hy⟩ : ∃ y, y = xs[k] := ⟨_, rfl⟩
      rw [← hy] at hrng hop
      have hld := opRange (rangeAt_below hrng hbw)
      have HDO : Hid (Calls _ _ _ wr _) := does_t hI y w hop hbw hF (by omega)
      obtain ⟨m1, m2, m3⟩ := doI_m I y
      have HFX : Hid _ := hF
      have HBW : Hid _ := hbw
      obtain ⟨J, hJ⟩ : ∃ J, J = doI I y := ⟨_, rfl⟩
      rw [← hJ] at m1 m2 m3 HDO
      rw [hm.1] at m2
      rw [hm.2] at m3
      obtain ⟨e0, he0⟩ : ∃ e0, e0 = I.ep := ⟨_, rfl⟩
      rw [← he0] at m1 ⊢
      have HLT : Hid (∀ b, F b → b < wr.heap.size) := hI.lt
      clear hI hm hF hbw hrng hop hJ hk1 he0 hy
      go_wp2_with fail
      refine Calls.mono HDO.out ?_
      rintro e3 w3 ⟨F3, ga, ba, gn, gc, bn, bc, rfl, hI3, hc3, hf3⟩
      have HI3 : Hid (IbA w3 p (k + 1) J F3) := hI3
      have HF3 : Hid (∀ b, F3 b → w.heap.size ≤ b) := fun b hb => (hf3 b hb).elim (HFX.out b) (fun h9 => Nat.le_trans HBW.out.size h9)
      have HB3 : Hid (Below w.heap.size w w3) := HBW.out.trans (hc3.below HFX.out HBW.out.size)
      have HOP : Hid (Calls _ _ _ w3 _) := open_a hI3
      have HDC : Hid (∀ u, Below w3.heap.size w3 u → Calls _ _ _ u _) := fun u hu => decd_a (hI3.below hu)
      have HEP : Hid (∀ u, Below w3.heap.size w3 u → Calls _ _ _ u _) := fun u hu => epoch_a (hI3.below hu)
      have HOK : Hid _ := hI3.ok
      obtain ⟨e1, he1⟩ : ∃ e1, e1 = J.ep := ⟨_, rfl⟩
      rw [← he1] at HEP m1
      have HE1 : Hid _ := he1
      obtain ⟨n1, hn1⟩ : ∃ n1, n1 = (ks J.O).length := ⟨_, rfl⟩
      obtain ⟨n2, hn2⟩ : ∃ n2, n2 = (ks J.H).length := ⟨_, rfl⟩
      have HN1 : Hid _ := hn1
      have HN2 : Hid _ := hn2
      have hn1b : n1 ≤ ka + 1 := by rw [hn1, len_ks, ← m2]; exact HOK.out.lo
      have hn2b : n2 ≤ kb + 1 := by rw [hn2, len_ks, ← m3]; exact HOK.out.ls
      have hq1 : ¬ (1 + (ka : Int)) < (n1 : Int) := by omega
      have hq2 : ¬ (1 + (kb : Int)) < (n2 : Int) := by omega
      have hq3 : ¬ (e1 : Int) < (e0 : Int) := by omega
      clear hI3 hc3 hf3 he1 hn1 hn2
      go_wp2_with fail
      refine Calls.mono HOP.out ?_
      rintro e4 w4 ⟨v1, rfl, hv1, hb4⟩
      obtain ⟨a1, c1, rfl, -, -, hz1, hrd1⟩ := OwnG.val hv1
      rw [← HN1.out]
      have HV1 : Hid (RdG KSs w4 a1 (ks J.O)) := hrd1
      have HB4 : Hid (Below w3.heap.size w3 w4) := hb4
      clear hv1 hrd1 hb4
      go_wp2_with fail
      refine Calls.mono (HDC.out _ HB4.out) ?_
      rintro e5 w5 ⟨v2, rfl, hv2, hb5⟩
      obtain ⟨a2, c2, rfl, -, -, hz2, hrd2⟩ := OwnG.val hv2
      rw [← HN2.out]
      have HV2 : Hid (RdG KSs w5 a2 (ks J.H)) := hrd2
      have HV15 : Hid (RdG KSs w5 a1 (ks J.O)) := RdG.below HV1.out hb5
      have HB5 : Hid (Below w3.heap.size w3 w5) := below_next HB4.out hb5
      have HZ1 : Hid _ := hz1
      have HZ2 : Hid _ := hz2
      clear hv2 hrd2 hb5 hz1 hz2
      go_wp2_with (first
        | (go_at_call 23; refine Calls.mono (HEP.out _ HB5.out) ?_; rintro e w' ⟨rfl, hq⟩; have hq := hq.symm; subst hq)
        | (at_builtin; refine wp_appG (K := KSs) rfl _ _ rfl w5.heap.size (.slice none 0 0) [] (ks J.O) n1 a1 c1 HN1.out rfl (World.ownsRow_nil _ _ _ _) rfl HV15.out HZ1.out (by show (0 + n1) * 16 ≤ _; omega) (by simp only [maxLen, List.length_nil]; omega) (Nat.le_refl _) ?_; intro v6 w6 hown6 hg6; have HO6 : Hid (OwnG KSs w6 w5.heap.size v6 (ks J.O)) := hown6; have HG6 : Hid (Below w5.heap.size w5 w6) := (Below.refl _ _).grown hg6 (Nat.le_refl _) (fun j hj => by cases hj); clear hown6 hg6)
        | (at_builtin; refine wp_appG (K := KSs) rfl _ _ rfl w5.heap.size v6 (ks J.O) (ks J.H) n2 a2 c2 HN2.out rfl HO6.out rfl (RdG.below HV2.out HG6.out) HZ2.out (by rw [← HN1.out]; show (n1 + n2) * 16 ≤ _; omega) (by rw [← HN1.out]; simp only [maxLen]; omega) HG6.out.size ?_; intro v7 w7 hown7 hg7; have HO7 : Hid _ := hown7; have HG7 : Hid (Below w5.heap.size w5 w7) := HG6.out.grown hg7 HG6.out.size (fun j hj => (OwnG.lt' HO6.out hj).1); clear hown7 hg7))
      obtain ⟨L, hL⟩ : ∃ L, L = ks J.O ++ ks J.H := ⟨_, rfl⟩
      have hal := HOK.out.all
      have hown7 : OwnG KSs w7 w5.heap.size v7 L := by rw [hL]; exact HO7.out
      rw [← hL, ← HE1.out] at hal
      obtain ⟨a7, c7, rfl, hnc7, -, -, hrd7⟩ := OwnG.val hown7
      obtain ⟨N7, hN7⟩ : ∃ N7, N7 = L.length := ⟨_, rfl⟩
      rw [← hN7] at hnc7 ⊢
      have hN7b : N7 ≤ 4160 := by rw [hN7]; exact hal.2.2
      have HN7 : Hid _ := hN7
      have HAL : Hid _ := hal
      have HR7 : Hid (RdG KSs w7 a7 L) := hrd7
      have HB7 : Hid (Below w3.heap.size w3 w7) := below_next HB5.out HG7.out
      clear hL hal hown7 hrd7 hN7 HO7 HO6 HG6 HG7 HV1 HV2 HV15 HDO HOP HDC HEP HNW HWA HWB HK
      go_loopw [14] (fun j wr2 => ∃ q : Nat, q ≤ N7 ∧ j = .int .i64 (q : Int) ∧ Below w7.heap.size w7 wr2) (fun j _ => N7 - (intOf j).toNat)
      case atStart => exact ⟨0, Nat.zero_le _, rfl, Below.refl _ _⟩
      case round =>
        obtain ⟨q, hqn, rfl, hbq⟩ := hrel
        have hqw : IntKind.i64.wrap ((q : Int) + 1) = ((q + 1 : Nat) : Int) := by rw [IntKind.wrap_i64]; omega
        by_cases hqt : q < N7
        · have hqti : (q : Int) < (N7 : Int) := by omega
          have hq0 : (0 : Int) ≤ (q : Int) := by omega
          have hq9 : (q : Int) ≤ (c7 : Int) := by omega
          have hqL : q < L.length := by rw [← HN7.out]; exact hqt
          obtain ⟨b7, o7, rfl, r7, -⟩ := HR7.out q hqL
          obtain ⟨x, hx⟩ : ∃ x : Ss, x = L[q] := ⟨_, rfl⟩
          have hx1 : x.1 = e1 := HAL.out.2.1 x (by rw [hx]; exact List.getElem_mem _)
          have hxn : x ∉ L.take q := fun h9 => by
            obtain ⟨i, hi, hix⟩ := List.getElem_of_mem h9
            rw [List.getElem_take] at hix
            rw [List.length_take] at hi
            have := (List.getElem_inj HAL.out.1).1 (hix.trans hx)
            omega
          have g1 := r7 0 (.int .u64 (x.1 : Int)) (by rw [hx]; rfl)
          have g2 := r7 1 (.int .u64 (x.2 : Int)) (by rw [hx]; rfl)
          rw [hx1] at g1
          have hc7 : ∀ u, Below w7.heap.size w7 u → u.cell? ⟨b7, o7 + q * 2, none⟩ = some (.int .u64 (e1 : Int)) ∧ u.cell? ⟨b7, o7 + q * 2 + 1, none⟩ = some (.int .u64 (x.2 : Int)) := fun u hu => ⟨(hu.cell (World.block_lt_of_cell? _ _ g1)).trans g1, (hu.cell (World.block_lt_of_cell? _ _ g2)).trans g2⟩
          have HHS : Hid (∀ u, Below w7.heap.size w7 u → Calls Tryz.prog 24 #[.slice (some ⟨b7, o7, none⟩) q c7, .agg #[.int .u64 (e1 : Int), .int .u64 (x.2 : Int)]] u fun e w' => e = .returned (.bool false) ∧ Below u.heap.size u w') := fun u hu => by
            have h9 := hasI_t (some ⟨b7, o7, none⟩) q c7 (L.take q) (by rw [List.length_take]; omega) x u (RdG.pre (RdG.below HR7.out hu) q) (by omega)
            rw [decide_eq_false hxn, show sv x = .agg #[.int .u64 (e1 : Int), .int .u64 (x.2 : Int)] by rw [← hx1]] at h9
            exact h9
          clear r7 g1 g2 hx hx1 hxn hqL
          obtain ⟨x1, x2⟩ := x
          go_wp2_with fail
          refine wp_region_noPanic ?_
          refine wp_region_held_drew (S := (fun u => Below w7.heap.size w7 u)) (by kernel_rfl) (by first | exact hbq.drew | exact hS1 | assumption) (fun hHeld => ?_)
          refine take_at (i := 0) 81 (v := ?_) rfl rfl (by kernel_rfl) (by kernel_rfl) (by kernel_rfl) (fun _ _ _ h => h) (by rfl) ?_ hHeld ?_
          rotate_left
          · (intro w hSw; (try dsimp only at hSw); go_simp; try with_reducible rfl)
          simp only [Act.put, List.setIfInBounds_toArray, List.set_cons_zero, List.set_cons_succ]
          refine take_at (i := 1) 82 (v := ?_) rfl rfl (by kernel_rfl) (by kernel_rfl) (by kernel_rfl) (fun _ _ _ h => h) (by rfl) ?_ hHeld ?_
          rotate_left
          · (intro w hSw; (try dsimp only at hSw); go_simp; try with_reducible rfl)
          simp only [Act.put, List.setIfInBounds_toArray, List.set_cons_zero, List.set_cons_succ]
          refine take_at (i := 2) 83 (v := ?_) rfl rfl (by kernel_rfl) (by kernel_rfl) (by kernel_rfl) (fun _ _ _ h => h) (by rfl) ?_ hHeld ?_
          rotate_left
          · (intro w hSw; (try dsimp only at hSw); go_simp; try with_reducible rfl)
          simp only [Act.put, List.setIfInBounds_toArray, List.set_cons_zero, List.set_cons_succ]
          refine take_at (i := 3) 84 (v := ?_) rfl rfl (by kernel_rfl) (by kernel_rfl) (by kernel_rfl) (fun _ _ _ h => h) (by rfl) ?_ hHeld ?_
          rotate_left
          · (intro w hSw; (try dsimp only at hSw); go_simp; try with_reducible rfl)
          simp only [Act.put, List.setIfInBounds_toArray, List.set_cons_zero, List.set_cons_succ]
          refine take_at (i := 4) 85 (v := ?_) rfl rfl (by kernel_rfl) (by kernel_rfl) (by kernel_rfl) (fun _ _ _ h => h) (by rfl) ?_ hHeld ?_
          rotate_left
          · (intro w hSw; (try dsimp only at hSw); go_simp; try with_reducible rfl)
          simp only [Act.put, List.setIfInBounds_toArray, List.set_cons_zero, List.set_cons_succ]
          refine take_at (i := 5) 86 (v := ?_) rfl rfl (by kernel_rfl) (by kernel_rfl) (by kernel_rfl) (fun _ _ _ h => h) (by rfl) ?_ hHeld ?_
          rotate_left
          · (intro w hSw; (try dsimp only at hSw); go_simp; try with_reducible rfl)
          simp only [Act.put, List.setIfInBounds_toArray, List.set_cons_zero, List.set_cons_succ]
          refine take_at (i := 6) 87 (v := ?_) rfl rfl (by kernel_rfl) (by kernel_rfl) (by kernel_rfl) (fun _ _ _ h => h) (by rfl) ?_ hHeld ?_
          rotate_left
          · (intro w hSw; (try dsimp only at hSw); go_simp; try with_reducible rfl)
          simp only [Act.put, List.setIfInBounds_toArray, List.set_cons_zero, List.set_cons_succ]
          refine take_at (i := 7) 88 (v := ?_) rfl rfl (by kernel_rfl) (by kernel_rfl) (by kernel_rfl) (fun _ _ _ h => h) (by rfl) ?_ hHeld ?_
          rotate_left
          · (intro w hSw; (try dsimp only at hSw); go_simp; try with_reducible rfl)
          simp only [Act.put, List.setIfInBounds_toArray, List.set_cons_zero, List.set_cons_succ]
          refine take_at (i := 8) 89 (v := ?_) rfl rfl (by kernel_rfl) (by kernel_rfl) (by kernel_rfl) (fun _ _ _ h => h) (by rfl) ?_ hHeld ?_
          rotate_left
          · (intro w hSw; (try dsimp only at hSw); go_simp; try with_reducible rfl)
          simp only [Act.put, List.setIfInBounds_toArray, List.set_cons_zero, List.set_cons_succ]
          refine take_at (i := 9) 90 (v := ?_) rfl rfl (by kernel_rfl) (by kernel_rfl) (by kernel_rfl) (fun _ _ _ h => h) (by rfl) ?_ hHeld ?_
          rotate_left
          · (intro w hSw; (try dsimp only at hSw); go_simp; try with_reducible rfl)
          simp only [Act.put, List.setIfInBounds_toArray, List.set_cons_zero, List.set_cons_succ]
          refine take_at (i := 10) 91 (v := ?_) rfl rfl (by kernel_rfl) (by kernel_rfl) (by kernel_rfl) (fun _ _ _ h => h) (by rfl) ?_ hHeld ?_
          rotate_left
          · (intro w hSw; (try dsimp only at hSw); go_simp; try with_reducible rfl)
          simp only [Act.put, List.setIfInBounds_toArray, List.set_cons_zero, List.set_cons_succ]
          refine take_at (i := 11) 92 (v := ?_) rfl rfl (by kernel_rfl) (by kernel_rfl) (by kernel_rfl) (fun _ _ _ h => h) (by rfl) ?_ hHeld ?_
          rotate_left
          · (intro w hSw; (try dsimp only at hSw); go_simp; try with_reducible rfl)
          simp only [Act.put, List.setIfInBounds_toArray, List.set_cons_zero, List.set_cons_succ]
          refine take_at (i := 12) 93 (v := ?_) rfl rfl (by kernel_rfl) (by kernel_rfl) (by kernel_rfl) (fun _ _ _ h => h) (by rfl) ?_ hHeld ?_
          rotate_left
          · (intro w hSw; (try dsimp only at hSw); go_simp; try with_reducible rfl)
          simp only [Act.put, List.setIfInBounds_toArray, List.set_cons_zero, List.set_cons_succ]
          refine take_at (i := 13) 94 (v := ?_) rfl rfl (by kernel_rfl) (by kernel_rfl) (by kernel_rfl) (fun _ _ _ h => h) (by rfl) ?_ hHeld ?_
          rotate_left
          · (intro w hSw; (try dsimp only at hSw); go_simp; try with_reducible rfl)
          simp only [Act.put, List.setIfInBounds_toArray, List.set_cons_zero, List.set_cons_succ]
          refine take_at (i := 14) 95 (v := ?_) rfl rfl (by kernel_rfl) (by kernel_rfl) (by kernel_rfl) (fun _ _ _ h => h) (by rfl) ?_ hHeld ?_
          rotate_left
          · (intro w hSw; (try dsimp only at hSw); go_simp; try with_reducible rfl)
          simp only [Act.put, List.setIfInBounds_toArray, List.set_cons_zero, List.set_cons_succ]
          refine run_at (i := 15) rfl (by kernel_rfl) (by rfl) (fun K hK => ?_)
          simp only [List.getElem_toArray, List.getElem_cons_zero, List.getElem_cons_succ]
          go_simp
          (go_at_call 24; refine Calls.mono (HHS.out _ (by assumption)) ?_; rintro e u8 ⟨rfl, hu8⟩; have hS1 : Below w7.heap.size w7 u8 := below_next (by assumption) hu8; clear hu8)
          go_wp2_with fail
          refine hK.out _ _ (by first | exact hbq.drew | exact hS1 | assumption) ?_
          clear hK K
          intro hHeld2
          clear hHeld
          have hHeld := hHeld2
          clear hHeld2
          try simp only [Act.put, List.setIfInBounds_toArray, List.set_cons_zero, List.set_cons_succ]
          refine take_at (i := 16) 97 (v := ?_) rfl rfl (by kernel_rfl) (by kernel_rfl) (by kernel_rfl) (fun _ _ _ h => h) (by rfl) ?_ hHeld ?_
          rotate_left
          · (intro w hSw; (try dsimp only at hSw); go_simp; try with_reducible rfl)
          simp only [Act.put, List.setIfInBounds_toArray, List.set_cons_zero, List.set_cons_succ]
          refine wpAnyH_done (by kernel_rfl) ?_ _
          refine NoPanic.normal ?_
          have HBQ : Hid (Below w7.heap.size w7 u8) := hS1
          go_wp2
          go_roundw
          case rel => exact ⟨q + 1, by omega, by go_num, HBQ.out⟩
          case measure => simp [intOf]; omega
        · have hqti : ¬ (q : Int) < (N7 : Int) := by omega
          have HBQ : Hid _ := hbq
          clear hbq
          go_wp2
          go_roundw
          case rel => exact ⟨k + 1, J, F3, by omega, by go_num, by rw [HE1.out], HI3.out.below (below_next HB7.out HBQ.out), ⟨m2, m3⟩, HF3.out, HB3.out.trans ((below_next HB7.out HBQ.out).mono HB3.out.size)⟩
          case measure => simp [intOf]; omega
    · have hlti : ¬ (k : Int) < (M : Int) := by omega
      have HBW : Hid _ := hbw
      clear hI hm hF hbw
      go_wp2
      go_ret
      exact ⟨rfl, HBW.out⟩
end
end Go.Proofs.YtkdgjfjcpgiokaaGreat
