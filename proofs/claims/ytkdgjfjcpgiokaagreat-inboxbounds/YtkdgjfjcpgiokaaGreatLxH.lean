import Derived.Test.YtkdgjfjcpgiokaaGreatLxP
namespace Go.Proofs.YtkdgjfjcpgiokaaGreat
set_option linter.unusedVariables false
set_option linter.unusedSimpArgs false
open Go.RowKit Go.Maps
def winN (n : Int) (m : Nat) : Nat := (n % (m : Int)).toNat
theorem winN_lt (n : Int) (m : Nat) (hm : 0 < m) : winN n m < m := by
  unfold winN
  have h1 := Int.emod_nonneg n (show (m : Int) ≠ 0 by omega)
  have h2 := Int.emod_lt_of_pos n (show 0 < (m : Int) by omega)
  omega
section
set_option maxRecDepth 20000
set_option maxHeartbeats 1600000
theorem winI_t (n : Int) (m : Nat) (hm : 0 < m) (hm2 : m ≤ 1099511627776) (w : World) (h0 : -9223372036854775808 ≤ n) (h1 : n ≤ 9223372036854775807) : Calls Tryz.prog 16 #[.int .i64 n, .int .i64 (m : Int)] w fun e w' => e = .returned (.int .i64 (winN n m : Int)) ∧ w' = w := by
  have hne : ((m : Int) == 0) = false := by simp; omega
  have hmi : (0 : Int) < (m : Int) := by omega
  have e1 := Int.tmod_add_mul_tdiv n (m : Int)
  have HW : Hid ((winN n m : Int) = n % (m : Int)) := by
    unfold Hid winN
    have := Int.emod_nonneg n (show (m : Int) ≠ 0 by omega)
    omega
  have HE : Hid (n % (m : Int) = if n.tmod (m : Int) < 0 then n.tmod (m : Int) + (m : Int) else n.tmod (m : Int)) := by
    unfold Hid
    have ht := Int.emod_emod_of_dvd
    have h2 : n.tmod (m : Int) = if 0 ≤ n then n % (m : Int) else -((-n) % (m : Int)) := by
      by_cases hn : 0 ≤ n
      · rw [if_pos hn, Int.tmod_eq_emod_of_nonneg hn]
      · rw [if_neg hn]
        have h3 : n = -(-n) := by omega
        rw [h3, Int.neg_tmod, Int.tmod_eq_emod_of_nonneg (by omega)]
        simp
    have h4 := Int.emod_nonneg n (show (m : Int) ≠ 0 by omega)
    have h5 := Int.emod_lt_of_pos n hmi
    have h6 := Int.emod_nonneg (-n) (show (m : Int) ≠ 0 by omega)
    have h7 := Int.emod_lt_of_pos (-n) hmi
    by_cases hn : 0 ≤ n
    · rw [if_pos hn] at h2
      rw [h2, if_neg (by omega)]
    · rw [if_neg hn] at h2
      rw [h2]
      have h8 : (n % (m : Int) + (-n) % (m : Int)) % (m : Int) = 0 := by rw [← Int.add_emod]; simp [Int.add_right_neg]
      by_cases h9 : (-n) % (m : Int) = 0
      · rw [h9] at h8 ⊢
        rw [Int.add_zero, Int.emod_emod_of_dvd _ (Int.dvd_refl _)] at h8
        simp [h8]
      · rw [if_pos (by omega)]
        have h10 : (n % (m : Int) + (-n) % (m : Int)) = (m : Int) := by
          have h11 : 0 < n % (m : Int) + (-n) % (m : Int) := by omega
          have h12 : n % (m : Int) + (-n) % (m : Int) < 2 * (m : Int) := by omega
          obtain ⟨c, hc⟩ := Int.dvd_of_emod_eq_zero h8
          have h13 : c = 1 := by
            rcases Int.lt_trichotomy c 1 with h | h | h
            · have : (m : Int) * c ≤ 0 := Int.mul_nonpos_of_nonneg_of_nonpos (by omega) (by omega)
              omega
            · exact h
            · have : (m : Int) * 2 ≤ (m : Int) * c := Int.mul_le_mul_of_nonneg_left (by omega) (by omega)
              omega
          rw [hc, h13]
          omega
        omega
  have hb1 : -(m : Int) < n.tmod (m : Int) := by have := Int.lt_tmod_of_pos n hmi; omega
  have hb2 : n.tmod (m : Int) < (m : Int) := Int.tmod_lt_of_pos n hmi
  have hmx : (m : Int) ≤ 1099511627776 := by omega
  clear e1
  by_cases hneg : n.tmod (m : Int) < 0
  · have hwr : IntKind.i64.wrap (n.tmod (m : Int) + (m : Int)) = n.tmod (m : Int) + (m : Int) := by rw [IntKind.wrap_i64]; omega
    have HR : Hid ((winN n m : Int) = n.tmod (m : Int) + (m : Int)) := by unfold Hid; rw [HW.out, HE.out, if_pos hneg]
    go_enter Tryz.func16, Tryz.ntmps16
    go_wp2
    go_ret
    exact ⟨by rw [HR.out]; first | rfl | (show Ending.returned (.int .i64 _) = Ending.returned (.int .i64 _); congr 2; omega), rfl⟩
  · have HR : Hid ((winN n m : Int) = n.tmod (m : Int)) := by unfold Hid; rw [HW.out, HE.out, if_neg hneg]
    go_enter Tryz.func16, Tryz.ntmps16
    go_wp2
    go_ret
    exact ⟨by rw [HR.out]; rfl, rfl⟩
theorem eql_ss (u : World) (a b c d : Int) : (binOp .eql tSs (.agg #[.int .u64 a, .int .u64 b]) (.agg #[.int .u64 c, .int .u64 d])).run Tryz.prog u = .ok (.bool (decide (a = c ∧ b = d))) u := by
  go_simp
  by_cases h1 : a = c <;> by_cases h2 : b = d <;> simp [h1, h2]
theorem hasI_t (a : Option Addr) (n c : Nat) (xs : List Ss) (hn : n = xs.length) (s : Ss) (w : World) (h : RdG KSs w a xs) (hl : n ≤ 16384) : Calls Tryz.prog 24 #[.slice a n c, sv s] w fun e w' => e = .returned (.bool (decide (s ∈ xs))) ∧ Below w.heap.size w w' := by
  obtain ⟨s1, s2⟩ := s
  have hkb := keyBox w (s1, s2)
  obtain ⟨w1, hw1⟩ : ∃ w1, w1 = w.alloc (.cells #[.int .u64 (s1 : Int), .int .u64 (s2 : Int)] tSs) := ⟨_, rfl⟩
  have hb1 : Below w.heap.size w w1 := by rw [hw1]; exact al (Below.refl _ _) _
  have hz1 : w1.heap.size = w.heap.size + 1 := by rw [hw1]; simp
  have hk : ∀ u, Below w1.heap.size w1 u → u.cell? ⟨w.heap.size, 0, none⟩ = some (.int .u64 (s1 : Int)) ∧ u.cell? ⟨w.heap.size, 1, none⟩ = some (.int .u64 (s2 : Int)) := fun u hu => by
    have h9 := hkb u (by rw [← hw1, ← hz1]; exact hu)
    exact ⟨h9.1, h9.2.1⟩
  have HN : Hid _ := hn
  have HR : Hid (RdG KSs w1 a xs) := h.below hb1
  have HW1 : Hid (w1 = _) := hw1
  have HB1 : Hid _ := hb1
  clear h hkb hb1 hz1 hw1 hn
  go_enter Tryz.func24, Tryz.ntmps24
  go_wp2
  rw [← HW1.out]
  go_loopw [5] (fun j wr => ∃ k : Nat, k ≤ n ∧ j = .int .i64 (k : Int) ∧ Below w1.heap.size w1 wr ∧ Hid ((s1, s2) ∉ xs.take k)) (fun j _ => n - (intOf j).toNat)
  case atStart => exact ⟨0, Nat.zero_le _, rfl, Below.refl _ _, by unfold Hid; simp⟩
  case round =>
    obtain ⟨k, hkn, rfl, hbw, HNO⟩ := hrel
    have hkw : IntKind.i64.wrap ((k : Int) + 1) = ((k + 1 : Nat) : Int) := by rw [IntKind.wrap_i64]; omega
    by_cases hlt : k < n
    · have hlti : (k : Int) < (n : Int) := by omega
      have hk0 : (0 : Int) ≤ (k : Int) := by omega
      have hk1 : k < xs.length := by rw [← HN.out]; exact hlt
      obtain ⟨b, o, rfl, r1, -⟩ := HR.out k hk1
      obtain ⟨x, hx⟩ : ∃ x : Ss, x = xs[k] := ⟨_, rfl⟩
      have g1 := r1 0 (.int .u64 (x.1 : Int)) (by rw [hx]; rfl)
      have g2 := r1 1 (.int .u64 (x.2 : Int)) (by rw [hx]; rfl)
      have hc : ∀ u, Below w1.heap.size w1 u → u.cell? ⟨b, o + k * 2, none⟩ = some (.int .u64 (x.1 : Int)) ∧ u.cell? ⟨b, o + k * 2 + 1, none⟩ = some (.int .u64 (x.2 : Int)) := fun u hu => ⟨(hu.cell (World.block_lt_of_cell? _ _ g1)).trans g1, (hu.cell (World.block_lt_of_cell? _ _ g2)).trans g2⟩
      have HX : Hid _ := hx
      have HBW : Hid _ := hbw
      obtain ⟨x1, x2⟩ := x
      by_cases he : (x1, x2) = (s1, s2)
      · have hq : ∀ u, (binOp .eql tSs (.agg #[.int .u64 (x1 : Int), .int .u64 (x2 : Int)]) (.agg #[.int .u64 (s1 : Int), .int .u64 (s2 : Int)])).run Tryz.prog u = .ok (.bool true) u := fun u => by rw [eql_ss]; cases he; simp
        have HM : Hid (decide ((s1, s2) ∈ xs) = true) := by unfold Hid; rw [decide_eq_true_eq, ← he, HX.out]; exact List.getElem_mem _
        clear r1 g1 g2 hx HX hk1 he
        go_wp2_with fail
        refine wp_region_noPanic ?_
        refine wp_region_held_drew (S := (fun u => Below w1.heap.size w1 u)) (by kernel_rfl) (by first | exact hbw.drew | assumption) (fun hHeld => ?_)
        refine take_at (i := 0) 12 (v := ?_) rfl rfl (by kernel_rfl) (by kernel_rfl) (by kernel_rfl) (fun _ _ _ h => h) (by rfl) ?_ hHeld ?_
        rotate_left
        · (intro w hSw; (try dsimp only at hSw); go_simp; try with_reducible rfl)
        simp only [Act.put, List.setIfInBounds_toArray, List.set_cons_zero, List.set_cons_succ]
        refine take_at (i := 1) 13 (v := ?_) rfl rfl (by kernel_rfl) (by kernel_rfl) (by kernel_rfl) (fun _ _ _ h => h) (by rfl) ?_ hHeld ?_
        rotate_left
        · (intro w hSw; (try dsimp only at hSw); go_simp; try with_reducible rfl)
        simp only [Act.put, List.setIfInBounds_toArray, List.set_cons_zero, List.set_cons_succ]
        refine take_at (i := 2) 14 (v := ?_) rfl rfl (by kernel_rfl) (by kernel_rfl) (by kernel_rfl) (fun _ _ _ h => h) (by rfl) ?_ hHeld ?_
        rotate_left
        · (intro w hSw; (try dsimp only at hSw); go_simp; try with_reducible rfl)
        simp only [Act.put, List.setIfInBounds_toArray, List.set_cons_zero, List.set_cons_succ]
        refine take_at (i := 3) 15 (v := ?_) rfl rfl (by kernel_rfl) (by kernel_rfl) (by kernel_rfl) (fun _ _ _ h => h) (by rfl) ?_ hHeld ?_
        rotate_left
        · (intro w hSw; (try dsimp only at hSw); go_simp; try with_reducible rfl)
        simp only [Act.put, List.setIfInBounds_toArray, List.set_cons_zero, List.set_cons_succ]
        refine take_at (i := 4) 16 (v := ?_) rfl rfl (by kernel_rfl) (by kernel_rfl) (by kernel_rfl) (fun _ _ _ h => h) (by rfl) ?_ hHeld ?_
        rotate_left
        · (intro w hSw; (try dsimp only at hSw); go_simp; try with_reducible rfl)
        simp only [Act.put, List.setIfInBounds_toArray, List.set_cons_zero, List.set_cons_succ]
        refine take_at (i := 5) 17 (v := ?_) rfl rfl (by kernel_rfl) (by kernel_rfl) (by kernel_rfl) (fun _ _ _ h => h) (by rfl) ?_ hHeld ?_
        rotate_left
        · (intro w hSw; (try dsimp only at hSw); go_simp; try with_reducible rfl)
        simp only [Act.put, List.setIfInBounds_toArray, List.set_cons_zero, List.set_cons_succ]
        refine wpAnyH_done (by kernel_rfl) ?_ _
        refine NoPanic.normal ?_
        go_wp2
        go_ret
        exact ⟨by rw [HM.out]; rfl, below_next HB1.out HBW.out.drew⟩
      · have hq : ∀ u, (binOp .eql tSs (.agg #[.int .u64 (x1 : Int), .int .u64 (x2 : Int)]) (.agg #[.int .u64 (s1 : Int), .int .u64 (s2 : Int)])).run Tryz.prog u = .ok (.bool false) u := fun u => by
          rw [eql_ss]
          have : ¬ ((x1 : Int) = s1 ∧ (x2 : Int) = s2) := fun h9 => he (by rw [show x1 = s1 by omega, show x2 = s2 by omega])
          simp [this]
        have HNX : Hid ((s1, s2) ∉ xs.take (k + 1)) := by
          unfold Hid
          rw [List.take_succ_eq_append_getElem hk1, List.mem_append, List.mem_singleton]
          rintro (h9 | h9)
          · exact HNO.out h9
          · exact he (by rw [HX.out]; exact h9.symm)
        clear r1 g1 g2 hx HX hk1 he HNO
        go_wp2_with fail
        refine wp_region_noPanic ?_
        refine wp_region_held_drew (S := (fun u => Below w1.heap.size w1 u)) (by kernel_rfl) (by first | exact hbw.drew | assumption) (fun hHeld => ?_)
        refine take_at (i := 0) 12 (v := ?_) rfl rfl (by kernel_rfl) (by kernel_rfl) (by kernel_rfl) (fun _ _ _ h => h) (by rfl) ?_ hHeld ?_
        rotate_left
        · (intro w hSw; (try dsimp only at hSw); go_simp; try with_reducible rfl)
        simp only [Act.put, List.setIfInBounds_toArray, List.set_cons_zero, List.set_cons_succ]
        refine take_at (i := 1) 13 (v := ?_) rfl rfl (by kernel_rfl) (by kernel_rfl) (by kernel_rfl) (fun _ _ _ h => h) (by rfl) ?_ hHeld ?_
        rotate_left
        · (intro w hSw; (try dsimp only at hSw); go_simp; try with_reducible rfl)
        simp only [Act.put, List.setIfInBounds_toArray, List.set_cons_zero, List.set_cons_succ]
        refine take_at (i := 2) 14 (v := ?_) rfl rfl (by kernel_rfl) (by kernel_rfl) (by kernel_rfl) (fun _ _ _ h => h) (by rfl) ?_ hHeld ?_
        rotate_left
        · (intro w hSw; (try dsimp only at hSw); go_simp; try with_reducible rfl)
        simp only [Act.put, List.setIfInBounds_toArray, List.set_cons_zero, List.set_cons_succ]
        refine take_at (i := 3) 15 (v := ?_) rfl rfl (by kernel_rfl) (by kernel_rfl) (by kernel_rfl) (fun _ _ _ h => h) (by rfl) ?_ hHeld ?_
        rotate_left
        · (intro w hSw; (try dsimp only at hSw); go_simp; try with_reducible rfl)
        simp only [Act.put, List.setIfInBounds_toArray, List.set_cons_zero, List.set_cons_succ]
        refine take_at (i := 4) 16 (v := ?_) rfl rfl (by kernel_rfl) (by kernel_rfl) (by kernel_rfl) (fun _ _ _ h => h) (by rfl) ?_ hHeld ?_
        rotate_left
        · (intro w hSw; (try dsimp only at hSw); go_simp; try with_reducible rfl)
        simp only [Act.put, List.setIfInBounds_toArray, List.set_cons_zero, List.set_cons_succ]
        refine take_at (i := 5) 17 (v := ?_) rfl rfl (by kernel_rfl) (by kernel_rfl) (by kernel_rfl) (fun _ _ _ h => h) (by rfl) ?_ hHeld ?_
        rotate_left
        · (intro w hSw; (try dsimp only at hSw); go_simp; try with_reducible rfl)
        simp only [Act.put, List.setIfInBounds_toArray, List.set_cons_zero, List.set_cons_succ]
        refine wpAnyH_done (by kernel_rfl) ?_ _
        refine NoPanic.normal ?_
        go_wp2
        go_roundw
        case rel => exact ⟨k + 1, by omega, by go_num, HBW.out.drew, HNX⟩
        case measure => simp [intOf]; omega
    · have hlti : ¬ (k : Int) < (n : Int) := by omega
      have HM : Hid (decide ((s1, s2) ∈ xs) = false) := by
        have h9 := HNO.out
        rw [List.take_of_length_le (by rw [← HN.out]; omega)] at h9
        unfold Hid
        rw [decide_eq_false_iff_not]
        exact h9
      have HBW : Hid _ := hbw
      clear hbw HNO
      go_wp2
      go_ret
      exact ⟨by rw [HM.out]; rfl, below_next HB1.out HBW.out⟩
end
end Go.Proofs.YtkdgjfjcpgiokaaGreat
