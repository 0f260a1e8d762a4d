import Derived.Test.YtkdgjfjcpgiokaaGreatLxP
namespace Go.Proofs.YtkdgjfjcpgiokaaGreat
set_option linter.unusedVariables false
set_option linter.unusedSimpArgs false
open Go.RowKit Go.Maps
def winN (n : Int) (m : Nat) : Nat := (n % (m : Int)).toNat
theorem winN_lt (n : Int) (m : Nat) (hm : 0 < m) : winN n m < m := by
  unfold winN
  have h1 := Int.emod_nonneg n (show (m : Int) ≠ 0 by omega)
  have h2 := Int.emod_lt_of_pos n (show 0 < (m : Int) by omega)
  omega
section
set_option maxRecDepth 20000
set_option maxHeartbeats 1600000
theorem winI_t (n : Int) (m : Nat) (hm : 0 < m) (hm2 : m ≤ 1099511627776) (w : World) (h0 : -9223372036854775808 ≤ n) (h1 : n ≤ 9223372036854775807) : Calls Tryz.prog 16 #[.int .i64 n, .int .i64 (m : Int)] w fun e w' => e = .returned (.int .i64 (winN n m : Int)) ∧ w' = w := by
  have hne : ((m : Int) == 0) = false := by simp; omega
  have hmi : (0 : Int) < (m : Int) := by omega
  have e1 := Int.tmod_add_mul_tdiv n (m : Int)
  have HW : Hid ((winN n m : Int) = n % (m : Int)) := by
    unfold Hid winN
    have := Int.emod_nonneg n (show (m : Int) ≠ 0 by omega)
    omega
  have HE : Hid (n % (m : Int) = if n.tmod (m : Int) < 0 then n.tmod (m : Int) + (m : Int) else n.tmod (m : Int)) := by
    unfold Hid
    have ht := Int.emod_emod_of_dvd
    have h2 : n.tmod (m : Int) = if 0 ≤ n then n % (m : Int) else -((-n) % (m : Int)) := by
      by_cases hn : 0 ≤ n
      · rw [if_pos hn, Int.tmod_eq_emod_of_nonneg hn]
      · rw [if_neg hn]
        have h3 : n = -(-n) := by omega
        rw [h3, Int.neg_tmod, Int.tmod_eq_emod_of_nonneg (by omega)]
        simp
    have h4 := Int.emod_nonneg n (show (m : Int) ≠ 0 by omega)
    have h5 := Int.emod_lt_of_pos n hmi
    have h6 := Int.emod_nonneg (-n) (show (m : Int) ≠ 0 by omega)
    have h7 := Int.emod_lt_of_pos (-n) hmi
    by_cases hn : 0 ≤ n
    · rw [if_pos hn] at h2
      rw [h2, if_neg (by omega)]
    · rw [if_neg hn] at h2
      rw [h2]
      have h8 : (n % (m : Int) + (-n) % (m : Int)) % (m : Int) = 0 := by rw [← Int.add_emod]; simp [Int.add_right_neg]
      by_cases h9 : (-n) % (m : Int) = 0
      · rw [h9] at h8 ⊢
        rw [Int.add_zero, Int.emod_emod_of_dvd _ (Int.dvd_refl _)] at h8
        simp [h8]
      · rw [if_pos (by omega)]
        have h10 : (n % (m : Int) + (-n) % (m : Int)) = (m : Int) := by
          have h11 : 0 < n % (m : Int) + (-n) % (m : Int) := by omega
          have h12 : n % (m : Int) + (-n) % (m : Int) < 2 * (m : Int) := by omega
          obtain ⟨c, hc⟩ := Int.dvd_of_emod_eq_zero h8
          have h13 : c = 1 := by
            rcases Int.lt_trichotomy c 1 with h | h | h
            · have : (m : Int) * c ≤ 0 := Int.mul_nonpos_of_nonneg_of_nonpos (by omega) (by omega)
              omega
            · exact h
            · have : (m : Int) * 2 ≤ (m : Int) * c := Int.mul_le_mul_of_nonneg_left (by omega) (by omega)
              omega
          rw [hc, h13]
          omega
        omega
  have hb1 : -(m : Int) < n.tmod (m : Int) := by have := Int.lt_tmod_of_pos n hmi; omega
  have hb2 : n.tmod (m : Int) < (m : Int) := Int.tmod_lt_of_pos n hmi
  have hmx : (m : Int) ≤ 1099511627776 := by omega
  clear e1
  by_cases hneg : n.tmod (m : Int) < 0
  · have hwr : IntKind.i64.wrap (n.tmod (m : Int) + (m : Int)) = n.tmod (m : Int) + (m : Int) := by rw [IntKind.wrap_i64]; omega
    have HR : Hid ((winN n m : Int) = n.tmod (m : Int) + (m : Int)) := by unfold Hid; rw [HW.out, HE.out, if_pos hneg]
    go_enter Tryz.func16, Tryz.ntmps16
    go_wp2
    go_ret
    exact ⟨by rw [HR.out]; first | rfl | (show Ending.returned (.int .i64 _) = Ending.returned (.int .i64 _); congr 2; omega), rfl⟩
  · have HR : Hid ((winN n m : Int) = n.tmod (m : Int)) := by unfold Hid; rw [HW.out, HE.out, if_neg hneg]
    go_enter Tryz.func16, Tryz.ntmps16
    go_wp2
    go_ret
    exact ⟨by rw [HR.out]; rfl, rfl⟩
theorem eql_ss (u : World) (a b c d : Int) : (binOp .eql tSs (.agg #[.int .u64 a, .int .u64 b]) (.agg #[.int .u64 c, .int .u64 d])).run Tryz.prog u = .ok (.bool (decide (a = c ∧ b = d))) u := by
  go_simp
  by_cases h1 : a = c <;> by_cases h2 : b = d <;> simp [h1, h2]
theorem hasI_t (a : Option Addr) (n c : Nat) (xs : List Ss) (hn : n = xs.length) (s : Ss) (w : World) (h : RdG KSs w a xs) (hl : n ≤ 16384) : Calls Tryz.prog 24 #[.slice a n c, sv s] w fun e w' => e = .returned (.bool (decide (s ∈ xs))) ∧ Below w.heap.size w w' := by
  obtain ⟨s1, s2⟩ := s
  have hkb := keyBox w (s1, s2)
  obtain ⟨w1, hw1⟩ : ∃ w1, w1 = w.alloc (.cells #[.int .u64 (s1 : Int), .int .u64 (s2 : Int)] tSs) := ⟨_, rfl⟩
  have hb1 : Below w.heap.size w w1 := by rw [hw1]; exact al (Below.refl _ _) _
  have hz1 : w1.heap.size = w.heap.size + 1 := by rw [hw1]; simp
  have hk : ∀ u, Below w1.heap.size w1 u → u.cell? ⟨w.heap.size, 0, none⟩ = some (.int .u64 (s1 : Int)) ∧ u.cell? ⟨w.heap.size, 1, none⟩ = some (.int .u64 (s2 : Int)) := fun u hu => by
    have h9 := hkb u (by rw [← hw1, ← hz1]; exact hu)
    exact ⟨h9.1, h9.2.1⟩
  have HN : Hid _ := hn
  have HR : Hid (RdG KSs w1 a xs) := h.below hb1
  have HW1 : Hid (w1 = _) := hw1
  have HB1 : Hid _ := hb1
  clear h hkb hb1 hz1 hw1 hn
  go_enter Tryz.func24, Tryz.ntmps24
  go_wp2
  rw [← HW1.out]
  go_loopw [5] (fun j wr => ∃ k : Nat, k ≤ n ∧ j = .int .i64 (k : Int) ∧ Below w1.heap.size w1 wr ∧ Hid ((s1, s2) ∉ xs.take k)) (fun j _ => n - (intOf j).toNat)
  case atStart => exact ⟨0, Nat.zero_le _, rfl, Below.refl _ _, by unfold Hid; simp⟩
  case round =>
    obtain ⟨k, hkn, rfl, hbw, HNO⟩ := hrel
    have hkw : IntKind.i64.wrap ((k : Int) + 1) = ((k + 1 : Nat) : Int) := by rw [IntKind.wrap_i64]; omega
    by_cases hlt : k < n
    · have hlti : (k : Int) < (n : Int) := by omega
      have hk0 : (0 : Int) ≤ (k : Int) := by omega
      have hk1 : k < xs.length := by rw [← HN.out]; exact hlt
      obtain ⟨b, o, rfl, r1, -⟩ := HR.out k hk1
      obtain ⟨x, hx⟩ : ∃ x : Ss, x = xs[k] := ⟨_, rfl⟩
      have g1 := r1 0 (.int .u64 (x.1 : Int)) (by rw [hx]; rfl)
      have g2 := r1 1 (.int .u64 (x.2 : Int)) (by rw [hx]; rfl)
      have hc : ∀ u, Below w1.heap.size w1 u → u.cell? ⟨b, o + k * 2, none⟩ = some (.int .u64 (x.1 : Int)) ∧ u.cell? ⟨b, o + k * 2 + 1, none⟩ = some (.int .u64 (x.2 : Int)) := fun u hu => ⟨(hu.cell (World.block_lt_of_cell? _ _ g1)).trans g1, (hu.cell (World.block_lt_of_cell? _ _ g2)).trans g2⟩
      have HX : Hid _ := hx
      have HBW : Hid _ := hbw
      obtain ⟨x1, x2⟩ := x
      by_cases he : (x1, x2) = (s1, s2)
      · have hq : ∀ u, (binOp .eql tSs (.agg #[.int .u64 (x1 : Int), .int .u64 (x2 : Int)]) (.agg #[.int .u64 (s1 : Int), .int .u64 (s2 : Int)])).run Tryz.prog u = .ok (.bool true) u := fun u => by rw [eql_ss]; cases he; simp
        have HM : Hid (decide ((s1, s2) ∈ xs) = true) := by unfold Hid; rw [decide_eq_true_eq, ← he, HX.out]; exact List.getElem_mem _
        clear r1 g1 g2 hx HX hk1 he
        go_wp2_with fail
        refine wp_region_noPanic ?_
        refine wp_region_held_drew (S := (fun u => Below w1.heap.size w1 u)) (by kernel_rfl) (by first | exact hbw.drew | assumption) (fun hHeld => ?_)
        refine take_at (i := 0) 12 (v := ?_) rfl rfl (by kernel_rfl) (by kernel_rfl) (by kernel_rfl) (fun _ _ _ h => h) (by rfl) ?_ hHeld ?_
        rotate_left
        · (intro w hSw; (try dsimp only at hSw); go_simp; try with_reducible rfl)
        simp only [Act.put, List.setIfInBounds_toArray, List.set_cons_zero, List.set_cons_succ]
        refine take_at (i := 1) 13 (v := ?_) rfl rfl (by kernel_rfl) (by kernel_rfl) (by kernel_rfl) (fun _ _ _ h => h) (by rfl) ?_ hHeld ?_
        rotate_left
        · (intro w hSw; (try dsimp only at hSw); go_simp; try with_reducible rfl)
        simp only [Act.put, List.setIfInBounds_toArray, List.set_cons_zero, List.set_cons_succ]
        refine take_at (i := 2) 14 (v := ?_) rfl rfl (by kernel_rfl) (by kernel_rfl) (by kernel_rfl) (fun _ _ _ h => h) (by rfl) ?_ hHeld ?_
        rotate_left
        · (intro w hSw; (try dsimp only at hSw); go_simp; try with_reducible rfl)
        simp only [Act.put, List.setIfInBounds_toArray, List.set_cons_zero, List.set_cons_succ]
        refine take_at (i := 3) 15 (v := ?_) rfl rfl (by kernel_rfl) (by kernel_rfl) (by kernel_rfl) (fun _ _ _ h => h) (by rfl) ?_ hHeld ?_
        rotate_left
        · (intro w hSw; (try dsimp only at hSw); go_simp; try with_reducible rfl)
        simp only [Act.put, List.setIfInBounds_toArray, List.set_cons_zero, List.set_cons_succ]
        refine take_at (i := 4) 16 (v := ?_) rfl rfl (by kernel_rfl) (by kernel_rfl) (by kernel_rfl) (fun _ _ _ h => h) (by rfl) ?_ hHeld ?_
        rotate_left
        · (intro w hSw; (try dsimp only at hSw); go_simp; try with_reducible rfl)
        simp only [Act.put, List.setIfInBounds_toArray, List.set_cons_zero, List.set_cons_succ]
        refine take_at (i := 5) 17 (v := ?_) rfl rfl (by kernel_rfl) (by kernel_rfl) (by kernel_rfl) (fun _ _ _ h => h) (by rfl) ?_ hHeld ?_
        rotate_left
        · (intro w hSw; (try dsimp only at hSw); go_simp; try with_reducible rfl)
        simp only [Act.put, List.setIfInBounds_toArray, List.set_cons_zero, List.set_cons_succ]
        refine wpAnyH_done (by kernel_rfl) ?_ _
        refine NoPanic.normal ?_
        go_wp2
        go_ret
        exact ⟨by rw [HM.out]; rfl, below_next HB1.out HBW.out.drew⟩
      · have hq : ∀ u, (binOp .eql tSs (.agg #[.int .u64 (x1 : Int), .int .u64 (x2 : Int)]) (.agg #[.int .u64 (s1 : Int), .int .u64 (s2 : Int)])).run Tryz.prog u = .ok (.bool false) u := fun u => by
          rw [eql_ss]
          have : ¬ ((x1 : Int) = s1 ∧ (x2 : Int) = s2) := fun h9 => he (by rw [show x1 = s1 by omega, show x2 = s2 by omega])
          simp [this]
        have HNX : Hid ((s1, s2) ∉ xs.take (k + 1)) := by
          unfold Hid
          rw [List.take_succ_eq_append_getElem hk1, List.mem_append, List.mem_singleton]
          rintro (h9 | h9)
          · exact HNO.out h9
          · exact he (by rw [HX.out]; exact h9.symm)
        clear r1 g1 g2 hx HX hk1 he HNO
        go_wp2_with fail
        refine wp_region_noPanic ?_
        refine wp_region_held_drew (S := (fun u => Below w1.heap.size w1 u)) (by kernel_rfl) (by first | exact hbw.drew | assumption) (fun hHeld => ?_)
        refine take_at (i := 0) 12 (v := ?_) rfl rfl (by kernel_rfl) (by kernel_rfl) (by kernel_rfl) (fun _ _ _ h => h) (by rfl) ?_ hHeld ?_
        rotate_left
        · (intro w hSw; (try dsimp only at hSw); go_simp; try with_reducible rfl)
        simp only [Act.put, List.setIfInBounds_toArray, List.set_cons_zero, List.set_cons_succ]
        refine take_at (i := 1) 13 (v := ?_) rfl rfl (by kernel_rfl) (by kernel_rfl) (by kernel_rfl) (fun _ _ _ h => h) (by rfl) ?_ hHeld ?_
        rotate_left
        · (intro w hSw; (try dsimp only at hSw); go_simp; try with_reducible rfl)
        simp only [Act.put, List.setIfInBounds_toArray, List.set_cons_zero, List.set_cons_succ]
        refine take_at (i := 2) 14 (v := ?_) rfl rfl (by kernel_rfl) (by kernel_rfl) (by kernel_rfl) (fun _ _ _ h => h) (by rfl) ?_ hHeld ?_
        rotate_left
        · (intro w hSw; (try dsimp only at hSw); go_simp; try with_reducible rfl)
        simp only [Act.put, List.setIfInBounds_toArray, List.set_cons_zero, List.set_cons_succ]
        refine take_at (i := 3) 15 (v := ?_) rfl rfl (by kernel_rfl) (by kernel_rfl) (by kernel_rfl) (fun _ _ _ h => h) (by rfl) ?_ hHeld ?_
        rotate_left
        · (intro w hSw; (try dsimp only at hSw); go_simp; try with_reducible rfl)
        simp only [Act.put, List.setIfInBounds_toArray, List.set_cons_zero, List.set_cons_succ]
        refine take_at (i := 4) 16 (v := ?_) rfl rfl (by kernel_rfl) (by kernel_rfl) (by kernel_rfl) (fun _ _ _ h => h) (by rfl) ?_ hHeld ?_
        rotate_left
        · (intro w hSw; (try dsimp only at hSw); go_simp; try with_reducible rfl)
        simp only [Act.put, List.setIfInBounds_toArray, List.set_cons_zero, List.set_cons_succ]
        refine take_at (i := 5) 17 (v := ?_) rfl rfl (by kernel_rfl) (by kernel_rfl) (by kernel_rfl) (fun _ _ _ h => h) (by rfl) ?_ hHeld ?_
        rotate_left
        · (intro w hSw; (try dsimp only at hSw); go_simp; try with_reducible rfl)
        simp only [Act.put, List.setIfInBounds_toArray, List.set_cons_zero, List.set_cons_succ]
        refine wpAnyH_done (by kernel_rfl) ?_ _
        refine NoPanic.normal ?_
        go_wp2
        go_roundw
        case rel => exact ⟨k + 1, by omega, by go_num, HBW.out.drew, HNX⟩
        case measure => simp [intOf]; omega
    · have hlti : ¬ (k : Int) < (n : Int) := by omega
      have HM : Hid (decide ((s1, s2) ∈ xs) = false) := by
        have h9 := HNO.out
        rw [List.take_of_length_le (by rw [← HN.out]; omega)] at h9
        unfold Hid
        rw [decide_eq_false_iff_not]
        exact h9
      have HBW : Hid _ := hbw
      clear hbw HNO
      go_wp2
      go_ret
      exact ⟨by rw [HM.out]; rfl, below_next HB1.out HBW.out⟩
end
end Go.Proofs.YtkdgjfjcpgiokaaGreat
namespace Go.Proofs.YtkdgjfjcpgiokaaGreat
set_option linter.unusedVariables false
set_option linter.unusedSimpArgs false
open Go.RowKit Go.Maps
theorem riseI_le (I : Ib) (e : Nat) : I.ep ≤ (riseI I e).ep := by
  unfold riseI
  split
  · simp only; omega
  · exact Nat.le_refl _
theorem segI_m (J : Ib) (u : Un) : (segI J u).ep = J.ep ∧ (segI J u).mo = J.mo ∧ (segI J u).ms = J.ms := by
  unfold segI
  split
  · exact ⟨rfl, rfl, rfl⟩
  · split <;> exact ⟨rfl, rfl, rfl⟩
theorem takeI_m (I : Ib) (u : Un) : I.ep ≤ (takeI I u).ep ∧ (takeI I u).mo = I.mo ∧ (takeI I u).ms = I.ms := by
  unfold takeI
  split
  · split
    · exact ⟨Nat.le_refl _, rfl, rfl⟩
    · obtain ⟨h1, h2, h3⟩ := segI_m (riseI I u.ep.toNat) u
      obtain ⟨h4, h5⟩ := riseI_m I u.ep.toNat
      exact ⟨by rw [h1]; exact riseI_le _ _, h2.trans h4, h3.trans h5⟩
  · exact ⟨Nat.le_refl _, rfl, rfl⟩
theorem decI_m (I : Ib) (s : Ss) (c : Int) : I.ep ≤ (decI I s c).ep ∧ (decI I s c).mo = I.mo ∧ (decI I s c).ms = I.ms := by
  unfold decI
  split
  · obtain ⟨h4, h5⟩ := riseI_m I s.1
    exact ⟨riseI_le _ _, h4, h5⟩
  · exact ⟨Nat.le_refl _, rfl, rfl⟩
theorem doI_m (I : Ib) (y : OpX) : I.ep ≤ (doI I y).ep ∧ (doI I y).mo = I.mo ∧ (doI I y).ms = I.ms := by
  unfold doI
  split
  · exact takeI_m _ _
  · split
    · exact decI_m _ _ _
    · split
      · exact ⟨Nat.le_refl _, rfl, rfl⟩
      · exact ⟨Nat.le_refl _, rfl, rfl⟩
/-- the rest behind a cell's row: a prefix can be read -/
theorem RdG.pre {α : Type} {K : Kd α} {w : World} {a : Option Addr} {xs : List α} (h : RdG K w a xs) (k : Nat) : RdG K w a (xs.take k) := fun j hj => by
  have hj' : j < xs.length := by rw [List.length_take] at hj; omega
  obtain ⟨b, o, h1, h2, h3⟩ := h j hj'
  exact ⟨b, o, h1, by rw [List.getElem_take]; exact h2, h3⟩
theorem IbOk.all {I : Ib} (h : IbOk I) : (ks I.O ++ ks I.H).Nodup ∧ (∀ s, s ∈ ks I.O ++ ks I.H → s.1 = I.ep) ∧ (ks I.O ++ ks I.H).length ≤ 4160 := by
  refine ⟨List.nodup_append.2 ⟨h.no, h.nh, fun a ha b hb e => h.ap a ha (e ▸ hb)⟩, fun s hs => (List.mem_append.1 hs).elim (h.eo s) (h.eh s), ?_⟩
  have := h.lo
  have := h.ls
  have := h.o1
  have := h.s1
  rw [List.length_append, len_ks, len_ks]
  omega
theorem opRange {u : World} {b o : Nat} {y : OpX} (h : u.rangeAt b o y.c.toList) : u.cell? ⟨b, o, none⟩ = some (.int .i64 y.kd) ∧ u.cell? ⟨b, o + 1, none⟩ = some (.int .i64 y.x.u.kind) ∧ u.cell? ⟨b, o + 2, none⟩ = some (.int .u64 y.x.u.ep) ∧ u.cell? ⟨b, o + 3, none⟩ = some (.int .u64 y.x.u.se) ∧ u.cell? ⟨b, o + 4, none⟩ = some (.int .i64 y.x.u.path) ∧ u.cell? ⟨b, o + 5, none⟩ = some (.int .i64 y.x.u.idx) ∧ u.cell? ⟨b, o + 6, none⟩ = some (.int .i64 y.x.u.cnt) ∧ u.cell? ⟨b, o + 7, none⟩ = some (.slice y.x.da y.x.dn y.x.dc) ∧ u.cell? ⟨b, o + 8, none⟩ = some (.int .i64 y.x.u.code) ∧ u.cell? ⟨b, o + 9, none⟩ = some (.slice y.x.ga y.x.gn y.x.gc) ∧ u.cell? ⟨b, o + 10, none⟩ = some (.int .u64 (y.e : Int)) ∧ u.cell? ⟨b, o + 11, none⟩ = some (.int .u64 (y.n : Int)) ∧ u.cell? ⟨b, o + 12, none⟩ = some (.int .i64 y.cd) :=
  ⟨h 0 _ rfl, h 1 _ rfl, h 2 _ rfl, h 3 _ rfl, h 4 _ rfl, h 5 _ rfl, h 6 _ rfl, h 7 _ rfl, h 8 _ rfl, h 9 _ rfl, h 10 _ rfl, h 11 _ rfl, h 12 _ rfl⟩
end Go.Proofs.YtkdgjfjcpgiokaaGreat
namespace Go.Proofs.YtkdgjfjcpgiokaaGreat
set_option linter.unusedVariables false
set_option linter.unusedSimpArgs false
open Go.RowKit Go.Maps
/-- what was written down of what was decided -/
abbrev Cd : Type := Ss × Int
def Bok (B : List Cd) (I : Ib) : Prop := ∀ s c, lk I.H s = some c → lk B.reverse s = some c
theorem Bok.nil (B : List Cd) {I : Ib} (h : I.H = []) : Bok B I := fun s c hs => by rw [h] at hs; cases hs
theorem Bok.sub {B : List Cd} {I J : Ib} (h : Bok B I) (hJ : ∀ s c, lk J.H s = some c → lk I.H s = some c) : Bok B J := fun s c hs => h s c (hJ s c hs)
section
variable {α : Type}
theorem lk_app : ∀ (L M : List (Ss × α)) (s : Ss), lk (L ++ M) s = (lk L s).or (lk M s)
  | [], M, s => rfl
  | x :: r, M, s => by
    show (if x.1 = s then some x.2 else lk (r ++ M) s) = (if x.1 = s then some x.2 else lk r s).or (lk M s)
    by_cases h : x.1 = s
    · rw [if_pos h, if_pos h]; rfl
    · rw [if_neg h, if_neg h]; exact lk_app r M s
/-- what is looked up in a row after a put -/
theorem lk_pt {m : Nat} {L : List (Ss × α)} {s t : Ss} {a c : α} (hn : (ks L).Nodup) (h : lk (pt m L s a) t = some c) : (t = s ∧ c = a) ∨ (t ≠ s ∧ lk L t = some c) := by
  have hm := lk_mem h
  rw [pt, List.mem_append, List.mem_singleton] at hm
  rcases hm with hm | hm
  · have h1 : (t, c) ∈ L ∧ (s ∈ ks L → t ≠ s) := by
      by_cases hs : s ∈ ks L
      · rw [if_pos hs] at hm
        obtain ⟨h2, h3⟩ := mem_rm.1 hm
        exact ⟨h2, fun _ => h3⟩
      · rw [if_neg hs] at hm
        refine ⟨?_, fun h9 => absurd h9 hs⟩
        split at hm
        · exact List.mem_of_mem_drop hm
        · exact hm
    refine .inr ⟨fun e => ?_, lk_of hn h1.1⟩
    by_cases hs : s ∈ ks L
    · exact h1.2 hs e
    · exact hs (e ▸ mem_ks h1.1)
  · cases hm
    exact .inl ⟨rfl, rfl⟩
end
theorem riseI_H (I : Ib) (e : Nat) (s : Ss) (c : Int) (h : lk (riseI I e).H s = some c) : lk I.H s = some c := by
  unfold riseI at h
  split at h
  · cases h
  · exact h
theorem riseI_nh {I : Ib} (h : IbOk I) (e : Nat) : (ks (riseI I e).H).Nodup := by
  unfold riseI
  split
  · exact List.nodup_nil
  · exact h.nh
theorem segI_H {J : Ib} (hn : (ks J.H).Nodup) (u : Un) (s : Ss) (c : Int) (h : lk (segI J u).H s = some c) : lk J.H s = some c := by
  unfold segI at h
  split at h
  · rename_i d hd
    rcases lk_pt hn h with ⟨rfl, rfl⟩ | ⟨-, h2⟩
    · exact hd
    · exact h2
  · split at h
    · exact h
    · exact h
theorem takeI_H {I : Ib} (hI : IbOk I) (u : Un) (s : Ss) (c : Int) (h : lk (takeI I u).H s = some c) : lk I.H s = some c := by
  unfold takeI at h
  split at h
  · split at h
    · exact h
    · exact riseI_H _ _ _ _ (segI_H (riseI_nh hI _) u s c h)
  · exact h
/-- a call that decides nothing -/
theorem Bok.do1 {B : List Cd} {I : Ib} (h : Bok B I) (hI : IbOk I) (y : OpX) (hy : y.kd ≠ 2 ∨ doE I y ≠ 0) : Bok B (doI I y) := by
  refine h.sub fun s c hs => ?_
  unfold doI at hs
  unfold doE at hy
  split at hs
  · exact takeI_H hI _ _ _ hs
  · split at hs
    · rename_i h1 h2
      rw [if_pos h2] at hy
      unfold decI at hs
      rw [if_neg (hy.resolve_left (fun h9 => h9 h2))] at hs
      exact hs
    · split at hs
      · exact hs
      · exact hs
/-- a call that decides -/
theorem Bok.do2 {B : List Cd} {I : Ib} (h : Bok B I) (hI : IbOk I) (y : OpX) (hy : y.kd = 2) (he : doE I y = 0) : Bok (B ++ [(y.s, y.cd)]) (doI I y) := by
  intro s c hs
  unfold doE at he
  rw [if_pos hy] at he
  unfold doI at hs
  rw [if_neg (by rw [hy]; decide), if_pos hy] at hs
  unfold decI at hs
  rw [if_pos he] at hs
  rw [List.reverse_append]
  show (if y.s = s then some y.cd else lk B.reverse s) = some c
  rcases lk_pt (riseI_nh hI _) hs with ⟨rfl, rfl⟩ | ⟨h1, h2⟩
  · rw [if_pos rfl]
  · rw [if_neg (fun e => h1 e.symm)]
    exact h s c (riseI_H _ _ _ _ h2)
/-- a decided session is not decided again -/
theorem dec_not {I : Ib} {y : OpX} (hy : y.kd = 2) (he : doE I y = 0) : y.s ∉ ks I.H := fun h => by
  unfold doE at he
  rw [if_pos hy] at he
  unfold decE at he
  rw [if_pos h] at he
  split at he
  · cases he
  · split at he
    · cases he
    · cases he
/-- what a Take answers of a session that was decided -/
theorem take_in {I : Ib} (hI : IbOk I) {u : Un} (hd : dataB u = true) (h : sesU u ∈ ks I.H) : ∃ c, lk I.H (sesU u) = some c ∧ takeA I u = ⟨5, c, none⟩ := by
  have h1 : u.ep.toNat = I.ep := hI.eh _ h
  obtain ⟨c, hc⟩ : ∃ c, lk I.H (sesU u) = some c := by
    cases h9 : lk I.H (sesU u) with
    | none => exact absurd h (lk_none.1 h9)
    | some c => exact ⟨c, rfl⟩
  refine ⟨c, hc, ?_⟩
  unfold takeA
  rw [if_pos hd, if_neg (by omega)]
  have h2 : riseI I u.ep.toNat = I := by unfold riseI; rw [if_neg (by omega)]
  rw [h2]
  unfold segA
  rw [hc]
theorem tellA_st (S : List Seg) : (tellA S).st ≠ 5 := by
  unfold tellA
  split <;> simp
/-- one that was not is not told as decided -/
theorem take_out {I : Ib} {u : Un} (h : sesU u ∉ ks I.H) : (takeA I u).st ≠ 5 := by
  unfold takeA
  split
  · split
    · simp
    · unfold segA
      split
      · rename_i c hc
        exact absurd (lk_none.2 h) (by rw [riseI_H _ _ _ _ hc]; simp)
      · split
        · exact tellA_st _
        · simp
  · simp
/-- rows of codes -/
abbrev tCd : TypeId := 78
abbrev KCd : Kd Cd := { t := tCd, ts := 75, k := 3, by_ := 24, f := fun x => [.int .u64 (x.1.1 : Int), .int .u64 (x.1.2 : Int), .int .i64 x.2], z := .agg #[.int .u64 0, .int .u64 0, .int .i64 0], hk := fun _ => rfl, h1 := (fun d u hu => by simp at hu; rcases hu with rfl | rfl | rfl <;> rfl), hpos := by decide, ht := Tryz.underlying75, hi := by kernel_rfl, hz := rfl }
section
set_option maxRecDepth 20000
set_option maxHeartbeats 1600000
theorem wrote_t (a : Option Addr) (n c : Nat) (B : List Cd) (hn : n = B.length) (s : Ss) (cd : Int) (w : World) (h : RdG KCd w a B) (hl : n ≤ 4398046511103) (hs : lk B.reverse s = some cd) : Calls Tryz.prog 26 #[.slice a n c, sv s, .int .i64 cd] w fun e w' => e = .returned (.bool true) ∧ Below w.heap.size w w' := by
  obtain ⟨s1, s2⟩ := s
  have hkb := keyBox w (s1, s2)
  obtain ⟨w1, hw1⟩ : ∃ w1, w1 = w.alloc (.cells #[.int .u64 (s1 : Int), .int .u64 (s2 : Int)] tSs) := ⟨_, rfl⟩
  have hb1 : Below w.heap.size w w1 := by rw [hw1]; exact al (Below.refl _ _) _
  have hz1 : w1.heap.size = w.heap.size + 1 := by rw [hw1]; simp
  have hk : ∀ u, Below w1.heap.size w1 u → u.cell? ⟨w.heap.size, 0, none⟩ = some (.int .u64 (s1 : Int)) ∧ u.cell? ⟨w.heap.size, 1, none⟩ = some (.int .u64 (s2 : Int)) := fun u hu => by
    have h9 := hkb u (by rw [← hw1, ← hz1]; exact hu)
    exact ⟨h9.1, h9.2.1⟩
  have HN : Hid _ := hn
  have HS0 : Hid (lk (B.take n).reverse (s1, s2) = some cd) := by unfold Hid; rw [hn, List.take_length]; exact hs
  have HR : Hid (RdG KCd w1 a B) := h.below hb1
  have HW1 : Hid (w1 = _) := hw1
  have HB1 : Hid _ := hb1
  have hnw : IntKind.i64.wrap ((n : Int) - 1) = (n : Int) - 1 := by rw [IntKind.wrap_i64]; omega
  clear h hkb hb1 hz1 hw1 hn hs
  go_enter Tryz.func26, Tryz.ntmps26
  go_wp2
  rw [← HW1.out]
  go_loopw [7] (fun j wr => ∃ k : Nat, k ≤ n ∧ j = .int .i64 ((k : Int) - 1) ∧ Below w1.heap.size w1 wr ∧ Hid (lk (B.take k).reverse (s1, s2) = some cd)) (fun j _ => (intOf j + 1).toNat)
  case atStart => exact ⟨n, Nat.le_refl _, by go_num, Below.refl _ _, HS0⟩
  case round =>
    obtain ⟨k, hkn, rfl, hbw, HS⟩ := hrel
    obtain _ | k := k
    · exact absurd HS.out (by simp [lk])
    · have hci : ((k + 1 : Nat) : Int) - 1 = (k : Int) := by omega
      rw [hci]
      have hkw : IntKind.i64.wrap ((k : Int) - 1) = (k : Int) - 1 := by rw [IntKind.wrap_i64]; omega
      have hk0 : (0 : Int) ≤ (k : Int) := by omega
      have hlti : (k : Int) < (n : Int) := by omega
      have hk1 : k < B.length := by rw [← HN.out]; omega
      obtain ⟨b, o, rfl, r1, -⟩ := HR.out k hk1
      obtain ⟨x, hx⟩ : ∃ x : Cd, x = B[k] := ⟨_, rfl⟩
      have g1 := r1 0 (.int .u64 (x.1.1 : Int)) (by rw [hx]; rfl)
      have g2 := r1 1 (.int .u64 (x.1.2 : Int)) (by rw [hx]; rfl)
      have g3 := r1 2 (.int .i64 x.2) (by rw [hx]; rfl)
      have hc : ∀ u, Below w1.heap.size w1 u → u.cell? ⟨b, o + k * 3, none⟩ = some (.int .u64 (x.1.1 : Int)) ∧ u.cell? ⟨b, o + k * 3 + 1, none⟩ = some (.int .u64 (x.1.2 : Int)) ∧ u.cell? ⟨b, o + k * 3 + 2, none⟩ = some (.int .i64 x.2) := fun u hu => ⟨(hu.cell (World.block_lt_of_cell? _ _ g1)).trans g1, (hu.cell (World.block_lt_of_cell? _ _ g2)).trans g2, (hu.cell (World.block_lt_of_cell? _ _ g3)).trans g3⟩
      have HBW : Hid _ := hbw
      have HSX : Hid ((if x.1 = (s1, s2) then some x.2 else lk (B.take k).reverse (s1, s2)) = some cd) := by
        have h9 := HS.out
        rw [List.take_succ_eq_append_getElem hk1, List.reverse_append, ← hx] at h9
        exact h9
      obtain ⟨⟨x1, x2⟩, x3⟩ := x
      by_cases he : (x1, x2) = (s1, s2)
      · have hq : ∀ u, (binOp .eql tSs (.agg #[.int .u64 (x1 : Int), .int .u64 (x2 : Int)]) (.agg #[.int .u64 (s1 : Int), .int .u64 (s2 : Int)])).run Tryz.prog u = .ok (.bool true) u := fun u => by rw [eql_ss]; cases he; simp
        have hcd : x3 = cd := by
          have h9 := HSX.out
          rw [if_pos he] at h9
          exact Option.some.inj h9
        subst hcd
        have hcw := (hc _ hbw.drew).2.2
        clear r1 g1 g2 g3 hx hk1 he HS HSX HS0
        go_wp2_with fail
        refine wp_region_noPanic ?_
        refine wp_region_held_drew (S := (fun u => Below w1.heap.size w1 u)) (by kernel_rfl) (by first | exact hbw.drew | assumption) (fun hHeld => ?_)
        refine take_at (i := 0) 15 (v := ?_) rfl rfl (by kernel_rfl) (by kernel_rfl) (by kernel_rfl) (fun _ _ _ h => h) (by rfl) ?_ hHeld ?_
        rotate_left
        · (intro w hSw; (try dsimp only at hSw); go_simp; try with_reducible rfl)
        simp only [Act.put, List.setIfInBounds_toArray, List.set_cons_zero, List.set_cons_succ]
        refine take_at (i := 1) 16 (v := ?_) rfl rfl (by kernel_rfl) (by kernel_rfl) (by kernel_rfl) (fun _ _ _ h => h) (by rfl) ?_ hHeld ?_
        rotate_left
        · (intro w hSw; (try dsimp only at hSw); go_simp; try with_reducible rfl)
        simp only [Act.put, List.setIfInBounds_toArray, List.set_cons_zero, List.set_cons_succ]
        refine take_at (i := 2) 17 (v := ?_) rfl rfl (by kernel_rfl) (by kernel_rfl) (by kernel_rfl) (fun _ _ _ h => h) (by rfl) ?_ hHeld ?_
        rotate_left
        · (intro w hSw; (try dsimp only at hSw); go_simp; try with_reducible rfl)
        simp only [Act.put, List.setIfInBounds_toArray, List.set_cons_zero, List.set_cons_succ]
        refine take_at (i := 3) 18 (v := ?_) rfl rfl (by kernel_rfl) (by kernel_rfl) (by kernel_rfl) (fun _ _ _ h => h) (by rfl) ?_ hHeld ?_
        rotate_left
        · (intro w hSw; (try dsimp only at hSw); go_simp; try with_reducible rfl)
        simp only [Act.put, List.setIfInBounds_toArray, List.set_cons_zero, List.set_cons_succ]
        refine take_at (i := 4) 19 (v := ?_) rfl rfl (by kernel_rfl) (by kernel_rfl) (by kernel_rfl) (fun _ _ _ h => h) (by rfl) ?_ hHeld ?_
        rotate_left
        · (intro w hSw; (try dsimp only at hSw); go_simp; try with_reducible rfl)
        simp only [Act.put, List.setIfInBounds_toArray, List.set_cons_zero, List.set_cons_succ]
        refine take_at (i := 5) 20 (v := ?_) rfl rfl (by kernel_rfl) (by kernel_rfl) (by kernel_rfl) (fun _ _ _ h => h) (by rfl) ?_ hHeld ?_
        rotate_left
        · (intro w hSw; (try dsimp only at hSw); go_simp; try with_reducible rfl)
        simp only [Act.put, List.setIfInBounds_toArray, List.set_cons_zero, List.set_cons_succ]
        refine take_at (i := 6) 21 (v := ?_) rfl rfl (by kernel_rfl) (by kernel_rfl) (by kernel_rfl) (fun _ _ _ h => h) (by rfl) ?_ hHeld ?_
        rotate_left
        · (intro w hSw; (try dsimp only at hSw); go_simp; try with_reducible rfl)
        simp only [Act.put, List.setIfInBounds_toArray, List.set_cons_zero, List.set_cons_succ]
        refine wpAnyH_done (by kernel_rfl) ?_ _
        refine NoPanic.normal ?_
        go_wp2
        go_ret
        exact ⟨rfl, below_next HB1.out HBW.out.drew⟩
      · have hq : ∀ u, (binOp .eql tSs (.agg #[.int .u64 (x1 : Int), .int .u64 (x2 : Int)]) (.agg #[.int .u64 (s1 : Int), .int .u64 (s2 : Int)])).run Tryz.prog u = .ok (.bool false) u := fun u => by
          rw [eql_ss]
          have : ¬ ((x1 : Int) = s1 ∧ (x2 : Int) = s2) := fun h9 => he (by rw [show x1 = s1 by omega, show x2 = s2 by omega])
          simp [this]
        have HSN : Hid (lk (B.take k).reverse (s1, s2) = some cd) := by
          have h9 := HSX.out
          rw [if_neg he] at h9
          exact h9
        clear r1 g1 g2 g3 hx hk1 he HS HSX HS0
        go_wp2_with fail
        refine wp_region_noPanic ?_
        refine wp_region_held_drew (S := (fun u => Below w1.heap.size w1 u)) (by kernel_rfl) (by first | exact hbw.drew | assumption) (fun hHeld => ?_)
        refine take_at (i := 0) 15 (v := ?_) rfl rfl (by kernel_rfl) (by kernel_rfl) (by kernel_rfl) (fun _ _ _ h => h) (by rfl) ?_ hHeld ?_
        rotate_left
        · (intro w hSw; (try dsimp only at hSw); go_simp; try with_reducible rfl)
        simp only [Act.put, List.setIfInBounds_toArray, List.set_cons_zero, List.set_cons_succ]
        refine take_at (i := 1) 16 (v := ?_) rfl rfl (by kernel_rfl) (by kernel_rfl) (by kernel_rfl) (fun _ _ _ h => h) (by rfl) ?_ hHeld ?_
        rotate_left
        · (intro w hSw; (try dsimp only at hSw); go_simp; try with_reducible rfl)
        simp only [Act.put, List.setIfInBounds_toArray, List.set_cons_zero, List.set_cons_succ]
        refine take_at (i := 2) 17 (v := ?_) rfl rfl (by kernel_rfl) (by kernel_rfl) (by kernel_rfl) (fun _ _ _ h => h) (by rfl) ?_ hHeld ?_
        rotate_left
        · (intro w hSw; (try dsimp only at hSw); go_simp; try with_reducible rfl)
        simp only [Act.put, List.setIfInBounds_toArray, List.set_cons_zero, List.set_cons_succ]
        refine take_at (i := 3) 18 (v := ?_) rfl rfl (by kernel_rfl) (by kernel_rfl) (by kernel_rfl) (fun _ _ _ h => h) (by rfl) ?_ hHeld ?_
        rotate_left
        · (intro w hSw; (try dsimp only at hSw); go_simp; try with_reducible rfl)
        simp only [Act.put, List.setIfInBounds_toArray, List.set_cons_zero, List.set_cons_succ]
        refine take_at (i := 4) 19 (v := ?_) rfl rfl (by kernel_rfl) (by kernel_rfl) (by kernel_rfl) (fun _ _ _ h => h) (by rfl) ?_ hHeld ?_
        rotate_left
        · (intro w hSw; (try dsimp only at hSw); go_simp; try with_reducible rfl)
        simp only [Act.put, List.setIfInBounds_toArray, List.set_cons_zero, List.set_cons_succ]
        refine take_at (i := 5) 20 (v := ?_) rfl rfl (by kernel_rfl) (by kernel_rfl) (by kernel_rfl) (fun _ _ _ h => h) (by rfl) ?_ hHeld ?_
        rotate_left
        · (intro w hSw; (try dsimp only at hSw); go_simp; try with_reducible rfl)
        simp only [Act.put, List.setIfInBounds_toArray, List.set_cons_zero, List.set_cons_succ]
        refine take_at (i := 6) 21 (v := ?_) rfl rfl (by kernel_rfl) (by kernel_rfl) (by kernel_rfl) (fun _ _ _ h => h) (by rfl) ?_ hHeld ?_
        rotate_left
        · (intro w hSw; (try dsimp only at hSw); go_simp; try with_reducible rfl)
        simp only [Act.put, List.setIfInBounds_toArray, List.set_cons_zero, List.set_cons_succ]
        refine wpAnyH_done (by kernel_rfl) ?_ _
        refine NoPanic.normal ?_
        go_wp2
        go_roundw
        case rel => exact ⟨k, by omega, by go_num, HBW.out.drew, HSN⟩
        case measure => simp [intOf]
end
end Go.Proofs.YtkdgjfjcpgiokaaGreat
