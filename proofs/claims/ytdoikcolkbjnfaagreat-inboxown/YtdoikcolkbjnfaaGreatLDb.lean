import Derived.Test.YtdoikcolkbjnfaaGreatLxP
namespace Go.Proofs.YtdoikcolkbjnfaaGreat
set_option linter.unusedVariables false
set_option linter.unusedSimpArgs false
open Go.RowKit Go.Maps
def winN (n : Int) (m : Nat) : Nat := (n % (m : Int)).toNat
theorem winN_lt (n : Int) (m : Nat) (hm : 0 < m) : winN n m < m := by
  unfold winN
  have h1 := Int.emod_nonneg n (show (m : Int) ≠ 0 by omega)
  have h2 := Int.emod_lt_of_pos n (show 0 < (m : Int) by omega)
  omega
section
set_option maxRecDepth 20000
set_option maxHeartbeats 1600000
theorem winI_t (n : Int) (m : Nat) (hm : 0 < m) (hm2 : m ≤ 1099511627776) (w : World) (h0 : -9223372036854775808 ≤ n) (h1 : n ≤ 9223372036854775807) : Calls Tryz.prog 13 #[.int .i64 n, .int .i64 (m : Int)] w fun e w' => e = .returned (.int .i64 (winN n m : Int)) ∧ w' = w := by
  have hne : ((m : Int) == 0) = false := by simp; omega
  have hmi : (0 : Int) < (m : Int) := by omega
  have e1 := Int.tmod_add_mul_tdiv n (m : Int)
  have HW : Hid ((winN n m : Int) = n % (m : Int)) := by
    unfold Hid winN
    have := Int.emod_nonneg n (show (m : Int) ≠ 0 by omega)
    omega
  have HE : Hid (n % (m : Int) = if n.tmod (m : Int) < 0 then n.tmod (m : Int) + (m : Int) else n.tmod (m : Int)) := by
    unfold Hid
    have ht := Int.emod_emod_of_dvd
    have h2 : n.tmod (m : Int) = if 0 ≤ n then n % (m : Int) else -((-n) % (m : Int)) := by
      by_cases hn : 0 ≤ n
      · rw [if_pos hn, Int.tmod_eq_emod_of_nonneg hn]
      · rw [if_neg hn]
        have h3 : n = -(-n) := by omega
        rw [h3, Int.neg_tmod, Int.tmod_eq_emod_of_nonneg (by omega)]
        simp
    have h4 := Int.emod_nonneg n (show (m : Int) ≠ 0 by omega)
    have h5 := Int.emod_lt_of_pos n hmi
    have h6 := Int.emod_nonneg (-n) (show (m : Int) ≠ 0 by omega)
    have h7 := Int.emod_lt_of_pos (-n) hmi
    by_cases hn : 0 ≤ n
    · rw [if_pos hn] at h2
      rw [h2, if_neg (by omega)]
    · rw [if_neg hn] at h2
      rw [h2]
      have h8 : (n % (m : Int) + (-n) % (m : Int)) % (m : Int) = 0 := by rw [← Int.add_emod]; simp [Int.add_right_neg]
      by_cases h9 : (-n) % (m : Int) = 0
      · rw [h9] at h8 ⊢
        rw [Int.add_zero, Int.emod_emod_of_dvd _ (Int.dvd_refl _)] at h8
        simp [h8]
      · rw [if_pos (by omega)]
        have h10 : (n % (m : Int) + (-n) % (m : Int)) = (m : Int) := by
          have h11 : 0 < n % (m : Int) + (-n) % (m : Int) := by omega
          have h12 : n % (m : Int) + (-n) % (m : Int) < 2 * (m : Int) := by omega
          obtain ⟨c, hc⟩ := Int.dvd_of_emod_eq_zero h8
          have h13 : c = 1 := by
            rcases Int.lt_trichotomy c 1 with h | h | h
            · have : (m : Int) * c ≤ 0 := Int.mul_nonpos_of_nonneg_of_nonpos (by omega) (by omega)
              omega
            · exact h
            · have : (m : Int) * 2 ≤ (m : Int) * c := Int.mul_le_mul_of_nonneg_left (by omega) (by omega)
              omega
          rw [hc, h13]
          omega
        omega
  have hb1 : -(m : Int) < n.tmod (m : Int) := by have := Int.lt_tmod_of_pos n hmi; omega
  have hb2 : n.tmod (m : Int) < (m : Int) := Int.tmod_lt_of_pos n hmi
  have hmx : (m : Int) ≤ 1099511627776 := by omega
  clear e1
  by_cases hneg : n.tmod (m : Int) < 0
  · have hwr : IntKind.i64.wrap (n.tmod (m : Int) + (m : Int)) = n.tmod (m : Int) + (m : Int) := by rw [IntKind.wrap_i64]; omega
    have HR : Hid ((winN n m : Int) = n.tmod (m : Int) + (m : Int)) := by unfold Hid; rw [HW.out, HE.out, if_pos hneg]
    go_enter Tryz.func13, Tryz.ntmps13
    go_wp2
    go_ret
    exact ⟨by rw [HR.out]; first | rfl | (show Ending.returned (.int .i64 _) = Ending.returned (.int .i64 _); congr 2; omega), rfl⟩
  · have HR : Hid ((winN n m : Int) = n.tmod (m : Int)) := by unfold Hid; rw [HW.out, HE.out, if_neg hneg]
    go_enter Tryz.func13, Tryz.ntmps13
    go_wp2
    go_ret
    exact ⟨by rw [HR.out]; rfl, rfl⟩
end
end Go.Proofs.YtdoikcolkbjnfaaGreat
namespace Go.Proofs.YtdoikcolkbjnfaaGreat
set_option linter.unusedVariables false
set_option linter.unusedSimpArgs false
open Go.RowKit Go.Maps
abbrev tRs : TypeId := 98
/-- the document's inbox: its cells and its rows -/
structure RiM (w : World) (q : Nat) (mo ms ep : Nat) (vo vs : Value) (XO : List (Ss × Nat)) (XH : List (Ss × Int)) : Prop where
  hp : w.heap[q]? = some (.cells #[.int .i64 (mo : Int), .int .i64 (ms : Int), .int .u64 (ep : Int), vo, vs] tRi (0, 0))
  ro : OwnG KO w 0 vo XO
  rs : OwnG KH w 0 vs XH
section
variable {w w' : World} {q mo ms ep : Nat} {vo vs : Value} {XO : List (Ss × Nat)} {XH : List (Ss × Int)}
theorem RiM.below (h : RiM w q mo ms ep vo vs XO XH) (hb : Below w.heap.size w w') : RiM w' q mo ms ep vo vs XO XH := ⟨(hb.block _ (Array.getElem?_eq_some_iff.1 h.hp).1).trans h.hp, OwnG.below h.ro hb, OwnG.below h.rs hb⟩
theorem RiM.cell (h : RiM w q mo ms ep vo vs XO XH) : w.cell? ⟨q, 0, none⟩ = some (.int .i64 (mo : Int)) ∧ w.cell? ⟨q, 1, none⟩ = some (.int .i64 (ms : Int)) ∧ w.cell? ⟨q, 2, none⟩ = some (.int .u64 (ep : Int)) ∧ w.cell? ⟨q, 3, none⟩ = some vo ∧ w.cell? ⟨q, 4, none⟩ = some vs := by
  have h9 := h.hp
  exact ⟨by rw [cell_of_row _ _ _ _ _ _ h9]; rfl, by rw [cell_of_row _ _ _ _ _ _ h9]; rfl, by rw [cell_of_row _ _ _ _ _ _ h9]; rfl, by rw [cell_of_row _ _ _ _ _ _ h9]; rfl, by rw [cell_of_row _ _ _ _ _ _ h9]; rfl⟩
theorem RiM.fz (h : RiM w q mo ms ep vo vs XO XH) (i : Nat) : w.frozen? ⟨q, i, none⟩ = false := by simp [World.frozen?, h.hp]
/-- where a session was found -/
def FindP {α : Type} (X : List (Ss × α)) (s : Ss) (e : Ending) : Prop := (∃ i, ∃ hi : i < X.length, X[i].1 = s ∧ e = .returned (.int .i64 (i : Int))) ∨ (s ∉ ks X ∧ e = .returned (.int .i64 (-1)))
set_option maxRecDepth 20000
set_option maxHeartbeats 3200000
theorem rise_no (h : RiM w q mo ms ep vo vs XO XH) (e : Nat) (he : ¬ ep < e) : Calls Tryz.prog 49 #[.pointer (some ⟨q, 0, none⟩), .int .u64 (e : Int)] w fun r w' => r = .returned (.tuple #[]) ∧ w' = w := by
  obtain ⟨c0, c1, c2, c3, c4⟩ := h.cell
  have hei : ¬ (ep : Int) < (e : Int) := by omega
  clear h he
  go_enter Tryz.func49, Tryz.ntmps49
  go_wp2
  exact bodyPost_end (results_none rfl _ _ _) rfl ⟨rfl, rfl⟩
theorem rise_up (h : RiM w q mo ms ep vo vs XO XH) (e : Nat) (he : ep < e) : Calls Tryz.prog 49 #[.pointer (some ⟨q, 0, none⟩), .int .u64 (e : Int)] w fun r w' => r = .returned (.tuple #[]) ∧ RiM w' q mo ms e (.slice none 0 0) (.slice none 0 0) [] [] ∧ Chg (fun b => b = q) w w' := by
  obtain ⟨c0, c1, c2, c3, c4⟩ := h.cell
  have f2 := h.fz 2
  have f3 := h.fz 3
  have f4 := h.fz 4
  have hei : (ep : Int) < (e : Int) := by omega
  have HP : Hid _ := h.hp
  clear h he
  go_enter Tryz.func49, Tryz.ntmps49
  go_wp2
  refine bodyPost_end (results_none rfl _ _ _) rfl ⟨rfl, ⟨?_, World.ownsRow_nil _ _ _ _, World.ownsRow_nil _ _ _ _⟩, Chg.of_grown (((gset1 w q 2 _).trans' (gset1 _ q 3 _)).trans' (gset1 _ q 4 _)) (fun b e => (Option.some.inj e).symm)⟩
  have h1 := heap_setCell_same w q 2 _ _ (.int .u64 (e : Int)) HP.out
  have h2 := heap_setCell_same _ q 3 _ _ (.slice none 0 0) h1
  have h3 := heap_setCell_same _ q 4 _ _ (.slice none 0 0) h2
  exact h3
theorem eql_rs (u : World) (a b c d : Int) : (binOp .eql tRs (.agg #[.int .u64 a, .int .u64 b]) (.agg #[.int .u64 c, .int .u64 d])).run Tryz.prog u = .ok (.bool (decide (a = c ∧ b = d))) u := by
  go_simp
  by_cases h1 : a = c <;> by_cases h2 : b = d <;> simp [h1, h2]
theorem rsBox (w : World) (s : Ss) : ∀ u, Below (w.heap.size + 1) (w.alloc (.cells #[.int .u64 (s.1 : Int), .int .u64 (s.2 : Int)] tRs)) u → u.cell? ⟨w.heap.size, 0, none⟩ = some (.int .u64 (s.1 : Int)) ∧ u.cell? ⟨w.heap.size, 1, none⟩ = some (.int .u64 (s.2 : Int)) := fun u hu => by
  have h9 := (hu.block w.heap.size (Nat.lt_succ_self _)).trans (heap_alloc_new _ _)
  exact ⟨by rw [cell_of_row _ _ _ _ _ _ h9]; rfl, by rw [cell_of_row _ _ _ _ _ _ h9]; rfl⟩
theorem ropen_t (h : RiM w q mo ms ep vo vs XO XH) (s : Ss) (hl : XO.length ≤ 16384) : Calls Tryz.prog 73 #[.pointer (some ⟨q, 0, none⟩), sv s] w fun e w' => FindP XO s e ∧ Below w.heap.size w w' := by
  obtain ⟨s1, s2⟩ := s
  have hkb := rsBox w (s1, s2)
  obtain ⟨w1, hw1⟩ : ∃ w1, w1 = w.alloc (.cells #[.int .u64 (s1 : Int), .int .u64 (s2 : Int)] tRs) := ⟨_, rfl⟩
  have hb1 : Below w.heap.size w w1 := by rw [hw1]; exact al (Below.refl _ _) _
  have hz1 : w1.heap.size = w.heap.size + 1 := by rw [hw1]; simp
  have hM1 := h.below hb1
  have hk : ∀ u, Below w1.heap.size w1 u → u.cell? ⟨w.heap.size, 0, none⟩ = some (.int .u64 (s1 : Int)) ∧ u.cell? ⟨w.heap.size, 1, none⟩ = some (.int .u64 (s2 : Int)) ∧ u.cell? ⟨q, 3, none⟩ = some vo := fun u hu => by
    have h9 := hkb u (by rw [← hw1, ← hz1]; exact hu)
    have h8 := (hM1.below hu).cell
    exact ⟨h9.1, h9.2, h8.2.2.2.1⟩
  obtain ⟨a, cp, hv, -, -, -, hrd⟩ := OwnG.val hM1.ro
  have HR : Hid (RdG KO w1 a XO) := hrd
  have HW1 : Hid (w1 = _) := hw1
  have HB1 : Hid _ := hb1
  subst hv
  obtain ⟨n, hn⟩ : ∃ n, n = XO.length := ⟨_, rfl⟩
  rw [← hn] at hk hl
  have HN : Hid (n = XO.length) := hn
  clear h hkb hb1 hz1 hw1 hn hM1 hrd
  go_enter Tryz.func73, Tryz.ntmps73
  go_wp2
  rw [← HW1.out]
  go_loopw [5] (fun j wr => ∃ k : Nat, k ≤ n ∧ j = .int .i64 (k : Int) ∧ Below w1.heap.size w1 wr ∧ Hid ((s1, s2) ∉ (ks XO).take k)) (fun j _ => n - (intOf j).toNat)
  case atStart => exact ⟨0, Nat.zero_le _, rfl, Below.refl _ _, by unfold Hid; simp⟩
  case round =>
    obtain ⟨k, hkn, rfl, hbw, HNO⟩ := hrel
    have hkw : IntKind.i64.wrap ((k : Int) + 1) = ((k + 1 : Nat) : Int) := by rw [IntKind.wrap_i64]; omega
    have hkr := hk wr hbw
    by_cases hlt : k < n
    · have hlti : (k : Int) < (n : Int) := by omega
      have hk0 : (0 : Int) ≤ (k : Int) := by omega
      have hk1 : k < XO.length := by rw [← HN.out]; exact hlt
      obtain ⟨b, o, rfl, r1, -⟩ := HR.out k hk1
      obtain ⟨x, hx⟩ : ∃ x : Ss × Nat, x = XO[k] := ⟨_, rfl⟩
      have g1 := r1 0 (.int .u64 (x.1.1 : Int)) (by rw [hx]; rfl)
      have g2 := r1 1 (.int .u64 (x.1.2 : Int)) (by rw [hx]; rfl)
      have hc : ∀ u, Below w1.heap.size w1 u → u.cell? ⟨b, o + k * 3, none⟩ = some (.int .u64 (x.1.1 : Int)) ∧ u.cell? ⟨b, o + k * 3 + 1, none⟩ = some (.int .u64 (x.1.2 : Int)) := fun u hu => ⟨(hu.cell (World.block_lt_of_cell? _ _ g1)).trans g1, (hu.cell (World.block_lt_of_cell? _ _ g2)).trans g2⟩
      have HX : Hid _ := hx
      have HBW : Hid _ := hbw
      obtain ⟨⟨x1, x2⟩, x3⟩ := x
      by_cases he : (x1, x2) = (s1, s2)
      · have hq : ∀ u, (binOp .eql tRs (.agg #[.int .u64 (x1 : Int), .int .u64 (x2 : Int)]) (.agg #[.int .u64 (s1 : Int), .int .u64 (s2 : Int)])).run Tryz.prog u = .ok (.bool true) u := fun u => by rw [eql_rs]; cases he; simp
        have HE : Hid (∃ hi : k < XO.length, XO[k].1 = (s1, s2)) := ⟨hk1, by rw [← HX.out]; exact he⟩
        clear r1 g1 g2 hx HX he hk1
        go_wp2_with fail
        refine wp_region_noPanic ?_
        refine wp_region_held_drew (S := (fun u => Below w1.heap.size w1 u)) (by kernel_rfl) (by first | exact hbw.drew | assumption) (fun hHeld => ?_)
        refine tz (i := 0) 15 rfl rfl hHeld ?_
        simp only [pS]
        refine tz (i := 1) 16 rfl rfl hHeld ?_
        simp only [pS]
        refine tz (i := 2) 17 rfl rfl hHeld ?_
        simp only [pS]
        refine tz (i := 3) 18 rfl rfl hHeld ?_
        simp only [pS]
        refine tz (i := 4) 19 rfl rfl hHeld ?_
        simp only [pS]
        refine tz (i := 5) 20 rfl rfl hHeld ?_
        simp only [pS]
        refine tz (i := 6) 21 rfl rfl hHeld ?_
        simp only [pS]
        refine tz (i := 7) 22 rfl rfl hHeld ?_
        simp only [pS]
        refine tz (i := 8) 23 rfl rfl hHeld ?_
        simp only [pS]
        refine tz (i := 9) 24 rfl rfl hHeld ?_
        simp only [pS]
        refine wpAnyH_done (by kernel_rfl) ?_ _
        refine NoPanic.normal ?_
        go_wp2
        go_ret
        exact ⟨.inl (HE.out.elim fun h8 h9 => ⟨k, h8, h9, rfl⟩), below_next HB1.out HBW.out.drew⟩
      · have hq : ∀ u, (binOp .eql tRs (.agg #[.int .u64 (x1 : Int), .int .u64 (x2 : Int)]) (.agg #[.int .u64 (s1 : Int), .int .u64 (s2 : Int)])).run Tryz.prog u = .ok (.bool false) u := fun u => by
          rw [eql_rs]
          have : ¬ ((x1 : Int) = s1 ∧ (x2 : Int) = s2) := fun h9 => he (by rw [show x1 = s1 by omega, show x2 = s2 by omega])
          simp [this]
        have HNX : Hid ((s1, s2) ∉ (ks XO).take (k + 1)) := by
          unfold Hid
          have hk2 : k < (ks XO).length := by rw [len_ks]; exact hk1
          rw [List.take_succ_eq_append_getElem hk2, List.mem_append, List.mem_singleton]
          rintro (h9 | h9)
          · exact HNO.out h9
          · exact he ((congrArg Prod.fst HX.out).trans (h9.trans (List.getElem_map _)).symm)
        clear r1 g1 g2 hx HX hk1 he HNO
        go_wp2_with fail
        refine wp_region_noPanic ?_
        refine wp_region_held_drew (S := (fun u => Below w1.heap.size w1 u)) (by kernel_rfl) (by first | exact hbw.drew | assumption) (fun hHeld => ?_)
        refine tz (i := 0) 15 rfl rfl hHeld ?_
        simp only [pS]
        refine tz (i := 1) 16 rfl rfl hHeld ?_
        simp only [pS]
        refine tz (i := 2) 17 rfl rfl hHeld ?_
        simp only [pS]
        refine tz (i := 3) 18 rfl rfl hHeld ?_
        simp only [pS]
        refine tz (i := 4) 19 rfl rfl hHeld ?_
        simp only [pS]
        refine tz (i := 5) 20 rfl rfl hHeld ?_
        simp only [pS]
        refine tz (i := 6) 21 rfl rfl hHeld ?_
        simp only [pS]
        refine tz (i := 7) 22 rfl rfl hHeld ?_
        simp only [pS]
        refine tz (i := 8) 23 rfl rfl hHeld ?_
        simp only [pS]
        refine tz (i := 9) 24 rfl rfl hHeld ?_
        simp only [pS]
        refine wpAnyH_done (by kernel_rfl) ?_ _
        refine NoPanic.normal ?_
        go_wp2
        go_roundw
        case rel => exact ⟨k + 1, by omega, by go_num, HBW.out.drew, HNX⟩
        case measure => simp [intOf]; omega
    · have hlti : ¬ (k : Int) < (n : Int) := by omega
      have HNM : Hid ((s1, s2) ∉ ks XO) := by
        have h9 := HNO.out
        rw [List.take_of_length_le (by rw [len_ks, ← HN.out]; omega)] at h9
        exact h9
      have HBW : Hid _ := hbw
      clear HNO
      go_wp2
      go_ret
      exact ⟨.inr ⟨HNM.out, rfl⟩, below_next HB1.out HBW.out⟩
theorem rshut_t (h : RiM w q mo ms ep vo vs XO XH) (s : Ss) (hl : XH.length ≤ 16384) : Calls Tryz.prog 50 #[.pointer (some ⟨q, 0, none⟩), sv s] w fun e w' => FindP XH s e ∧ Below w.heap.size w w' := by
  obtain ⟨s1, s2⟩ := s
  have hkb := rsBox w (s1, s2)
  obtain ⟨w1, hw1⟩ : ∃ w1, w1 = w.alloc (.cells #[.int .u64 (s1 : Int), .int .u64 (s2 : Int)] tRs) := ⟨_, rfl⟩
  have hb1 : Below w.heap.size w w1 := by rw [hw1]; exact al (Below.refl _ _) _
  have hz1 : w1.heap.size = w.heap.size + 1 := by rw [hw1]; simp
  have hM1 := h.below hb1
  have hk : ∀ u, Below w1.heap.size w1 u → u.cell? ⟨w.heap.size, 0, none⟩ = some (.int .u64 (s1 : Int)) ∧ u.cell? ⟨w.heap.size, 1, none⟩ = some (.int .u64 (s2 : Int)) ∧ u.cell? ⟨q, 4, none⟩ = some vs := fun u hu => by
    have h9 := hkb u (by rw [← hw1, ← hz1]; exact hu)
    have h8 := (hM1.below hu).cell
    exact ⟨h9.1, h9.2, h8.2.2.2.2⟩
  obtain ⟨a, cp, hv, -, -, -, hrd⟩ := OwnG.val hM1.rs
  have HR : Hid (RdG KH w1 a XH) := hrd
  have HW1 : Hid (w1 = _) := hw1
  have HB1 : Hid _ := hb1
  subst hv
  obtain ⟨n, hn⟩ : ∃ n, n = XH.length := ⟨_, rfl⟩
  rw [← hn] at hk hl
  have HN : Hid (n = XH.length) := hn
  clear h hkb hb1 hz1 hw1 hn hM1 hrd
  go_enter Tryz.func50, Tryz.ntmps50
  go_wp2
  rw [← HW1.out]
  go_loopw [5] (fun j wr => ∃ k : Nat, k ≤ n ∧ j = .int .i64 (k : Int) ∧ Below w1.heap.size w1 wr ∧ Hid ((s1, s2) ∉ (ks XH).take k)) (fun j _ => n - (intOf j).toNat)
  case atStart => exact ⟨0, Nat.zero_le _, rfl, Below.refl _ _, by unfold Hid; simp⟩
  case round =>
    obtain ⟨k, hkn, rfl, hbw, HNO⟩ := hrel
    have hkw : IntKind.i64.wrap ((k : Int) + 1) = ((k + 1 : Nat) : Int) := by rw [IntKind.wrap_i64]; omega
    have hkr := hk wr hbw
    by_cases hlt : k < n
    · have hlti : (k : Int) < (n : Int) := by omega
      have hk0 : (0 : Int) ≤ (k : Int) := by omega
      have hk1 : k < XH.length := by rw [← HN.out]; exact hlt
      obtain ⟨b, o, rfl, r1, -⟩ := HR.out k hk1
      obtain ⟨x, hx⟩ : ∃ x : Ss × Int, x = XH[k] := ⟨_, rfl⟩
      have g1 := r1 0 (.int .u64 (x.1.1 : Int)) (by rw [hx]; rfl)
      have g2 := r1 1 (.int .u64 (x.1.2 : Int)) (by rw [hx]; rfl)
      have hc : ∀ u, Below w1.heap.size w1 u → u.cell? ⟨b, o + k * 3, none⟩ = some (.int .u64 (x.1.1 : Int)) ∧ u.cell? ⟨b, o + k * 3 + 1, none⟩ = some (.int .u64 (x.1.2 : Int)) := fun u hu => ⟨(hu.cell (World.block_lt_of_cell? _ _ g1)).trans g1, (hu.cell (World.block_lt_of_cell? _ _ g2)).trans g2⟩
      have HX : Hid _ := hx
      have HBW : Hid _ := hbw
      obtain ⟨⟨x1, x2⟩, x3⟩ := x
      by_cases he : (x1, x2) = (s1, s2)
      · have hq : ∀ u, (binOp .eql tRs (.agg #[.int .u64 (x1 : Int), .int .u64 (x2 : Int)]) (.agg #[.int .u64 (s1 : Int), .int .u64 (s2 : Int)])).run Tryz.prog u = .ok (.bool true) u := fun u => by rw [eql_rs]; cases he; simp
        have HE : Hid (∃ hi : k < XH.length, XH[k].1 = (s1, s2)) := ⟨hk1, by rw [← HX.out]; exact he⟩
        clear r1 g1 g2 hx HX he hk1
        go_wp2_with fail
        refine wp_region_noPanic ?_
        refine wp_region_held_drew (S := (fun u => Below w1.heap.size w1 u)) (by kernel_rfl) (by first | exact hbw.drew | assumption) (fun hHeld => ?_)
        refine tz (i := 0) 15 rfl rfl hHeld ?_
        simp only [pS]
        refine tz (i := 1) 16 rfl rfl hHeld ?_
        simp only [pS]
        refine tz (i := 2) 17 rfl rfl hHeld ?_
        simp only [pS]
        refine tz (i := 3) 18 rfl rfl hHeld ?_
        simp only [pS]
        refine tz (i := 4) 19 rfl rfl hHeld ?_
        simp only [pS]
        refine tz (i := 5) 20 rfl rfl hHeld ?_
        simp only [pS]
        refine tz (i := 6) 21 rfl rfl hHeld ?_
        simp only [pS]
        refine tz (i := 7) 22 rfl rfl hHeld ?_
        simp only [pS]
        refine tz (i := 8) 23 rfl rfl hHeld ?_
        simp only [pS]
        refine tz (i := 9) 24 rfl rfl hHeld ?_
        simp only [pS]
        refine wpAnyH_done (by kernel_rfl) ?_ _
        refine NoPanic.normal ?_
        go_wp2
        go_ret
        exact ⟨.inl (HE.out.elim fun h8 h9 => ⟨k, h8, h9, rfl⟩), below_next HB1.out HBW.out.drew⟩
      · have hq : ∀ u, (binOp .eql tRs (.agg #[.int .u64 (x1 : Int), .int .u64 (x2 : Int)]) (.agg #[.int .u64 (s1 : Int), .int .u64 (s2 : Int)])).run Tryz.prog u = .ok (.bool false) u := fun u => by
          rw [eql_rs]
          have : ¬ ((x1 : Int) = s1 ∧ (x2 : Int) = s2) := fun h9 => he (by rw [show x1 = s1 by omega, show x2 = s2 by omega])
          simp [this]
        have HNX : Hid ((s1, s2) ∉ (ks XH).take (k + 1)) := by
          unfold Hid
          have hk2 : k < (ks XH).length := by rw [len_ks]; exact hk1
          rw [List.take_succ_eq_append_getElem hk2, List.mem_append, List.mem_singleton]
          rintro (h9 | h9)
          · exact HNO.out h9
          · exact he ((congrArg Prod.fst HX.out).trans (h9.trans (List.getElem_map _)).symm)
        clear r1 g1 g2 hx HX hk1 he HNO
        go_wp2_with fail
        refine wp_region_noPanic ?_
        refine wp_region_held_drew (S := (fun u => Below w1.heap.size w1 u)) (by kernel_rfl) (by first | exact hbw.drew | assumption) (fun hHeld => ?_)
        refine tz (i := 0) 15 rfl rfl hHeld ?_
        simp only [pS]
        refine tz (i := 1) 16 rfl rfl hHeld ?_
        simp only [pS]
        refine tz (i := 2) 17 rfl rfl hHeld ?_
        simp only [pS]
        refine tz (i := 3) 18 rfl rfl hHeld ?_
        simp only [pS]
        refine tz (i := 4) 19 rfl rfl hHeld ?_
        simp only [pS]
        refine tz (i := 5) 20 rfl rfl hHeld ?_
        simp only [pS]
        refine tz (i := 6) 21 rfl rfl hHeld ?_
        simp only [pS]
        refine tz (i := 7) 22 rfl rfl hHeld ?_
        simp only [pS]
        refine tz (i := 8) 23 rfl rfl hHeld ?_
        simp only [pS]
        refine tz (i := 9) 24 rfl rfl hHeld ?_
        simp only [pS]
        refine wpAnyH_done (by kernel_rfl) ?_ _
        refine NoPanic.normal ?_
        go_wp2
        go_roundw
        case rel => exact ⟨k + 1, by omega, by go_num, HBW.out.drew, HNX⟩
        case measure => simp [intOf]; omega
    · have hlti : ¬ (k : Int) < (n : Int) := by omega
      have HNM : Hid ((s1, s2) ∉ ks XH) := by
        have h9 := HNO.out
        rw [List.take_of_length_le (by rw [len_ks, ← HN.out]; omega)] at h9
        exact h9
      have HBW : Hid _ := hbw
      clear HNO
      go_wp2
      go_ret
      exact ⟨.inr ⟨HNM.out, rfl⟩, below_next HB1.out HBW.out⟩
end
end Go.Proofs.YtdoikcolkbjnfaaGreat
namespace Go.Proofs.YtdoikcolkbjnfaaGreat
set_option linter.unusedVariables false
set_option linter.unusedSimpArgs false
open Go.RowKit Go.Maps
section
variable {w w' : World} {q mo ms ep : Nat} {vo vs : Value} {XO : List (Ss × Nat)} {XH : List (Ss × Int)}
set_option maxRecDepth 20000
set_option maxHeartbeats 3200000
theorem RiM.oq (h : RiM w q mo ms ep vo vs XO XH) : vo.ownBlock ≠ some q := fun e => by
  obtain ⟨cur, h9⟩ := OwnG.at_ h.ro e
  rw [h.hp] at h9
  simp only [Option.some.injEq, Obj.cells.injEq] at h9
  exact absurd h9.2.1 (by decide)
theorem RiM.sq (h : RiM w q mo ms ep vo vs XO XH) : vs.ownBlock ≠ some q := fun e => by
  obtain ⟨cur, h9⟩ := OwnG.at_ h.rs e
  rw [h.hp] at h9
  simp only [Option.some.injEq, Obj.cells.injEq] at h9
  exact absurd h9.2.1 (by decide)
theorem rforget_t (h : RiM w q mo ms ep vo vs XO XH) (i : Nat) (hi : i < XH.length) (hl : XH.length ≤ 16384) : Calls Tryz.prog 51 #[.pointer (some ⟨q, 0, none⟩), .int .i64 (i : Int)] w fun r w' => r = .returned (.tuple #[]) ∧ ∃ v', RiM w' q mo ms ep vo v' XO (XH.eraseIdx i) ∧ (∀ b, v'.ownBlock = some b → w.heap.size ≤ b) ∧ Chg (fun b => b = q) w w' := by
  obtain ⟨c0, c1, c2, c3, c4⟩ := h.cell
  obtain ⟨g, cp, hv, hcp, -, -, -⟩ := OwnG.one h.rs (by omega)
  have HOW : Hid _ := h.rs
  have HM : Hid _ := h
  subst hv
  have HI : Hid _ := hi
  obtain ⟨n, hn⟩ : ∃ n, n = XH.length := ⟨_, rfl⟩
  have HN : Hid _ := hn
  have HRD : Hid (RdG KH w (some ⟨g, 0, none⟩) XH) := OwnG.rd h.rs
  have hiw : IntKind.i64.wrap ((i : Int) + 1) = ((i + 1 : Nat) : Int) := by rw [IntKind.wrap_i64]; omega
  have h1 : (0 : Int) ≤ (i : Int) := by omega
  have h2 : (i : Int) ≤ (cp : Int) := by omega
  have h3 : ((i + 1 : Nat) : Int) ≤ (n : Int) := by omega
  have h4 : (0 : Int) ≤ ((i + 1 : Nat) : Int) := by omega
  have h5 : i < n := by omega
  have h6 : n ≤ 16384 := by omega
  have h7 : n ≤ cp := by omega
  rw [← hn] at c4
  clear h hn hi
  by_cases hcz : cp = i + 1
  · subst hcz
    go_enter Tryz.func51, Tryz.ntmps51
    go_wp2_with (first
      | (at_builtin; refine wp_appG (K := KH) rfl _ _ rfl w.heap.size (.slice none 0 0) [] (XH.take i) i (some ⟨g, 0, none⟩) _ (by rw [List.length_take]; have := HI.out; omega) rfl (World.ownsRow_nil _ _ _ _) rfl (RdG.take HRD.out i) (fun h9 => by cases h9) (by show (0 + i) * 24 ≤ _; omega) (by simp only [maxLen, List.length_nil]; omega) (Nat.le_refl _) ?_; intro v1 w1 hown1 hg1; have HO1 : Hid (OwnG KH w1 w.heap.size v1 (XH.take i)) := hown1; have hb1 : Below w.heap.size w w1 := (Below.refl _ _).grown hg1 (Nat.le_refl _) (fun j hj => by cases hj); have HB1 : Hid _ := hb1; obtain ⟨d0, d1, d2, d3, d4⟩ := (HM.out.below hb1).cell; rw [← HN.out] at d4; clear hown1 hg1 hb1)
      | (at_builtin; go_loud (refine wp_appG (K := KH) rfl _ _ rfl w.heap.size v1 (XH.take i) (XH.drop (i + 1)) _ _ _ (by have h9 := HN.out; simp only [List.length_drop]; omega) rfl HO1.out rfl (by rw [List.drop_eq_nil_of_le (by rw [← HN.out]; exact h7)]; exact RdG.nil _ _) (fun h9 => by cases h9) (by rw [List.length_take, ← HN.out]; show (min i n + _) * 24 ≤ _; omega) (by rw [List.length_take, ← HN.out]; simp only [maxLen]; omega) HB1.out.size ?_); intro v2 w2 hown2 hg2; have HO2 : Hid (OwnG KH w2 w.heap.size v2 (XH.take i ++ XH.drop (i + 1))) := hown2; have hb2 : Below w.heap.size w w2 := HB1.out.grown hg2 HB1.out.size (fun j hj => (OwnG.lt' HO1.out hj).1); have HB2 : Hid _ := hb2; obtain ⟨e0, e1, e2, e3, e4⟩ := (HM.out.below hb2).cell; have ez := (HM.out.below hb2).fz 4; obtain ⟨a2, c2, hv2, -, -, -, -⟩ := OwnG.val hown2; obtain ⟨n2, hn2⟩ : ∃ n2, n2 = (XH.take i ++ XH.drop (i + 1)).length := ⟨_, rfl⟩; rw [← hn2] at hv2; subst hv2; clear hown2 hg2 hb2 hn2))
    obtain ⟨v2, hv2⟩ : ∃ v2, v2 = Value.slice a2 n2 c2 := ⟨_, rfl⟩
    rw [← hv2] at HO2 ⊢
    have hM2 := HM.out.below HB2.out
    have hql : q < w.heap.size := (Array.getElem?_eq_some_iff.1 HM.out.hp).1
    have hfr : ∀ b, v2.ownBlock = some b → w.heap.size ≤ b := fun b h9 => (OwnG.lt' HO2.out h9).1
    have hk : ∀ b, b ≠ q → (w2.setCell ⟨q, 4, none⟩ v2).heap[b]? = w2.heap[b]? := fun b h9 => Below.heap_setCell _ _ _ _ h9
    have hO3 : OwnG KH w2 0 v2 (XH.eraseIdx i) := by rw [List.eraseIdx_eq_take_drop_succ]; exact OwnG.base HO2.out (Nat.zero_le _)
    exact bodyPost_end (results_none rfl _ _ _) rfl ⟨rfl, v2, ⟨heap_setCell_same w2 q 4 _ _ v2 hM2.hp, OwnG.kept hM2.ro (fun b h9 => hk b (fun e => hM2.oq (e ▸ h9))), hO3.kept (fun b h9 => hk b (by have := hfr b h9; omega))⟩, hfr, (Chg.of_below HB2.out).trans (Chg.of_grown (gset1 w2 q 4 _) (fun b e => (Option.some.inj e).symm)) (fun b h9 => .inl h9)⟩
  · have hcn : ¬ cp - (i + 1) = 0 := by omega
    go_enter Tryz.func51, Tryz.ntmps51
    go_wp2_with (first
      | (at_builtin; refine wp_appG (K := KH) rfl _ _ rfl w.heap.size (.slice none 0 0) [] (XH.take i) i (some ⟨g, 0, none⟩) _ (by rw [List.length_take]; have := HI.out; omega) rfl (World.ownsRow_nil _ _ _ _) rfl (RdG.take HRD.out i) (fun h9 => by cases h9) (by show (0 + i) * 24 ≤ _; omega) (by simp only [maxLen, List.length_nil]; omega) (Nat.le_refl _) ?_; intro v1 w1 hown1 hg1; have HO1 : Hid (OwnG KH w1 w.heap.size v1 (XH.take i)) := hown1; have hb1 : Below w.heap.size w w1 := (Below.refl _ _).grown hg1 (Nat.le_refl _) (fun j hj => by cases hj); have HB1 : Hid _ := hb1; obtain ⟨d0, d1, d2, d3, d4⟩ := (HM.out.below hb1).cell; rw [← HN.out] at d4; clear hown1 hg1 hb1)
      | (at_builtin; go_loud (refine wp_appG (K := KH) rfl _ _ rfl w.heap.size v1 (XH.take i) (XH.drop (i + 1)) _ _ _ (by have h9 := HN.out; simp only [List.length_drop]; omega) rfl HO1.out rfl (by have h9 := RdG.below (RdG.drop HRD.out (i + 1)) HB1.out; rw [Nat.zero_add] at h9; exact h9) (fun h9 => by cases h9) (by rw [List.length_take, ← HN.out]; show (min i n + _) * 24 ≤ _; omega) (by rw [List.length_take, ← HN.out]; simp only [maxLen]; omega) HB1.out.size ?_); intro v2 w2 hown2 hg2; have HO2 : Hid (OwnG KH w2 w.heap.size v2 (XH.take i ++ XH.drop (i + 1))) := hown2; have hb2 : Below w.heap.size w w2 := HB1.out.grown hg2 HB1.out.size (fun j hj => (OwnG.lt' HO1.out hj).1); have HB2 : Hid _ := hb2; obtain ⟨e0, e1, e2, e3, e4⟩ := (HM.out.below hb2).cell; have ez := (HM.out.below hb2).fz 4; obtain ⟨a2, c2, hv2, -, -, -, -⟩ := OwnG.val hown2; obtain ⟨n2, hn2⟩ : ∃ n2, n2 = (XH.take i ++ XH.drop (i + 1)).length := ⟨_, rfl⟩; rw [← hn2] at hv2; subst hv2; clear hown2 hg2 hb2 hn2))
    obtain ⟨v2, hv2⟩ : ∃ v2, v2 = Value.slice a2 n2 c2 := ⟨_, rfl⟩
    rw [← hv2] at HO2 ⊢
    have hM2 := HM.out.below HB2.out
    have hql : q < w.heap.size := (Array.getElem?_eq_some_iff.1 HM.out.hp).1
    have hfr : ∀ b, v2.ownBlock = some b → w.heap.size ≤ b := fun b h9 => (OwnG.lt' HO2.out h9).1
    have hk : ∀ b, b ≠ q → (w2.setCell ⟨q, 4, none⟩ v2).heap[b]? = w2.heap[b]? := fun b h9 => Below.heap_setCell _ _ _ _ h9
    have hO3 : OwnG KH w2 0 v2 (XH.eraseIdx i) := by rw [List.eraseIdx_eq_take_drop_succ]; exact OwnG.base HO2.out (Nat.zero_le _)
    exact bodyPost_end (results_none rfl _ _ _) rfl ⟨rfl, v2, ⟨heap_setCell_same w2 q 4 _ _ v2 hM2.hp, OwnG.kept hM2.ro (fun b h9 => hk b (fun e => hM2.oq (e ▸ h9))), hO3.kept (fun b h9 => hk b (by have := hfr b h9; omega))⟩, hfr, (Chg.of_below HB2.out).trans (Chg.of_grown (gset1 w2 q 4 _) (fun b e => (Option.some.inj e).symm)) (fun b h9 => .inl h9)⟩
theorem rout_t (h : RiM w q mo ms ep vo vs XO XH) (i : Nat) (hi : i < XO.length) (hl : XO.length ≤ 16384) : Calls Tryz.prog 74 #[.pointer (some ⟨q, 0, none⟩), .int .i64 (i : Int)] w fun r w' => r = .returned (.tuple #[]) ∧ ∃ v', RiM w' q mo ms ep v' vs (XO.eraseIdx i) XH ∧ (∀ b, v'.ownBlock = some b → w.heap.size ≤ b) ∧ Chg (fun b => b = q) w w' := by
  obtain ⟨c0, c1, c2, c3, c4⟩ := h.cell
  obtain ⟨g, cp, hv, hcp, -, -, -⟩ := OwnG.one h.ro (by omega)
  have HOW : Hid _ := h.ro
  have HM : Hid _ := h
  subst hv
  have HI : Hid _ := hi
  obtain ⟨n, hn⟩ : ∃ n, n = XO.length := ⟨_, rfl⟩
  have HN : Hid _ := hn
  have HRD : Hid (RdG KO w (some ⟨g, 0, none⟩) XO) := OwnG.rd h.ro
  have hiw : IntKind.i64.wrap ((i : Int) + 1) = ((i + 1 : Nat) : Int) := by rw [IntKind.wrap_i64]; omega
  have h1 : (0 : Int) ≤ (i : Int) := by omega
  have h2 : (i : Int) ≤ (cp : Int) := by omega
  have h3 : ((i + 1 : Nat) : Int) ≤ (n : Int) := by omega
  have h4 : (0 : Int) ≤ ((i + 1 : Nat) : Int) := by omega
  have h5 : i < n := by omega
  have h6 : n ≤ 16384 := by omega
  have h7 : n ≤ cp := by omega
  rw [← hn] at c3
  clear h hn hi
  by_cases hcz : cp = i + 1
  · subst hcz
    go_enter Tryz.func74, Tryz.ntmps74
    go_wp2_with (first
      | (at_builtin; refine wp_appG (K := KO) rfl _ _ rfl w.heap.size (.slice none 0 0) [] (XO.take i) i (some ⟨g, 0, none⟩) _ (by rw [List.length_take]; have := HI.out; omega) rfl (World.ownsRow_nil _ _ _ _) rfl (RdG.take HRD.out i) (fun h9 => by cases h9) (by show (0 + i) * 24 ≤ _; omega) (by simp only [maxLen, List.length_nil]; omega) (Nat.le_refl _) ?_; intro v1 w1 hown1 hg1; have HO1 : Hid (OwnG KO w1 w.heap.size v1 (XO.take i)) := hown1; have hb1 : Below w.heap.size w w1 := (Below.refl _ _).grown hg1 (Nat.le_refl _) (fun j hj => by cases hj); have HB1 : Hid _ := hb1; obtain ⟨d0, d1, d2, d3, d4⟩ := (HM.out.below hb1).cell; rw [← HN.out] at d3; clear hown1 hg1 hb1)
      | (at_builtin; go_loud (refine wp_appG (K := KO) rfl _ _ rfl w.heap.size v1 (XO.take i) (XO.drop (i + 1)) _ _ _ (by have h9 := HN.out; simp only [List.length_drop]; omega) rfl HO1.out rfl (by rw [List.drop_eq_nil_of_le (by rw [← HN.out]; exact h7)]; exact RdG.nil _ _) (fun h9 => by cases h9) (by rw [List.length_take, ← HN.out]; show (min i n + _) * 24 ≤ _; omega) (by rw [List.length_take, ← HN.out]; simp only [maxLen]; omega) HB1.out.size ?_); intro v2 w2 hown2 hg2; have HO2 : Hid (OwnG KO w2 w.heap.size v2 (XO.take i ++ XO.drop (i + 1))) := hown2; have hb2 : Below w.heap.size w w2 := HB1.out.grown hg2 HB1.out.size (fun j hj => (OwnG.lt' HO1.out hj).1); have HB2 : Hid _ := hb2; obtain ⟨e0, e1, e2, e3, e4⟩ := (HM.out.below hb2).cell; have ez := (HM.out.below hb2).fz 3; obtain ⟨a2, c2, hv2, -, -, -, -⟩ := OwnG.val hown2; obtain ⟨n2, hn2⟩ : ∃ n2, n2 = (XO.take i ++ XO.drop (i + 1)).length := ⟨_, rfl⟩; rw [← hn2] at hv2; subst hv2; clear hown2 hg2 hb2 hn2))
    obtain ⟨v2, hv2⟩ : ∃ v2, v2 = Value.slice a2 n2 c2 := ⟨_, rfl⟩
    rw [← hv2] at HO2 ⊢
    have hM2 := HM.out.below HB2.out
    have hql : q < w.heap.size := (Array.getElem?_eq_some_iff.1 HM.out.hp).1
    have hfr : ∀ b, v2.ownBlock = some b → w.heap.size ≤ b := fun b h9 => (OwnG.lt' HO2.out h9).1
    have hk : ∀ b, b ≠ q → (w2.setCell ⟨q, 3, none⟩ v2).heap[b]? = w2.heap[b]? := fun b h9 => Below.heap_setCell _ _ _ _ h9
    have hO3 : OwnG KO w2 0 v2 (XO.eraseIdx i) := by rw [List.eraseIdx_eq_take_drop_succ]; exact OwnG.base HO2.out (Nat.zero_le _)
    exact bodyPost_end (results_none rfl _ _ _) rfl ⟨rfl, v2, ⟨heap_setCell_same w2 q 3 _ _ v2 hM2.hp, hO3.kept (fun b h9 => hk b (by have := hfr b h9; omega)), OwnG.kept hM2.rs (fun b h9 => hk b (fun e => hM2.sq (e ▸ h9)))⟩, hfr, (Chg.of_below HB2.out).trans (Chg.of_grown (gset1 w2 q 3 _) (fun b e => (Option.some.inj e).symm)) (fun b h9 => .inl h9)⟩
  · have hcn : ¬ cp - (i + 1) = 0 := by omega
    go_enter Tryz.func74, Tryz.ntmps74
    go_wp2_with (first
      | (at_builtin; refine wp_appG (K := KO) rfl _ _ rfl w.heap.size (.slice none 0 0) [] (XO.take i) i (some ⟨g, 0, none⟩) _ (by rw [List.length_take]; have := HI.out; omega) rfl (World.ownsRow_nil _ _ _ _) rfl (RdG.take HRD.out i) (fun h9 => by cases h9) (by show (0 + i) * 24 ≤ _; omega) (by simp only [maxLen, List.length_nil]; omega) (Nat.le_refl _) ?_; intro v1 w1 hown1 hg1; have HO1 : Hid (OwnG KO w1 w.heap.size v1 (XO.take i)) := hown1; have hb1 : Below w.heap.size w w1 := (Below.refl _ _).grown hg1 (Nat.le_refl _) (fun j hj => by cases hj); have HB1 : Hid _ := hb1; obtain ⟨d0, d1, d2, d3, d4⟩ := (HM.out.below hb1).cell; rw [← HN.out] at d3; clear hown1 hg1 hb1)
      | (at_builtin; go_loud (refine wp_appG (K := KO) rfl _ _ rfl w.heap.size v1 (XO.take i) (XO.drop (i + 1)) _ _ _ (by have h9 := HN.out; simp only [List.length_drop]; omega) rfl HO1.out rfl (by have h9 := RdG.below (RdG.drop HRD.out (i + 1)) HB1.out; rw [Nat.zero_add] at h9; exact h9) (fun h9 => by cases h9) (by rw [List.length_take, ← HN.out]; show (min i n + _) * 24 ≤ _; omega) (by rw [List.length_take, ← HN.out]; simp only [maxLen]; omega) HB1.out.size ?_); intro v2 w2 hown2 hg2; have HO2 : Hid (OwnG KO w2 w.heap.size v2 (XO.take i ++ XO.drop (i + 1))) := hown2; have hb2 : Below w.heap.size w w2 := HB1.out.grown hg2 HB1.out.size (fun j hj => (OwnG.lt' HO1.out hj).1); have HB2 : Hid _ := hb2; obtain ⟨e0, e1, e2, e3, e4⟩ := (HM.out.below hb2).cell; have ez := (HM.out.below hb2).fz 3; obtain ⟨a2, c2, hv2, -, -, -, -⟩ := OwnG.val hown2; obtain ⟨n2, hn2⟩ : ∃ n2, n2 = (XO.take i ++ XO.drop (i + 1)).length := ⟨_, rfl⟩; rw [← hn2] at hv2; subst hv2; clear hown2 hg2 hb2 hn2))
    obtain ⟨v2, hv2⟩ : ∃ v2, v2 = Value.slice a2 n2 c2 := ⟨_, rfl⟩
    rw [← hv2] at HO2 ⊢
    have hM2 := HM.out.below HB2.out
    have hql : q < w.heap.size := (Array.getElem?_eq_some_iff.1 HM.out.hp).1
    have hfr : ∀ b, v2.ownBlock = some b → w.heap.size ≤ b := fun b h9 => (OwnG.lt' HO2.out h9).1
    have hk : ∀ b, b ≠ q → (w2.setCell ⟨q, 3, none⟩ v2).heap[b]? = w2.heap[b]? := fun b h9 => Below.heap_setCell _ _ _ _ h9
    have hO3 : OwnG KO w2 0 v2 (XO.eraseIdx i) := by rw [List.eraseIdx_eq_take_drop_succ]; exact OwnG.base HO2.out (Nat.zero_le _)
    exact bodyPost_end (results_none rfl _ _ _) rfl ⟨rfl, v2, ⟨heap_setCell_same w2 q 3 _ _ v2 hM2.hp, hO3.kept (fun b h9 => hk b (by have := hfr b h9; omega)), OwnG.kept hM2.rs (fun b h9 => hk b (fun e => hM2.sq (e ▸ h9)))⟩, hfr, (Chg.of_below HB2.out).trans (Chg.of_grown (gset1 w2 q 3 _) (fun b e => (Option.some.inj e).symm)) (fun b h9 => .inl h9)⟩
end
end Go.Proofs.YtdoikcolkbjnfaaGreat
