import Derived.Test.YtiedgcanndgmoaaGreatDoorYB
import Derived.Test.YtiedgcanndgmoaaGreatDoorXJ
namespace Go.Proofs.YtiedgcanndgmoaaGreatDoor
set_option linter.unusedVariables false
set_option linter.unusedSimpArgs false
open Go.RowKit Go.Maps
theorem kyre {w : World} {B B' : Nat} {u v : Value} {xs : List Fk} {ys : List Xe} (h : OwnG KKy w B u xs) (k : OwnG KRe w B' v ys) : ∀ b, u.ownBlock = some b → v.ownBlock ≠ some b := fun b hb hv => by
  obtain ⟨c1, h1⟩ := h.at_ hb
  obtain ⟨c2, h2⟩ := k.at_ hv
  exact absurd (ty_of h1 h2) (by decide)
theorem rdX_new (u : World) (x : Xe) (n : Nat) (hn : n = u.heap.size) : RdG KRe (u.alloc (.cells #[.int .u64 (x.n : Int), .int .i64 x.k.1, .int .u64 (x.k.2 : Int), .int .u64 (x.ov : Int)] tRe)) (some ⟨n, 0, none⟩) [x] := by
  subst hn
  exact rdG_lit (heap_alloc_new u _) (by simp [Kd.flat])
section
variable {w w' : World} {q : Nat} {v v' v'' : Value} {X : Value × Value × Value × Value} {s : Xs}
set_option maxRecDepth 20000
set_option maxHeartbeats 6400000
theorem rtick_t (h : Rx w q v X s) (t : Nat) : Calls Tryz.prog 44 #[.pointer (some ⟨q, 0, none⟩), .int .u64 (t : Int)] w fun e w' => ∃ u v', e = .returned u ∧ OwnG KKy w' w.heap.size u (({ s with clk := max s.clk (min t mxX) } : Xs).L.filter (fun x => decide (x.ov ≤ max s.clk (min t mxX))) |>.map Xe.k) ∧ Rx w' q v' X { s with clk := max s.clk (min t mxX), L := s.L.filter (fun x => decide (max s.clk (min t mxX) < x.ov)) } ∧ RxStp w w' q v v' ∧ (∀ b, u.ownBlock = some b → ¬ footR q v' b) := by
  have HON : Hid _ := ron_t h t
  have HH : Hid _ := h
  obtain ⟨C, hC⟩ : ∃ C, C = max s.clk (min t mxX) := ⟨_, rfl⟩
  rw [← hC]
  have HC : Hid _ := hC
  clear h hC
  go_enter Tryz.func44, Tryz.ntmps44
  go_wp2_with fail
  refine Calls.mono HON.out ?_
  rintro e w1 ⟨rfl, hR1, hst1⟩
  rw [← HC.out] at hR1
  obtain ⟨a, cp, hv, -, -, -, hrd⟩ := OwnG.val hR1.row
  have hl := hR1.inv.len
  have hcs : ∀ u, Below w1.heap.size w1 u → u.cell? ⟨q, 8, none⟩ = some v ∧ u.cell? ⟨q, 7, none⟩ = some (.int .u64 (C : Int)) := fun u hu => ⟨(hR1.below hu).cell 8, (hR1.below hu).cell 7⟩
  have hfz : ∀ u, Below w1.heap.size w1 u → u.frozen? ⟨q, 8, none⟩ = false := fun u hu => (hR1.below hu).frz 8
  obtain ⟨n, hn⟩ : ∃ n, n = s.L.length := ⟨_, rfl⟩
  have hv' : v = .slice a n cp := by rw [hn]; exact hv
  have hl : n ≤ 64 := by rw [hn]; exact hl
  rw [hv'] at hcs
  have HV : Hid (v = .slice a n cp) := hv'
  have HR : Hid (RdG KRe w1 a s.L) := hrd
  have HN : Hid (n = s.L.length) := hn
  have HR1 : Hid _ := hR1
  have HS1 : Hid _ := hst1
  clear hR1 hst1 hn hv hrd hv'
  go_wp2
  go_loopw [5, 6, 7] (fun u y j wr => ∃ k : Nat, k ≤ n ∧ j = .int .i64 (k : Int) ∧ OwnG KKy wr w1.heap.size u (((s.L.take k).filter (fun x => decide (x.ov ≤ C))).map Xe.k) ∧ OwnG KRe wr w1.heap.size y ((s.L.take k).filter (fun x => decide (C < x.ov))) ∧ Below w1.heap.size w1 wr) (fun _ _ j _ => n - (intOf j).toNat)
  case atStart => exact ⟨0, Nat.zero_le _, rfl, World.ownsRow_nil _ _ _ _, World.ownsRow_nil _ _ _ _, Below.refl _ _⟩
  case round =>
    obtain ⟨k, hkn, rfl, hown, hown6, hbw⟩ := hrel
    have hkw : IntKind.i64.wrap ((k : Int) + 1) = ((k + 1 : Nat) : Int) := by rw [IntKind.wrap_i64]; omega
    have hcr := hcs wr hbw
    by_cases hlt : k < n
    · have hlti : (k : Int) < (n : Int) := by omega
      have hk0 : (0 : Int) ≤ (k : Int) := by omega
      have hk1 : k < s.L.length := by rw [← HN.out]; exact hlt
      obtain ⟨b, o, rfl, r1, -⟩ := RdG.below HR.out hbw k hk1
      obtain ⟨x, hx⟩ : ∃ x : Xe, x = s.L[k] := ⟨_, rfl⟩
      have g0 := r1 0 (.int .u64 (x.n : Int)) (by rw [hx]; rfl)
      rw [Nat.add_zero] at g0
      have g1 := r1 1 (.int .i64 x.k.1) (by rw [hx]; rfl)
      have g2 : wr.cell? ⟨b, o + k * 4 + 1 + 1, none⟩ = some (.int .u64 (x.k.2 : Int)) := r1 2 (.int .u64 (x.k.2 : Int)) (by rw [hx]; rfl)
      have g2' : wr.cell? ⟨b, o + k * 4 + 2, none⟩ = some (.int .u64 (x.k.2 : Int)) := r1 2 (.int .u64 (x.k.2 : Int)) (by rw [hx]; rfl)
      have g3 := r1 3 (.int .u64 (x.ov : Int)) (by rw [hx]; rfl)
      have hc : ∀ u, Below wr.heap.size wr u → u.cell? ⟨b, o + k * 4, none⟩ = some (.int .u64 (x.n : Int)) ∧ u.cell? ⟨b, o + k * 4 + 1, none⟩ = some (.int .i64 x.k.1) ∧ u.cell? ⟨b, o + k * 4 + 1 + 1, none⟩ = some (.int .u64 (x.k.2 : Int)) ∧ u.cell? ⟨b, o + k * 4 + 2, none⟩ = some (.int .u64 (x.k.2 : Int)) ∧ u.cell? ⟨b, o + k * 4 + 3, none⟩ = some (.int .u64 (x.ov : Int)) ∧ u.cell? ⟨q, 8, none⟩ = some (.slice (some ⟨b, o, none⟩) n cp) ∧ u.cell? ⟨q, 7, none⟩ = some (.int .u64 (C : Int)) := fun u hu => ⟨(hu.cell (World.block_lt_of_cell? _ _ g0)).trans g0, (hu.cell (World.block_lt_of_cell? _ _ g1)).trans g1, (hu.cell (World.block_lt_of_cell? _ _ g2)).trans g2, (hu.cell (World.block_lt_of_cell? _ _ g2)).trans g2', (hu.cell (World.block_lt_of_cell? _ _ g3)).trans g3, (hcs u (below_next hbw hu)).1, (hcs u (below_next hbw hu)).2⟩
      have hT : s.L.take (k + 1) = s.L.take k ++ [x] := by rw [List.take_succ_eq_append_getElem hk1, ← hx]
      have HSZ : Hid (w1.heap.size ≤ wr.heap.size) := hbw.size
      have hd9 := (hc wr.drew (Below.refl _ _).drew)
      have HLF : Hid (((s.L.take k).filter (fun x => decide (x.ov ≤ C))).length ≤ 64 ∧ ((s.L.take k).filter (fun x => decide (C < x.ov))).length ≤ 64) := by
        have h1 := List.length_filter_le (fun x => decide (x.ov ≤ C)) (s.L.take k)
        have h2 := List.length_filter_le (fun x => decide (C < x.ov)) (s.L.take k)
        rw [List.length_take] at h1 h2
        exact ⟨by omega, by omega⟩
      by_cases hdue : x.ov ≤ C
      · have hdi : (x.ov : Int) ≤ (C : Int) := by omega
        have HT5 : Hid (((s.L.take k).filter (fun x => decide (x.ov ≤ C))).map Xe.k ++ [x.k] = ((s.L.take (k + 1)).filter (fun x => decide (x.ov ≤ C))).map Xe.k) := by unfold Hid; rw [hT, List.filter_append, List.map_append]; simp [hdue]
        have HT6 : Hid ((s.L.take (k + 1)).filter (fun x => decide (C < x.ov)) = (s.L.take k).filter (fun x => decide (C < x.ov))) := by unfold Hid; rw [hT, List.filter_append]; simp; omega
        have HO : Hid (OwnG KKy ((wr.alloc (.cells #[.int .i64 x.k.1, .int .u64 (x.k.2 : Int)] tFk)).drew) w1.heap.size u5 (((s.L.take k).filter (fun x => decide (x.ov ≤ C))).map Xe.k)) := hown.below (alw (Below.refl _ _) _).drew
        have HO6 : Hid _ := hown6
        have HKR : Hid _ := kyre hown hown6
        have HL5 : Hid (∀ b, u5.ownBlock = some b → w1.heap.size ≤ b) := fun b hb => (hown.lt' hb).1
        have HL6 : Hid (∀ b, u6.ownBlock = some b → b < wr.heap.size) := fun b hb => (hown6.lt' hb).2
        have HBW : Hid _ := hbw
        obtain ⟨m5, hm5⟩ : ∃ m5, m5 = (((s.L.take k).filter (fun x => decide (x.ov ≤ C))).map Xe.k).length := ⟨_, rfl⟩
        have hm64 : m5 ≤ 64 := by rw [hm5, List.length_map]; exact HLF.out.1
        have HM5 : Hid _ := hm5
        clear r1 g0 g1 g2 g2' g3 hx hk1 hT hown hown6 hbw hcs hdue hm5
        go_wp2_with fail
        refine wp_region_noPanic ?_
        refine wp_region_held_drew (S := (fun u => Below wr.heap.size wr u)) (by kernel_rfl) (by first | exact (Below.refl _ _).drew | assumption) (fun hHeld => ?_)
        refine tz (i := 0) 20 rfl rfl hHeld ?_
        simp only [pS]
        refine tz (i := 1) 21 rfl rfl hHeld ?_
        simp only [pS]
        refine tz (i := 2) 22 rfl rfl hHeld ?_
        simp only [pS]
        refine tz (i := 3) 23 rfl rfl hHeld ?_
        simp only [pS]
        refine tz (i := 4) 24 rfl rfl hHeld ?_
        simp only [pS]
        refine tz (i := 5) 25 rfl rfl hHeld ?_
        simp only [pS]
        refine tz (i := 6) 26 rfl rfl hHeld ?_
        simp only [pS]
        refine tz (i := 7) 27 rfl rfl hHeld ?_
        simp only [pS]
        refine tz (i := 8) 28 rfl rfl hHeld ?_
        simp only [pS]
        refine tz (i := 9) 29 rfl rfl hHeld ?_
        simp only [pS]
        refine tz (i := 10) 30 rfl rfl hHeld ?_
        simp only [pS]
        refine tz (i := 11) 31 rfl rfl hHeld ?_
        simp only [pS]
        refine tz (i := 12) 32 rfl rfl hHeld ?_
        simp only [pS]
        refine wpAnyH_done (by kernel_rfl) ?_ _
        refine NoPanic.normal ?_
        clear hc hHeld
        go_wp2_with (at_builtin; refine wp_appG1 (K := KKy) rfl _ _ rfl w1.heap.size u5 (((s.L.take k).filter (fun x => decide (x.ov ≤ C))).map Xe.k) x.k m5 HM5.out ⟨wr.heap.size, 0, none⟩ 1 rfl HO.out rfl (rdF_new wr x.k _ rfl) (by show (m5 + 1) * 16 ≤ _; omega) (by simp only [maxLen]; omega) (by have := HSZ.out; simp; omega) ?_; intro g7 c7 w7 hown7 hg7 hlie7; rw [HT5.out] at hown7; have HO7 : Hid _ := hown7; have HG7 : Hid _ := hg7; clear hown7 hg7 hlie7)
        go_roundw
        case rel =>
          refine ⟨k + 1, hlt, by go_num, HO7.out, ?_, (alw HBW.out _).drew.grown HG7.out (by have := HSZ.out; simp; omega) (fun j hj => HL5.out j hj)⟩
          rw [HT6.out]
          refine OwnG.kept HO6.out (fun b hb => ?_)
          have hlt6 := HL6.out b hb
          refine (HG7.out.block b (by simp; omega) (fun e => HKR.out b e.symm hb)).trans ?_
          exact (alw (Below.refl wr.heap.size wr) _).drew.block b hlt6
        case measure => simp [intOf]; omega
      · have hdi : ¬ (x.ov : Int) ≤ (C : Int) := by omega
        have hdl : C < x.ov := by omega
        have HT6 : Hid ((s.L.take k).filter (fun x => decide (C < x.ov)) ++ [x] = (s.L.take (k + 1)).filter (fun x => decide (C < x.ov))) := by unfold Hid; rw [hT, List.filter_append]; simp [hdl]
        have HT5 : Hid (((s.L.take (k + 1)).filter (fun x => decide (x.ov ≤ C))).map Xe.k = ((s.L.take k).filter (fun x => decide (x.ov ≤ C))).map Xe.k) := by unfold Hid; rw [hT, List.filter_append]; simp [hdue]
        have HO : Hid (OwnG KRe ((wr.alloc (.cells #[.int .u64 (x.n : Int), .int .i64 x.k.1, .int .u64 (x.k.2 : Int), .int .u64 (x.ov : Int)] tRe)).drew) w1.heap.size u6 ((s.L.take k).filter (fun x => decide (C < x.ov)))) := hown6.below (alw (Below.refl _ _) _).drew
        have HO5 : Hid _ := hown
        have HKR : Hid _ := kyre hown hown6
        have HL6 : Hid (∀ b, u6.ownBlock = some b → w1.heap.size ≤ b) := fun b hb => (hown6.lt' hb).1
        have HL5 : Hid (∀ b, u5.ownBlock = some b → b < wr.heap.size) := fun b hb => (hown.lt' hb).2
        have HBW : Hid _ := hbw
        obtain ⟨m6, hm6⟩ : ∃ m6, m6 = ((s.L.take k).filter (fun x => decide (C < x.ov))).length := ⟨_, rfl⟩
        have hm64 : m6 ≤ 64 := by rw [hm6]; exact HLF.out.2
        have HM6 : Hid _ := hm6
        clear r1 g0 g1 g2 g2' g3 hx hk1 hT hown hown6 hbw hcs hdue hdl hm6
        go_wp2_with fail
        refine wp_region_noPanic ?_
        refine wp_region_held_drew (S := (fun u => Below wr.heap.size wr u)) (by kernel_rfl) (by first | exact (Below.refl _ _).drew | assumption) (fun hHeld => ?_)
        refine tz (i := 0) 20 rfl rfl hHeld ?_
        simp only [pS]
        refine tz (i := 1) 21 rfl rfl hHeld ?_
        simp only [pS]
        refine tz (i := 2) 22 rfl rfl hHeld ?_
        simp only [pS]
        refine tz (i := 3) 23 rfl rfl hHeld ?_
        simp only [pS]
        refine tz (i := 4) 24 rfl rfl hHeld ?_
        simp only [pS]
        refine tz (i := 5) 25 rfl rfl hHeld ?_
        simp only [pS]
        refine tz (i := 6) 26 rfl rfl hHeld ?_
        simp only [pS]
        refine tz (i := 7) 27 rfl rfl hHeld ?_
        simp only [pS]
        refine tz (i := 8) 28 rfl rfl hHeld ?_
        simp only [pS]
        refine tz (i := 9) 29 rfl rfl hHeld ?_
        simp only [pS]
        refine tz (i := 10) 30 rfl rfl hHeld ?_
        simp only [pS]
        refine tz (i := 11) 31 rfl rfl hHeld ?_
        simp only [pS]
        refine tz (i := 12) 32 rfl rfl hHeld ?_
        simp only [pS]
        refine wpAnyH_done (by kernel_rfl) ?_ _
        refine NoPanic.normal ?_
        clear hc hHeld
        go_wp2_with (at_builtin; refine wp_appG1 (K := KRe) rfl _ _ rfl w1.heap.size u6 ((s.L.take k).filter (fun x => decide (C < x.ov))) x m6 HM6.out ⟨wr.heap.size, 0, none⟩ 1 rfl HO.out rfl (rdX_new wr x _ rfl) (by show (m6 + 1) * 32 ≤ _; omega) (by simp only [maxLen]; omega) (by have := HSZ.out; simp; omega) ?_; intro g7 c7 w7 hown7 hg7 hlie7; rw [HT6.out] at hown7; have HO7 : Hid _ := hown7; have HG7 : Hid _ := hg7; clear hown7 hg7 hlie7)
        go_roundw
        case rel =>
          refine ⟨k + 1, hlt, by go_num, ?_, HO7.out, (alw HBW.out _).drew.grown HG7.out (by have := HSZ.out; simp; omega) (fun j hj => HL6.out j hj)⟩
          rw [HT5.out]
          refine OwnG.kept HO5.out (fun b hb => ?_)
          have hlt5 := HL5.out b hb
          refine (HG7.out.block b (by simp; omega) (fun e => HKR.out b hb e.symm)).trans ?_
          exact (alw (Below.refl wr.heap.size wr) _).drew.block b hlt5
        case measure => simp [intOf]; omega
    · have hlti : ¬ (k : Int) < (n : Int) := by omega
      have htk : s.L.take k = s.L := List.take_of_length_le (by rw [← HN.out]; omega)
      rw [htk] at hown hown6
      have hfr := hfz wr hbw
      have HO5 : Hid _ := hown
      have HO6 : Hid _ := hown6
      have HBW : Hid _ := hbw
      obtain ⟨a6, c6, hv6, -⟩ := hown6.val
      obtain ⟨m6, hm6⟩ : ∃ m6, m6 = (s.L.filter (fun x => decide (C < x.ov))).length := ⟨_, rfl⟩
      rw [← hm6] at hv6
      subst hv6
      clear hown hown6 hbw htk hcs hfz hm6
      go_wp2
      go_ret
      have hch : Chg (fun b => v.ownBlock = some b) w1 wr := Chg.of_below HBW.out
      obtain ⟨h8, h9⟩ := HR1.out.setRow hch (v' := .slice a6 m6 c6) (L' := s.L.filter (fun x => decide (C < x.ov))) (OwnG.base HO6.out (Nat.zero_le _)) (fun b e => .inr (OwnG.lt' HO6.out e).1) (HR1.out.inv.drop _)
      have hq1 := HR1.out.ql
      have hsz := HS1.out.chg.size
      refine ⟨_, rfl, ?_, .slice a6 m6 c6, h8, HS1.out.trans h9, ?_⟩
      · refine OwnG.kept (OwnG.base HO5.out hsz) (fun b hb => ?_)
        have h1 := (OwnG.lt' HO5.out hb).1
        exact heap_setCell_other wr ⟨q, 8, none⟩ b _ (fun e => by have h0 : b = q := e; omega)
      · rintro b hb (e | e)
        · have h1 := (OwnG.lt' HO5.out hb).1
          omega
        · exact kyre HO5.out HO6.out b hb e
end
end Go.Proofs.YtiedgcanndgmoaaGreatDoor
