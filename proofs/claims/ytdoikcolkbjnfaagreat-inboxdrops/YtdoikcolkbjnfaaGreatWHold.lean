import Derived.Test.YtdoikcolkbjnfaaGreatLLd
import Derived.Test.YtdoikcolkbjnfaaGreatLxQ
namespace Go.Proofs.YtdoikcolkbjnfaaGreat
set_option linter.unusedVariables false
set_option linter.unusedSimpArgs false
open Go.RowKit Go.Maps
section
variable {w0 w w' : World} {p q N : Nat} {I I' : Ib} {F G : Nat → Prop}
theorem PlOut.fin {w4 w7 wr : World} {D : Nat → Prop} (h0 : w0.heap.size ≤ w.heap.size) (hb : Below w.heap.size w w4) (hFG : ∀ b, F b ∨ G b → b < w.heap.size) (ho : PlOut w0 w4 p q N I' F G w7) (hc : Chg D w7 wr) (hD : ∀ b, D b → (w.heap.size ≤ b ∧ b < w4.heap.size) ∨ w7.heap.size ≤ b) : PlOut w0 w p q N I' F G wr := by
  obtain ⟨F', G', hp, hch, hf⟩ := ho
  have z4 := hb.size
  have z7 := hch.size
  refine ⟨F', G', hp.chg hc (fun b hb' => ?_), ((Chg.of_below hb).trans hch (fun b hb' => .inl hb')).trans hc (fun b hb' => .inr ?_), fun b hb' => (hf b hb').imp id (fun h9 => by omega)⟩
  · rcases hD b hb' with h9 | h9
    · refine .inr ⟨by omega, fun h8 => ?_⟩
      rcases hf b h8 with h7 | h7
      · have := hFG b h7; omega
      · omega
    · exact .inl h9
  · rcases hD b hb' with h9 | h9
    · exact h9.1
    · omega
theorem PlOut.pre {w4 w7 : World} (h0 : w0.heap.size ≤ w.heap.size) (hb : Below w.heap.size w w4) (hFG : ∀ b, F b ∨ G b → b < w.heap.size) (ho : PlOut w0 w4 p q N I' F G w7) : PlOut w0 w p q N I' F G w7 := PlOut.fin h0 hb hFG ho (Chg.refl (fun _ => False) _) (fun _ h9 => h9.elim)
theorem LentAt.kept {B : Nat} {x : UnM} {g c h d : Nat} {D : Nat → Prop} (hl : LentAt B w x g c h d) (hc : Chg D w w') (hg : ¬ D g) (hh : ¬ D h) : LentAt B w' x g c h d :=
  ⟨Own.keptb hl.bs (fun b hb => by have e : g = b := Option.some.inj hb; subst e; exact hc.block g hl.B1.2 hg), OwnR.keptb hl.rg (fun b hb => by have e : h = b := Option.some.inj hb; subst e; exact hc.block h hl.B2.2 hh), hl.cc, hl.dd, ⟨hl.B1.1, Nat.lt_of_lt_of_le hl.B1.2 hc.size⟩, ⟨hl.B2.1, Nat.lt_of_lt_of_le hl.B2.2 hc.size⟩⟩
set_option maxRecDepth 20000
set_option maxHeartbeats 6400000
theorem plays_o (h : Pl w0 w p q N I F G) (kd : Int) (h1 : kd ≠ 1) (h2 : kd ≠ 2) (h3 : kd ≠ 3) (x : UnM) (ye yn : Nat) (ycd : Int) : Calls Tryz.prog 19 #[.pointer (some ⟨p, 0, none⟩), .pointer (some ⟨q, 0, none⟩), .agg (OpX.mk kd x ye yn ycd).c] w fun e w' => e = .returned (.bool true) ∧ PlOut w0 w p q (N + 1) I F G w' := by
  have q1 : (kd == 1) = false := by simp [h1]
  have q2 : (kd == 2) = false := by simp [h2]
  have q3 : (kd == 3) = false := by simp [h3]
  have HH : Hid _ := h
  obtain ⟨w1, hw1⟩ : ∃ w1, w1 = ((w.alloc (.cells (OpX.mk kd x ye yn ycd).c tOpX)).alloc (.cells #[.int .u64 (ye : Int), .int .u64 (yn : Int)] tSs)).alloc (.cells #[.int .u64 (ye : Int), .int .u64 (yn : Int)] tRs) := ⟨_, rfl⟩
  have hb1 : Below w.heap.size w w1 := by rw [hw1]; exact al (al (al (Below.refl _ _) _) _) _
  have hz1 : w1.heap.size = w.heap.size + 3 := by rw [hw1]; simp
  have hP1 : w1.heap[w.heap.size]? = some (.cells (OpX.mk kd x ye yn ycd).c tOpX (0, 0)) := by
    rw [hw1]
    exact ((al (al (Below.refl _ (w.alloc (.cells (OpX.mk kd x ye yn ycd).c tOpX))) _) _).block _ (by simp)).trans (heap_alloc_new _ _)
  have hS1 : w1.heap[w.heap.size + 1]? = some (.cells #[.int .u64 (ye : Int), .int .u64 (yn : Int)] tSs (0, 0)) := by
    rw [hw1]
    have h9 := heap_alloc_new (w.alloc (.cells (OpX.mk kd x ye yn ycd).c tOpX)) (.cells #[.int .u64 (ye : Int), .int .u64 (yn : Int)] tSs)
    rw [World.size_alloc] at h9
    exact ((al (Below.refl _ ((w.alloc (.cells (OpX.mk kd x ye yn ycd).c tOpX)).alloc (.cells #[.int .u64 (ye : Int), .int .u64 (yn : Int)] tSs))) _).block _ (by simp)).trans h9
  have hT1 : w1.heap[w.heap.size + 2]? = some (.cells #[.int .u64 (ye : Int), .int .u64 (yn : Int)] tRs (0, 0)) := by
    rw [hw1]
    have h9 := heap_alloc_new ((w.alloc (.cells (OpX.mk kd x ye yn ycd).c tOpX)).alloc (.cells #[.int .u64 (ye : Int), .int .u64 (yn : Int)] tSs)) (.cells #[.int .u64 (ye : Int), .int .u64 (yn : Int)] tRs)
    rw [World.size_alloc, World.size_alloc] at h9
    exact h9
  have HB1 : Hid _ := hb1
  rw [hw1] at HB1
  obtain ⟨⟨k, e, se, pa, i, cn, xs, ucd, l⟩, da, dn, dc, ga, gn, gc⟩ := x
  clear h h1 h2 h3 hb1 hz1 hP1 hS1 hT1 hw1
  go_enter Tryz.func19, Tryz.ntmps19
  go_wp2
  go_ret
  exact ⟨rfl, F, G, ⟨(HH.out.below HB1.out).a.more (Nat.le_succ _), (HH.out.below HB1.out).r, HH.out.ap, HH.out.oF, (HH.out.below HB1.out).oG, (HH.out.below HB1.out).bl⟩, Chg.of_below HB1.out, fun b hb => .inl hb⟩
theorem plays_2 (h : Pl w0 w p q N I F G) (x : UnM) (ye yn : Nat) (ycd : Int) (hs : inS (ye, yn)) (hN : N < 4611686018427387904) : Calls Tryz.prog 19 #[.pointer (some ⟨p, 0, none⟩), .pointer (some ⟨q, 0, none⟩), .agg (OpX.mk 2 x ye yn ycd).c] w fun e w' => e = .returned (.bool true) ∧ PlOut w0 w p q (N + 1) (decI I (ye, yn) ycd) F G w' := by
  obtain ⟨w1, hw1⟩ : ∃ w1, w1 = ((w.alloc (.cells (OpX.mk 2 x ye yn ycd).c tOpX)).alloc (.cells #[.int .u64 (ye : Int), .int .u64 (yn : Int)] tSs)).alloc (.cells #[.int .u64 (ye : Int), .int .u64 (yn : Int)] tRs) := ⟨_, rfl⟩
  have hb1 : Below w.heap.size w w1 := by rw [hw1]; exact al (al (al (Below.refl _ _) _) _) _
  have hz1 : w1.heap.size = w.heap.size + 3 := by rw [hw1]; simp
  have hP1 : w1.heap[w.heap.size]? = some (.cells (OpX.mk 2 x ye yn ycd).c tOpX (0, 0)) := by
    rw [hw1]
    exact ((al (al (Below.refl _ (w.alloc (.cells (OpX.mk 2 x ye yn ycd).c tOpX))) _) _).block _ (by simp)).trans (heap_alloc_new _ _)
  have hS1 : w1.heap[w.heap.size + 1]? = some (.cells #[.int .u64 (ye : Int), .int .u64 (yn : Int)] tSs (0, 0)) := by
    rw [hw1]
    have h9 := heap_alloc_new (w.alloc (.cells (OpX.mk 2 x ye yn ycd).c tOpX)) (.cells #[.int .u64 (ye : Int), .int .u64 (yn : Int)] tSs)
    rw [World.size_alloc] at h9
    exact ((al (Below.refl _ ((w.alloc (.cells (OpX.mk 2 x ye yn ycd).c tOpX)).alloc (.cells #[.int .u64 (ye : Int), .int .u64 (yn : Int)] tSs))) _).block _ (by simp)).trans h9
  have hT1 : w1.heap[w.heap.size + 2]? = some (.cells #[.int .u64 (ye : Int), .int .u64 (yn : Int)] tRs (0, 0)) := by
    rw [hw1]
    have h9 := heap_alloc_new ((w.alloc (.cells (OpX.mk 2 x ye yn ycd).c tOpX)).alloc (.cells #[.int .u64 (ye : Int), .int .u64 (yn : Int)] tSs)) (.cells #[.int .u64 (ye : Int), .int .u64 (yn : Int)] tRs)
    rw [World.size_alloc, World.size_alloc] at h9
    exact h9
  obtain ⟨w2, hw2⟩ : ∃ w2, w2 = w1.drew := ⟨_, rfl⟩
  have hb2 : Below w1.heap.size w1 w2 := by rw [hw2]; exact (Below.refl _ _).drew
  have HBW : Hid (Below w.heap.size w w2) := below_next hb1 hb2
  have HC2 : Hid (Calls _ _ _ w2 _) := (h.below HBW.out).dec (ye, yn) ycd hN
  obtain ⟨P, hP⟩ : ∃ P, P = w.heap.size := ⟨_, rfl⟩
  rw [← hP] at hP1 hS1 hT1
  have HFG : Hid (∀ b, F b ∨ G b → b < w.heap.size) := fun b hb => h.lt hb
  have H0 : Hid (w0.heap.size ≤ w.heap.size) := h.bl.size
  have HK : Hid (∀ u, Chg (fun b => F b ∨ G b) w2 u → u.cell? ⟨P + 1, 0, none⟩ = some (.int .u64 (ye : Int)) ∧ u.cell? ⟨P + 1, 1, none⟩ = some (.int .u64 (yn : Int)) ∧ u.cell? ⟨P + 2, 0, none⟩ = some (.int .u64 (ye : Int)) ∧ u.cell? ⟨P + 2, 1, none⟩ = some (.int .u64 (yn : Int)) ∧ u.cell? ⟨P, 12, none⟩ = some (.int .i64 ycd)) := fun u hu => by
    have hno : ∀ j, j < 3 → ¬ (F (P + j) ∨ G (P + j)) := fun j _ h9 => by have := h.lt h9; omega
    have z2 := hb2.size
    have s9 := (hu.block (P + 1) (by omega) (hno 1 (by omega))).trans ((hb2.block (P + 1) (by omega)).trans hS1)
    have t9 := (hu.block (P + 2) (by omega) (hno 2 (by omega))).trans ((hb2.block (P + 2) (by omega)).trans hT1)
    have p9 := (hu.block P (by omega) (hno 0 (by omega))).trans ((hb2.block P (by omega)).trans hP1)
    exact ⟨by rw [cell_of_row _ _ _ _ _ _ s9]; rfl, by rw [cell_of_row _ _ _ _ _ _ s9]; rfl, by rw [cell_of_row _ _ _ _ _ _ t9]; rfl, by rw [cell_of_row _ _ _ _ _ _ t9]; rfl, by rw [cell_of_row _ _ _ _ _ _ p9]; rfl⟩
  have hS2 := HK.out w2 (Chg.refl _ _)
  have HW1 : Hid (w1 = _) := hw1
  have HW2 : Hid (w2 = w1.drew) := hw2
  have HP : Hid (P = w.heap.size) := hP
  obtain ⟨er, her⟩ : ∃ er, er = decE I (ye, yn) ycd := ⟨_, rfl⟩
  rw [← her] at HC2
  have heq : (er == er) = true := by simp
  obtain ⟨⟨k, e, se, pa, i, cn, xs, ucd, l⟩, da, dn, dc, ga, gn, gc⟩ := x
  clear h hs hN hb1 hz1 hP1 hS1 hT1 hb2 hw1 hw2 hP her
  go_enter Tryz.func19, Tryz.ntmps19
  go_upto_region 13 with fail
  rw [← HW1.out, ← HP.out]
  rw [HW2.out] at hS2 HC2
  refine wp_region_held_drew (S := (fun u => u.cell? ⟨P + 1, 0, none⟩ = some (.int .u64 (ye : Int)) ∧ u.cell? ⟨P + 1, 1, none⟩ = some (.int .u64 (yn : Int)) ∧ u.cell? ⟨P + 2, 0, none⟩ = some (.int .u64 (ye : Int)) ∧ u.cell? ⟨P + 2, 1, none⟩ = some (.int .u64 (yn : Int)) ∧ u.cell? ⟨P, 12, none⟩ = some (.int .i64 ycd))) (by kernel_rfl) (by first | exact hS2 | exact hS5 | exact hS6 | assumption) (fun hHeld => ?_)
  refine take_at (i := 0) 63 (v := ?_) rfl rfl (by kernel_rfl) (by kernel_rfl) (by kernel_rfl) (fun _ _ _ h => h) (by rfl) ?_ hHeld ?_
  rotate_left
  · (intro w hSw; (try dsimp only at hSw); go_simp; try with_reducible rfl)
  simp only [Act.put, List.setIfInBounds_toArray, List.set_cons_zero, List.set_cons_succ]
  refine take_at (i := 1) 64 (v := ?_) rfl rfl (by kernel_rfl) (by kernel_rfl) (by kernel_rfl) (fun _ _ _ h => h) (by rfl) ?_ hHeld ?_
  rotate_left
  · (intro w hSw; (try dsimp only at hSw); go_simp; try with_reducible rfl)
  simp only [Act.put, List.setIfInBounds_toArray, List.set_cons_zero, List.set_cons_succ]
  refine take_at (i := 2) 65 (v := ?_) rfl rfl (by kernel_rfl) (by kernel_rfl) (by kernel_rfl) (fun _ _ _ h => h) (by rfl) ?_ hHeld ?_
  rotate_left
  · (intro w hSw; (try dsimp only at hSw); go_simp; try with_reducible rfl)
  simp only [Act.put, List.setIfInBounds_toArray, List.set_cons_zero, List.set_cons_succ]
  refine take_at (i := 3) 66 (v := ?_) rfl rfl (by kernel_rfl) (by kernel_rfl) (by kernel_rfl) (fun _ _ _ h => h) (by rfl) ?_ hHeld ?_
  rotate_left
  · (intro w hSw; (try dsimp only at hSw); go_simp; try with_reducible rfl)
  simp only [Act.put, List.setIfInBounds_toArray, List.set_cons_zero, List.set_cons_succ]
  refine take_at (i := 5) 68 (v := ?_) rfl rfl (by kernel_rfl) (by kernel_rfl) (by kernel_rfl) (fun _ _ _ h => h) (by rfl) ?_ hHeld ?_
  rotate_left
  · (intro w hSw; (try dsimp only at hSw); go_simp; try with_reducible rfl)
  simp only [Act.put, List.setIfInBounds_toArray, List.set_cons_zero, List.set_cons_succ]
  refine take_at (i := 6) 69 (v := ?_) rfl rfl (by kernel_rfl) (by kernel_rfl) (by kernel_rfl) (fun _ _ _ h => h) (by rfl) ?_ hHeld ?_
  rotate_left
  · (intro w hSw; (try dsimp only at hSw); go_simp; try with_reducible rfl)
  simp only [Act.put, List.setIfInBounds_toArray, List.set_cons_zero, List.set_cons_succ]
  refine take_at (i := 7) 70 (v := ?_) rfl rfl (by kernel_rfl) (by kernel_rfl) (by kernel_rfl) (fun _ _ _ h => h) (by rfl) ?_ hHeld ?_
  rotate_left
  · (intro w hSw; (try dsimp only at hSw); go_simp; try with_reducible rfl)
  simp only [Act.put, List.setIfInBounds_toArray, List.set_cons_zero, List.set_cons_succ]
  refine take_at (i := 8) 71 (v := ?_) rfl rfl (by kernel_rfl) (by kernel_rfl) (by kernel_rfl) (fun _ _ _ h => h) (by rfl) ?_ hHeld ?_
  rotate_left
  · (intro w hSw; (try dsimp only at hSw); go_simp; try with_reducible rfl)
  simp only [Act.put, List.setIfInBounds_toArray, List.set_cons_zero, List.set_cons_succ]
  refine run_at (i := 4) rfl (by kernel_rfl) (by rfl) (fun K hK => ?_)
  simp only [List.getElem_toArray, List.getElem_cons_zero, List.getElem_cons_succ]
  go_simp
  first | (go_at_call 29; refine Calls.mono HC2.out ?_; rintro e5 w5 ⟨rfl, hc5, hd5⟩; have hS5 := HK.out w5 (by rw [HW2.out]; exact hc5); have HD5 : Hid _ := hd5; clear hc5 hd5) | (go_at_call 45; refine Calls.mono HD5.out ?_; rintro e6 w6 ⟨rfl, hp6⟩; have hS6 := HK.out w6 (by rw [HW2.out]; exact hp6.choose_spec.choose_spec.2.1); have HP6 : Hid _ := hp6; clear hp6)
  go_wp2_with fail
  refine hK.out _ _ (by first | exact hS2 | exact hS5 | exact hS6 | assumption) ?_
  clear hK K
  intro hHeld2
  clear hHeld
  have hHeld := hHeld2
  clear hHeld2
  try simp only [Act.put, List.setIfInBounds_toArray, List.set_cons_zero, List.set_cons_succ]
  refine run_at (i := 9) rfl (by kernel_rfl) (by rfl) (fun K hK => ?_)
  simp only [List.getElem_toArray, List.getElem_cons_zero, List.getElem_cons_succ]
  go_simp
  first | (go_at_call 29; refine Calls.mono HC2.out ?_; rintro e5 w5 ⟨rfl, hc5, hd5⟩; have hS5 := HK.out w5 (by rw [HW2.out]; exact hc5); have HD5 : Hid _ := hd5; clear hc5 hd5) | (go_at_call 45; refine Calls.mono HD5.out ?_; rintro e6 w6 ⟨rfl, hp6⟩; have hS6 := HK.out w6 (by rw [HW2.out]; exact hp6.choose_spec.choose_spec.2.1); have HP6 : Hid _ := hp6; clear hp6)
  go_wp2_with fail
  refine hK.out _ _ (by first | exact hS2 | exact hS5 | exact hS6 | assumption) ?_
  clear hK K
  intro hHeld2
  clear hHeld
  have hHeld := hHeld2
  clear hHeld2
  try simp only [Act.put, List.setIfInBounds_toArray, List.set_cons_zero, List.set_cons_succ]
  refine take_at (i := 10) 73 (v := ?_) rfl rfl (by kernel_rfl) (by kernel_rfl) (by kernel_rfl) (fun _ _ _ h => h) (by rfl) ?_ hHeld ?_
  rotate_left
  · (intro w hSw; (try dsimp only at hSw); go_simp; try with_reducible rfl)
  simp only [Act.put, List.setIfInBounds_toArray, List.set_cons_zero, List.set_cons_succ]
  refine take_at (i := 11) 6 (v := ?_) rfl rfl (by kernel_rfl) (by kernel_rfl) (by kernel_rfl) (fun _ _ _ h => h) (by rfl) ?_ hHeld ?_
  rotate_left
  · (intro w hSw; (try dsimp only at hSw); go_simp; try with_reducible rfl)
  simp only [Act.put, List.setIfInBounds_toArray, List.set_cons_zero, List.set_cons_succ]
  refine wpAnyH_done (by kernel_rfl) ?_ _
  go_wp2
  go_ret
  exact ⟨by simp, PlOut.pre H0.out HBW.out HFG.out (by rw [HW2.out]; exact HP6.out)⟩
theorem plays_3 (h : Pl w0 w p q N I F G) (x : UnM) (ye yn : Nat) (ycd : Int) (hs : inS (ye, yn)) (hN : N < 4611686018427387904) : Calls Tryz.prog 19 #[.pointer (some ⟨p, 0, none⟩), .pointer (some ⟨q, 0, none⟩), .agg (OpX.mk 3 x ye yn ycd).c] w fun e w' => e = .returned (.bool true) ∧ PlOut w0 w p q (N + 1) (dropI I (ye, yn)) F G w' := by
  obtain ⟨w1, hw1⟩ : ∃ w1, w1 = ((w.alloc (.cells (OpX.mk 3 x ye yn ycd).c tOpX)).alloc (.cells #[.int .u64 (ye : Int), .int .u64 (yn : Int)] tSs)).alloc (.cells #[.int .u64 (ye : Int), .int .u64 (yn : Int)] tRs) := ⟨_, rfl⟩
  have hb1 : Below w.heap.size w w1 := by rw [hw1]; exact al (al (al (Below.refl _ _) _) _) _
  have hz1 : w1.heap.size = w.heap.size + 3 := by rw [hw1]; simp
  have hP1 : w1.heap[w.heap.size]? = some (.cells (OpX.mk 3 x ye yn ycd).c tOpX (0, 0)) := by
    rw [hw1]
    exact ((al (al (Below.refl _ (w.alloc (.cells (OpX.mk 3 x ye yn ycd).c tOpX))) _) _).block _ (by simp)).trans (heap_alloc_new _ _)
  have hS1 : w1.heap[w.heap.size + 1]? = some (.cells #[.int .u64 (ye : Int), .int .u64 (yn : Int)] tSs (0, 0)) := by
    rw [hw1]
    have h9 := heap_alloc_new (w.alloc (.cells (OpX.mk 3 x ye yn ycd).c tOpX)) (.cells #[.int .u64 (ye : Int), .int .u64 (yn : Int)] tSs)
    rw [World.size_alloc] at h9
    exact ((al (Below.refl _ ((w.alloc (.cells (OpX.mk 3 x ye yn ycd).c tOpX)).alloc (.cells #[.int .u64 (ye : Int), .int .u64 (yn : Int)] tSs))) _).block _ (by simp)).trans h9
  have hT1 : w1.heap[w.heap.size + 2]? = some (.cells #[.int .u64 (ye : Int), .int .u64 (yn : Int)] tRs (0, 0)) := by
    rw [hw1]
    have h9 := heap_alloc_new ((w.alloc (.cells (OpX.mk 3 x ye yn ycd).c tOpX)).alloc (.cells #[.int .u64 (ye : Int), .int .u64 (yn : Int)] tSs)) (.cells #[.int .u64 (ye : Int), .int .u64 (yn : Int)] tRs)
    rw [World.size_alloc, World.size_alloc] at h9
    exact h9
  obtain ⟨w2, hw2⟩ : ∃ w2, w2 = w1.drew := ⟨_, rfl⟩
  have hb2 : Below w1.heap.size w1 w2 := by rw [hw2]; exact (Below.refl _ _).drew
  have HBW : Hid (Below w.heap.size w w2) := below_next hb1 hb2
  have HC2 : Hid (Calls _ _ _ w2 _) := (h.below HBW.out).drop (ye, yn) hs
  obtain ⟨P, hP⟩ : ∃ P, P = w.heap.size := ⟨_, rfl⟩
  rw [← hP] at hP1 hS1 hT1
  have HFG : Hid (∀ b, F b ∨ G b → b < w.heap.size) := fun b hb => h.lt hb
  have H0 : Hid (w0.heap.size ≤ w.heap.size) := h.bl.size
  have HK : Hid (∀ u, Chg (fun b => F b ∨ G b) w2 u → u.cell? ⟨P + 1, 0, none⟩ = some (.int .u64 (ye : Int)) ∧ u.cell? ⟨P + 1, 1, none⟩ = some (.int .u64 (yn : Int)) ∧ u.cell? ⟨P + 2, 0, none⟩ = some (.int .u64 (ye : Int)) ∧ u.cell? ⟨P + 2, 1, none⟩ = some (.int .u64 (yn : Int)) ∧ u.cell? ⟨P, 12, none⟩ = some (.int .i64 ycd)) := fun u hu => by
    have hno : ∀ j, j < 3 → ¬ (F (P + j) ∨ G (P + j)) := fun j _ h9 => by have := h.lt h9; omega
    have z2 := hb2.size
    have s9 := (hu.block (P + 1) (by omega) (hno 1 (by omega))).trans ((hb2.block (P + 1) (by omega)).trans hS1)
    have t9 := (hu.block (P + 2) (by omega) (hno 2 (by omega))).trans ((hb2.block (P + 2) (by omega)).trans hT1)
    have p9 := (hu.block P (by omega) (hno 0 (by omega))).trans ((hb2.block P (by omega)).trans hP1)
    exact ⟨by rw [cell_of_row _ _ _ _ _ _ s9]; rfl, by rw [cell_of_row _ _ _ _ _ _ s9]; rfl, by rw [cell_of_row _ _ _ _ _ _ t9]; rfl, by rw [cell_of_row _ _ _ _ _ _ t9]; rfl, by rw [cell_of_row _ _ _ _ _ _ p9]; rfl⟩
  have hS2 := HK.out w2 (Chg.refl _ _)
  have HW1 : Hid (w1 = _) := hw1
  have HW2 : Hid (w2 = w1.drew) := hw2
  have HP : Hid (P = w.heap.size) := hP
  obtain ⟨er, her⟩ : ∃ er, er = decide ((ye, yn) ∈ ks I.O) := ⟨_, rfl⟩
  rw [← her] at HC2
  have heq : (er == er) = true := by simp
  obtain ⟨⟨k, e, se, pa, i, cn, xs, ucd, l⟩, da, dn, dc, ga, gn, gc⟩ := x
  clear h hs hN hb1 hz1 hP1 hS1 hT1 hb2 hw1 hw2 hP her
  go_enter Tryz.func19, Tryz.ntmps19
  go_upto_region 15 with fail
  rw [← HW1.out, ← HP.out]
  rw [HW2.out] at hS2 HC2
  refine wp_region_held_drew (S := (fun u => u.cell? ⟨P + 1, 0, none⟩ = some (.int .u64 (ye : Int)) ∧ u.cell? ⟨P + 1, 1, none⟩ = some (.int .u64 (yn : Int)) ∧ u.cell? ⟨P + 2, 0, none⟩ = some (.int .u64 (ye : Int)) ∧ u.cell? ⟨P + 2, 1, none⟩ = some (.int .u64 (yn : Int)) ∧ u.cell? ⟨P, 12, none⟩ = some (.int .i64 ycd))) (by kernel_rfl) (by first | exact hS2 | exact hS5 | exact hS6 | assumption) (fun hHeld => ?_)
  refine take_at (i := 0) 76 (v := ?_) rfl rfl (by kernel_rfl) (by kernel_rfl) (by kernel_rfl) (fun _ _ _ h => h) (by rfl) ?_ hHeld ?_
  rotate_left
  · (intro w hSw; (try dsimp only at hSw); go_simp; try with_reducible rfl)
  simp only [Act.put, List.setIfInBounds_toArray, List.set_cons_zero, List.set_cons_succ]
  refine take_at (i := 1) 77 (v := ?_) rfl rfl (by kernel_rfl) (by kernel_rfl) (by kernel_rfl) (fun _ _ _ h => h) (by rfl) ?_ hHeld ?_
  rotate_left
  · (intro w hSw; (try dsimp only at hSw); go_simp; try with_reducible rfl)
  simp only [Act.put, List.setIfInBounds_toArray, List.set_cons_zero, List.set_cons_succ]
  refine take_at (i := 3) 79 (v := ?_) rfl rfl (by kernel_rfl) (by kernel_rfl) (by kernel_rfl) (fun _ _ _ h => h) (by rfl) ?_ hHeld ?_
  rotate_left
  · (intro w hSw; (try dsimp only at hSw); go_simp; try with_reducible rfl)
  simp only [Act.put, List.setIfInBounds_toArray, List.set_cons_zero, List.set_cons_succ]
  refine take_at (i := 4) 80 (v := ?_) rfl rfl (by kernel_rfl) (by kernel_rfl) (by kernel_rfl) (fun _ _ _ h => h) (by rfl) ?_ hHeld ?_
  rotate_left
  · (intro w hSw; (try dsimp only at hSw); go_simp; try with_reducible rfl)
  simp only [Act.put, List.setIfInBounds_toArray, List.set_cons_zero, List.set_cons_succ]
  refine run_at (i := 2) rfl (by kernel_rfl) (by rfl) (fun K hK => ?_)
  simp only [List.getElem_toArray, List.getElem_cons_zero, List.getElem_cons_succ]
  go_simp
  first | (go_at_call 46; refine Calls.mono HC2.out ?_; rintro e5 w5 ⟨rfl, hc5, hd5⟩; have hS5 := HK.out w5 (by rw [HW2.out]; exact hc5); have HD5 : Hid _ := hd5; clear hc5 hd5) | (go_at_call 47; refine Calls.mono HD5.out ?_; rintro e6 w6 ⟨rfl, hp6⟩; have hS6 := HK.out w6 (by rw [HW2.out]; exact hp6.choose_spec.choose_spec.2.1); have HP6 : Hid _ := hp6; clear hp6)
  go_wp2_with fail
  refine hK.out _ _ (by first | exact hS2 | exact hS5 | exact hS6 | assumption) ?_
  clear hK K
  intro hHeld2
  clear hHeld
  have hHeld := hHeld2
  clear hHeld2
  try simp only [Act.put, List.setIfInBounds_toArray, List.set_cons_zero, List.set_cons_succ]
  refine run_at (i := 5) rfl (by kernel_rfl) (by rfl) (fun K hK => ?_)
  simp only [List.getElem_toArray, List.getElem_cons_zero, List.getElem_cons_succ]
  go_simp
  first | (go_at_call 46; refine Calls.mono HC2.out ?_; rintro e5 w5 ⟨rfl, hc5, hd5⟩; have hS5 := HK.out w5 (by rw [HW2.out]; exact hc5); have HD5 : Hid _ := hd5; clear hc5 hd5) | (go_at_call 47; refine Calls.mono HD5.out ?_; rintro e6 w6 ⟨rfl, hp6⟩; have hS6 := HK.out w6 (by rw [HW2.out]; exact hp6.choose_spec.choose_spec.2.1); have HP6 : Hid _ := hp6; clear hp6)
  go_wp2_with fail
  refine hK.out _ _ (by first | exact hS2 | exact hS5 | exact hS6 | assumption) ?_
  clear hK K
  intro hHeld2
  clear hHeld
  have hHeld := hHeld2
  clear hHeld2
  try simp only [Act.put, List.setIfInBounds_toArray, List.set_cons_zero, List.set_cons_succ]
  refine take_at (i := 6) 82 (v := ?_) rfl rfl (by kernel_rfl) (by kernel_rfl) (by kernel_rfl) (fun _ _ _ h => h) (by rfl) ?_ hHeld ?_
  rotate_left
  · (intro w hSw; (try dsimp only at hSw); go_simp; try with_reducible rfl)
  simp only [Act.put, List.setIfInBounds_toArray, List.set_cons_zero, List.set_cons_succ]
  refine take_at (i := 7) 6 (v := ?_) rfl rfl (by kernel_rfl) (by kernel_rfl) (by kernel_rfl) (fun _ _ _ h => h) (by rfl) ?_ hHeld ?_
  rotate_left
  · (intro w hSw; (try dsimp only at hSw); go_simp; try with_reducible rfl)
  simp only [Act.put, List.setIfInBounds_toArray, List.set_cons_zero, List.set_cons_succ]
  refine wpAnyH_done (by kernel_rfl) ?_ _
  go_wp2
  go_ret
  exact ⟨by simp, PlOut.pre H0.out HBW.out HFG.out (by rw [HW2.out]; exact HP6.out)⟩
theorem plays_1 (h : Pl w0 w p q N I F G) (x : UnM) (ye yn : Nat) (ycd : Int) (hx : UnOk w0 x) (hN : N < 4611686018427387904) : Calls Tryz.prog 19 #[.pointer (some ⟨p, 0, none⟩), .pointer (some ⟨q, 0, none⟩), .agg (OpX.mk 1 x ye yn ycd).c] w fun e w' => e = .returned (.bool true) ∧ PlOut w0 w p q (N + 1) (takeI I x.u) F G w' := by
  obtain ⟨w1, hw1⟩ : ∃ w1, w1 = ((w.alloc (.cells (OpX.mk 1 x ye yn ycd).c tOpX)).alloc (.cells #[.int .u64 (ye : Int), .int .u64 (yn : Int)] tSs)).alloc (.cells #[.int .u64 (ye : Int), .int .u64 (yn : Int)] tRs) := ⟨_, rfl⟩
  have hb1 : Below w.heap.size w w1 := by rw [hw1]; exact al (al (al (Below.refl _ _) _) _) _
  have hz1 : w1.heap.size = w.heap.size + 3 := by rw [hw1]; simp
  have hP1 : w1.heap[w.heap.size]? = some (.cells (OpX.mk 1 x ye yn ycd).c tOpX (0, 0)) := by
    rw [hw1]
    exact ((al (al (Below.refl _ (w.alloc (.cells (OpX.mk 1 x ye yn ycd).c tOpX))) _) _).block _ (by simp)).trans (heap_alloc_new _ _)
  have hS1 : w1.heap[w.heap.size + 1]? = some (.cells #[.int .u64 (ye : Int), .int .u64 (yn : Int)] tSs (0, 0)) := by
    rw [hw1]
    have h9 := heap_alloc_new (w.alloc (.cells (OpX.mk 1 x ye yn ycd).c tOpX)) (.cells #[.int .u64 (ye : Int), .int .u64 (yn : Int)] tSs)
    rw [World.size_alloc] at h9
    exact ((al (Below.refl _ ((w.alloc (.cells (OpX.mk 1 x ye yn ycd).c tOpX)).alloc (.cells #[.int .u64 (ye : Int), .int .u64 (yn : Int)] tSs))) _).block _ (by simp)).trans h9
  have hT1 : w1.heap[w.heap.size + 2]? = some (.cells #[.int .u64 (ye : Int), .int .u64 (yn : Int)] tRs (0, 0)) := by
    rw [hw1]
    have h9 := heap_alloc_new ((w.alloc (.cells (OpX.mk 1 x ye yn ycd).c tOpX)).alloc (.cells #[.int .u64 (ye : Int), .int .u64 (yn : Int)] tSs)) (.cells #[.int .u64 (ye : Int), .int .u64 (yn : Int)] tRs)
    rw [World.size_alloc, World.size_alloc] at h9
    exact h9
  have HLN : Hid (Calls _ _ _ w1 _) := lent_t x w1 (hx.below (h.bl.trans (hb1.mono h.bl.size)))
  obtain ⟨P, hP⟩ : ∃ P, P = w.heap.size := ⟨_, rfl⟩
  rw [← hP] at hP1
  have HFG : Hid (∀ b, F b ∨ G b → b < w.heap.size) := fun b hb => h.lt hb
  have H0 : Hid (w0.heap.size ≤ w.heap.size) := h.bl.size
  have HH : Hid _ := h
  have HX : Hid _ := hx
  have HN : Hid (N < 4611686018427387904) := hN
  have HB1 : Hid _ := hb1
  have HZ1 : Hid _ := hz1
  have HP1 : Hid _ := hP1
  have HW1 : Hid (w1 = _) := hw1
  have HP : Hid (P = w.heap.size) := hP
  obtain ⟨⟨k, e, se, pa, i, cn, xs, ucd, l⟩, da, dn, dc, ga, gn, gc⟩ := x
  clear h hx hN hb1 hz1 hP1 hS1 hT1 hw1 hP
  go_enter Tryz.func19, Tryz.ntmps19
  go_wp2_with fail
  rw [← HW1.out]
  refine Calls.mono HLN.out ?_
  rintro e2 w2 ⟨g, c, h2, d, rfl, hl2, hb2⟩
  obtain ⟨Q, hQ⟩ : ∃ Q, Q = w2.heap.size := ⟨_, rfl⟩
  obtain ⟨w3, hw3⟩ : ∃ w3, w3 = w2.alloc (.cells (lentM (UnM.mk (Un.mk k e se pa i cn xs ucd l) da dn dc ga gn gc) g c h2 d).c tUn) := ⟨_, rfl⟩
  obtain ⟨w4, hw4⟩ : ∃ w4, w4 = w3.drew := ⟨_, rfl⟩
  have hb23 : Below w2.heap.size w2 w3 := by rw [hw3]; exact al (Below.refl _ _) _
  have hb34 : Below w3.heap.size w3 w4 := by rw [hw4]; exact (Below.refl _ _).drew
  have hb24 : Below w2.heap.size w2 w4 := below_next hb23 hb34
  have HB4 : Hid (Below w.heap.size w w4) := below_next (below_next HB1.out hb2) hb24
  have hQ3 : w3.heap[Q]? = some (.cells (lentM (UnM.mk (Un.mk k e se pa i cn xs ucd l) da dn dc ga gn gc) g c h2 d).c tUn (0, 0)) := by rw [hw3, hQ]; exact heap_alloc_new _ _
  have z1 := HZ1.out
  have z2 := hb2.size
  have z3 := hb23.size
  have z4 := hb34.size
  have hQl : Q < w3.heap.size := (Array.getElem?_eq_some_iff.1 hQ3).1
  have hgb := hl2.B1
  have hhb := hl2.B2
  have hPw := HP.out
  have hl4 : LentAt (w1.heap.size + 2) w4 (UnM.mk (Un.mk k e se pa i cn xs ucd l) da dn dc ga gn gc) g c h2 d := hl2.kept (Chg.of_below (F := fun _ => False) hb24) (fun h9 => h9) (fun h9 => h9)
  have hnFG : ∀ b, w.heap.size ≤ b → ¬ (F b ∨ G b) := fun b hb h9 => by have := HFG.out b h9; omega
  have HDU : Hid (Calls _ _ _ w4 _) := (HH.out.below HB4.out).duo (UnM.mk (Un.mk k e se pa i cn xs ucd l) da dn dc ga gn gc) HX.out hl4 (fun h9 => hnFG g (by omega) (.inl h9)) HN.out
  have hS4 : w4.heap[Q]? = some (.cells (lentM (UnM.mk (Un.mk k e se pa i cn xs ucd l) da dn dc ga gn gc) g c h2 d).c tUn (0, 0)) ∧ w4.heap[P]? = some (.cells (OpX.mk 1 (UnM.mk (Un.mk k e se pa i cn xs ucd l) da dn dc ga gn gc) ye yn ycd).c tOpX (0, 0)) := ⟨(hb34.block Q hQl).trans hQ3, (hb24.block P (by omega)).trans ((hb2.block P (by omega)).trans HP1.out)⟩
  have HK : Hid (∀ u, Chg (fun b => F b ∨ G b) w4 u → u.heap[Q]? = some (.cells (lentM (UnM.mk (Un.mk k e se pa i cn xs ucd l) da dn dc ga gn gc) g c h2 d).c tUn (0, 0)) ∧ u.heap[P]? = some (.cells (OpX.mk 1 (UnM.mk (Un.mk k e se pa i cn xs ucd l) da dn dc ga gn gc) ye yn ycd).c tOpX (0, 0))) := fun u hu => ⟨(hu.block Q (by omega) (hnFG Q (by omega))).trans hS4.1, (hu.block P (by omega) (hnFG P (by omega))).trans hS4.2⟩
  have HKB : Hid (∀ u v : World, (u.heap[Q]? = some (.cells (lentM (UnM.mk (Un.mk k e se pa i cn xs ucd l) da dn dc ga gn gc) g c h2 d).c tUn (0, 0)) ∧ u.heap[P]? = some (.cells (OpX.mk 1 (UnM.mk (Un.mk k e se pa i cn xs ucd l) da dn dc ga gn gc) ye yn ycd).c tOpX (0, 0))) → Below u.heap.size u v → (v.heap[Q]? = some (.cells (lentM (UnM.mk (Un.mk k e se pa i cn xs ucd l) da dn dc ga gn gc) g c h2 d).c tUn (0, 0)) ∧ v.heap[P]? = some (.cells (OpX.mk 1 (UnM.mk (Un.mk k e se pa i cn xs ucd l) da dn dc ga gn gc) ye yn ycd).c tOpX (0, 0)))) := fun u v hu hv => ⟨(hv.block Q (Array.getElem?_eq_some_iff.1 hu.1).1).trans hu.1, (hv.block P (Array.getElem?_eq_some_iff.1 hu.2).1).trans hu.2⟩
  have HLK : Hid (∀ u, Chg (fun b => F b ∨ G b) w4 u → LentAt (w1.heap.size + 2) u (UnM.mk (Un.mk k e se pa i cn xs ucd l) da dn dc ga gn gc) g c h2 d) := fun u hu => hl4.kept hu (hnFG g (by omega)) (hnFG h2 (by omega))
  have HSY : Hid (∀ u, Chg (fun b => F b ∨ G b) w4 u → Calls _ _ _ u _) := fun u hu => staysL_t (UnM.mk (Un.mk k e se pa i cn xs ucd l) da dn dc ga gn gc) u (HX.out.below ((HH.out.below HB4.out).of_chg hu (fun b hb => hb.elim (HH.out.oF b) (fun h9 => (HH.out.oG b h9).1)))) (HLK.out u hu)
  have HGE : Hid (w.heap.size ≤ g ∧ g < w4.heap.size ∧ g ≠ Q) := ⟨by omega, by omega, by omega⟩
  have HDN : Hid (dn = xs.length) := HX.out.hn
  have HDB : Hid (dn ≤ 140737488351232) := Nat.le_trans (by have h9 := HX.out.dl; rw [HDN.out]; exact h9) HX.out.db
  have HCC : Hid (dn + 8 ≤ c) := hl2.cc
  have HW3 : Hid (w3 = _) := hw3
  have HW4 : Hid (w4 = w3.drew) := hw4
  have HQ : Hid (Q = w2.heap.size) := hQ
  clear hl2 hb2 hQ hw3 hw4 hb23 hb34 hb24 hQ3 z1 z2 z3 z4 hQl hgb hhb hPw hl4 hnFG
  go_upto_region 6 with fail
  rw [← HW3.out, ← HP.out, ← HQ.out]
  rw [HW4.out] at hS4 HDU HK HSY HLK
  refine wp_region_held_drew (S := (fun u => u.heap[Q]? = some (.cells (lentM (UnM.mk (Un.mk k e se pa i cn xs ucd l) da dn dc ga gn gc) g c h2 d).c tUn (0, 0)) ∧ u.heap[P]? = some (.cells (OpX.mk 1 (UnM.mk (Un.mk k e se pa i cn xs ucd l) da dn dc ga gn gc) ye yn ycd).c tOpX (0, 0)))) (by kernel_rfl) (by first | exact hS4 | exact hS5 | exact hS6 | exact hS7 | exact hS8 | assumption) (fun hHeld => ?_)
  refine take_at (i := 0) 29 (v := ?_) rfl rfl (by kernel_rfl) (by kernel_rfl) (by kernel_rfl) (fun _ _ _ h => h) (by rfl) ?_ hHeld ?_
  rotate_left
  · (intro w hSw; (try dsimp only at hSw); go_simp; try with_reducible rfl)
  simp only [Act.put, List.setIfInBounds_toArray, List.set_cons_zero, List.set_cons_succ]
  refine take_at (i := 1) 30 (v := .agg (lentM (UnM.mk (Un.mk k e se pa i cn xs ucd l) da dn dc ga gn gc) g c h2 d).c) rfl rfl (by kernel_rfl) (by kernel_rfl) (by kernel_rfl) (fun _ _ _ h => h) (by rfl) ?_ hHeld ?_
  · (intro w hSw; refine exec_load (by rfl) ?_; exact load_unX w _ _ (lentM (UnM.mk (Un.mk k e se pa i cn xs ucd l) da dn dc ga gn gc) g c h2 d) (box_range hSw.1))
  simp only [Act.put, List.setIfInBounds_toArray, List.set_cons_zero, List.set_cons_succ]
  refine take_at (i := 3) 32 (v := ?_) rfl rfl (by kernel_rfl) (by kernel_rfl) (by kernel_rfl) (fun _ _ _ h => h) (by rfl) ?_ hHeld ?_
  rotate_left
  · (intro w hSw; (try dsimp only at hSw); go_simp; try with_reducible rfl)
  simp only [Act.put, List.setIfInBounds_toArray, List.set_cons_zero, List.set_cons_succ]
  refine take_at (i := 4) 33 (v := ?_) rfl rfl (by kernel_rfl) (by kernel_rfl) (by kernel_rfl) (fun _ _ _ h => h) (by rfl) ?_ hHeld ?_
  rotate_left
  · (intro w hSw; (try dsimp only at hSw); go_simp; try with_reducible rfl)
  simp only [Act.put, List.setIfInBounds_toArray, List.set_cons_zero, List.set_cons_succ]
  refine take_at (i := 5) 34 (v := .agg (UnM.mk (Un.mk k e se pa i cn xs ucd l) da dn dc ga gn gc).c) rfl rfl (by kernel_rfl) (by kernel_rfl) (by kernel_rfl) (fun _ _ _ h => h) (by rfl) ?_ hHeld ?_
  · (intro w hSw; refine exec_load (by rfl) ?_; exact load_unX w _ _ (UnM.mk (Un.mk k e se pa i cn xs ucd l) da dn dc ga gn gc) (opCell hSw.2).2.2.2.2)
  simp only [Act.put, List.setIfInBounds_toArray, List.set_cons_zero, List.set_cons_succ]
  refine run_at (i := 2) rfl (by kernel_rfl) (by rfl) (fun K hK => ?_)
  simp only [List.getElem_toArray, List.getElem_cons_zero, List.getElem_cons_succ]
  go_simp
  first | (go_at_call 15; refine Calls.mono HDU.out ?_; rintro e5 w5 ⟨v1, rfl, hc5, hd5⟩; have hS5 := HK.out w5 hc5; have HD5 : Hid _ := hd5; clear hc5 hd5) | (go_at_call 22; refine Calls.mono HD5.out ?_; rintro e6 w6 ⟨v2, rfl, hc6, hd6⟩; have hS6 := HK.out w6 hc6; have HD6 : Hid _ := hd6; clear hc6 hd6) | (go_at_call 23; refine Calls.mono HD6.out ?_; rintro e7 w7 ⟨rfl, hp7⟩; have hS7 := HK.out w7 hp7.choose_spec.choose_spec.2.1; have HST : Hid (Calls _ _ _ w7 _) := HSY.out w7 hp7.choose_spec.choose_spec.2.1; have HP7 : Hid _ := hp7; clear hp7) | (go_at_call 44; refine Calls.mono HST.out ?_; rintro e8 w8 ⟨rfl, hb8⟩; have hS8 := HKB.out w7 w8 hS7 hb8; have HB8 : Hid (Below w7.heap.size w7 w8) := hb8; clear hb8)
  go_wp2_with fail
  refine hK.out _ _ (by first | exact hS4 | exact hS5 | exact hS6 | exact hS7 | exact hS8 | assumption) ?_
  clear hK K
  intro hHeld2
  clear hHeld
  have hHeld := hHeld2
  clear hHeld2
  try simp only [Act.put, List.setIfInBounds_toArray, List.set_cons_zero, List.set_cons_succ]
  refine run_at (i := 6) rfl (by kernel_rfl) (by rfl) (fun K hK => ?_)
  simp only [List.getElem_toArray, List.getElem_cons_zero, List.getElem_cons_succ]
  go_simp
  first | (go_at_call 15; refine Calls.mono HDU.out ?_; rintro e5 w5 ⟨v1, rfl, hc5, hd5⟩; have hS5 := HK.out w5 hc5; have HD5 : Hid _ := hd5; clear hc5 hd5) | (go_at_call 22; refine Calls.mono HD5.out ?_; rintro e6 w6 ⟨v2, rfl, hc6, hd6⟩; have hS6 := HK.out w6 hc6; have HD6 : Hid _ := hd6; clear hc6 hd6) | (go_at_call 23; refine Calls.mono HD6.out ?_; rintro e7 w7 ⟨rfl, hp7⟩; have hS7 := HK.out w7 hp7.choose_spec.choose_spec.2.1; have HST : Hid (Calls _ _ _ w7 _) := HSY.out w7 hp7.choose_spec.choose_spec.2.1; have HP7 : Hid _ := hp7; clear hp7) | (go_at_call 44; refine Calls.mono HST.out ?_; rintro e8 w8 ⟨rfl, hb8⟩; have hS8 := HKB.out w7 w8 hS7 hb8; have HB8 : Hid (Below w7.heap.size w7 w8) := hb8; clear hb8)
  go_wp2_with fail
  refine hK.out _ _ (by first | exact hS4 | exact hS5 | exact hS6 | exact hS7 | exact hS8 | assumption) ?_
  clear hK K
  intro hHeld2
  clear hHeld
  have hHeld := hHeld2
  clear hHeld2
  try simp only [Act.put, List.setIfInBounds_toArray, List.set_cons_zero, List.set_cons_succ]
  refine run_at (i := 7) rfl (by kernel_rfl) (by rfl) (fun K hK => ?_)
  simp only [List.getElem_toArray, List.getElem_cons_zero, List.getElem_cons_succ]
  go_simp
  first | (go_at_call 15; refine Calls.mono HDU.out ?_; rintro e5 w5 ⟨v1, rfl, hc5, hd5⟩; have hS5 := HK.out w5 hc5; have HD5 : Hid _ := hd5; clear hc5 hd5) | (go_at_call 22; refine Calls.mono HD5.out ?_; rintro e6 w6 ⟨v2, rfl, hc6, hd6⟩; have hS6 := HK.out w6 hc6; have HD6 : Hid _ := hd6; clear hc6 hd6) | (go_at_call 23; refine Calls.mono HD6.out ?_; rintro e7 w7 ⟨rfl, hp7⟩; have hS7 := HK.out w7 hp7.choose_spec.choose_spec.2.1; have HST : Hid (Calls _ _ _ w7 _) := HSY.out w7 hp7.choose_spec.choose_spec.2.1; have HP7 : Hid _ := hp7; clear hp7) | (go_at_call 44; refine Calls.mono HST.out ?_; rintro e8 w8 ⟨rfl, hb8⟩; have hS8 := HKB.out w7 w8 hS7 hb8; have HB8 : Hid (Below w7.heap.size w7 w8) := hb8; clear hb8)
  go_wp2_with fail
  refine hK.out _ _ (by first | exact hS4 | exact hS5 | exact hS6 | exact hS7 | exact hS8 | assumption) ?_
  clear hK K
  intro hHeld2
  clear hHeld
  have hHeld := hHeld2
  clear hHeld2
  try simp only [Act.put, List.setIfInBounds_toArray, List.set_cons_zero, List.set_cons_succ]
  refine take_at (i := 8) 37 (v := ?_) rfl rfl (by kernel_rfl) (by kernel_rfl) (by kernel_rfl) (fun _ _ _ h => h) (by rfl) ?_ hHeld ?_
  rotate_left
  · (intro w hSw; (try dsimp only at hSw); go_simp; try with_reducible rfl)
  simp only [Act.put, List.setIfInBounds_toArray, List.set_cons_zero, List.set_cons_succ]
  refine take_at (i := 9) 38 (v := .agg (lentM (UnM.mk (Un.mk k e se pa i cn xs ucd l) da dn dc ga gn gc) g c h2 d).c) rfl rfl (by kernel_rfl) (by kernel_rfl) (by kernel_rfl) (fun _ _ _ h => h) (by rfl) ?_ hHeld ?_
  · (intro w hSw; refine exec_load (by rfl) ?_; exact load_unX w _ _ (lentM (UnM.mk (Un.mk k e se pa i cn xs ucd l) da dn dc ga gn gc) g c h2 d) (box_range hSw.1))
  simp only [Act.put, List.setIfInBounds_toArray, List.set_cons_zero, List.set_cons_succ]
  refine take_at (i := 10) 39 (v := ?_) rfl rfl (by kernel_rfl) (by kernel_rfl) (by kernel_rfl) (fun _ _ _ h => h) (by rfl) ?_ hHeld ?_
  rotate_left
  · (intro w hSw; (try dsimp only at hSw); go_simp; try with_reducible rfl)
  simp only [Act.put, List.setIfInBounds_toArray, List.set_cons_zero, List.set_cons_succ]
  refine take_at (i := 11) 40 (v := .agg (UnM.mk (Un.mk k e se pa i cn xs ucd l) da dn dc ga gn gc).c) rfl rfl (by kernel_rfl) (by kernel_rfl) (by kernel_rfl) (fun _ _ _ h => h) (by rfl) ?_ hHeld ?_
  · (intro w hSw; refine exec_load (by rfl) ?_; exact load_unX w _ _ (UnM.mk (Un.mk k e se pa i cn xs ucd l) da dn dc ga gn gc) (opCell hSw.2).2.2.2.2)
  simp only [Act.put, List.setIfInBounds_toArray, List.set_cons_zero, List.set_cons_succ]
  refine run_at (i := 12) rfl (by kernel_rfl) (by rfl) (fun K hK => ?_)
  simp only [List.getElem_toArray, List.getElem_cons_zero, List.getElem_cons_succ]
  go_simp
  first | (go_at_call 15; refine Calls.mono HDU.out ?_; rintro e5 w5 ⟨v1, rfl, hc5, hd5⟩; have hS5 := HK.out w5 hc5; have HD5 : Hid _ := hd5; clear hc5 hd5) | (go_at_call 22; refine Calls.mono HD5.out ?_; rintro e6 w6 ⟨v2, rfl, hc6, hd6⟩; have hS6 := HK.out w6 hc6; have HD6 : Hid _ := hd6; clear hc6 hd6) | (go_at_call 23; refine Calls.mono HD6.out ?_; rintro e7 w7 ⟨rfl, hp7⟩; have hS7 := HK.out w7 hp7.choose_spec.choose_spec.2.1; have HST : Hid (Calls _ _ _ w7 _) := HSY.out w7 hp7.choose_spec.choose_spec.2.1; have HP7 : Hid _ := hp7; clear hp7) | (go_at_call 44; refine Calls.mono HST.out ?_; rintro e8 w8 ⟨rfl, hb8⟩; have hS8 := HKB.out w7 w8 hS7 hb8; have HB8 : Hid (Below w7.heap.size w7 w8) := hb8; clear hb8)
  go_wp2_with fail
  refine hK.out _ _ (by first | exact hS4 | exact hS5 | exact hS6 | exact hS7 | exact hS8 | assumption) ?_
  clear hK K
  intro hHeld2
  clear hHeld
  have hHeld := hHeld2
  clear hHeld2
  try simp only [Act.put, List.setIfInBounds_toArray, List.set_cons_zero, List.set_cons_succ]
  refine take_at (i := 13) 42 (v := ?_) rfl rfl (by kernel_rfl) (by kernel_rfl) (by kernel_rfl) (fun _ _ _ h => h) (by rfl) ?_ hHeld ?_
  rotate_left
  · (intro w hSw; (try dsimp only at hSw); go_simp; try with_reducible rfl)
  simp only [Act.put, List.setIfInBounds_toArray, List.set_cons_zero, List.set_cons_succ]
  refine take_at (i := 14) 10 (v := ?_) rfl rfl (by kernel_rfl) (by kernel_rfl) (by kernel_rfl) (fun _ _ _ h => h) (by rfl) ?_ hHeld ?_
  rotate_left
  · (intro w hSw; (try dsimp only at hSw); go_simp; try with_reducible rfl)
  simp only [Act.put, List.setIfInBounds_toArray, List.set_cons_zero, List.set_cons_succ]
  refine wpAnyH_done (by kernel_rfl) ?_ _
  have HB8c : Hid (LentAt (w1.heap.size + 2) w7 (UnM.mk (Un.mk k e se pa i cn xs ucd l) da dn dc ga gn gc) g c h2 d) := HLK.out w7 HP7.out.choose_spec.choose_spec.2.1
  have HO8 : Hid (Own w8 0 (.slice (some ⟨g, 0, none⟩) (dn + 8) c) (xs ++ marksL)) := Own.base (Own.below HB8c.out.bs HB8.out) (Nat.zero_le _)
  have HQ8 : Hid _ := hS8.1
  clear hS4 hS5 hS6 hS7 hS8 hHeld
  go_upto_region 8 with fail
  go_loopw [11] (fun j wr => ∃ k9 : Nat, k9 ≤ dn ∧ j = .int .i64 (k9 : Int) ∧ Own wr 0 (.slice (some ⟨g, 0, none⟩) (dn + 8) c) (xorL 90 (xs.take k9) ++ (xs.drop k9 ++ marksL)) ∧ Chg (fun b => b = g) w8 wr) (fun j _ => dn - (intOf j).toNat)
  case atStart => exact ⟨0, Nat.zero_le _, rfl, by simpa [xorL] using HO8.out, Chg.refl _ _⟩
  case round =>
    obtain ⟨k9, hk9, rfl, hok, hcr⟩ := hrel
    have hQr := (hcr.block Q (Array.getElem?_eq_some_iff.1 HQ8.out).1 (fun e9 => HGE.out.2.2 e9.symm)).trans HQ8.out
    have HCQ : Hid (∀ u, Below wr.heap.size wr u → u.cell? ⟨Q, 6, none⟩ = some (.slice (some ⟨g, 0, none⟩) dn c)) := fun u hu => (unBox ((hu.block Q (Array.getElem?_eq_some_iff.1 hQr).1).trans hQr)).2.2.2.2.2.2.1
    have hcq := HCQ.out wr (Below.refl _ _)
    have hkw : IntKind.i64.wrap ((k9 : Int) + 1) = ((k9 + 1 : Nat) : Int) := by rw [IntKind.wrap_i64]; have := HDB.out; omega
    have HCR : Hid _ := hcr
    by_cases hlt : k9 < dn
    · have hltI : (k9 : Int) < (dn : Int) := by omega
      have hk0 : (0 : Int) ≤ (k9 : Int) := by omega
      have hkx : k9 < xs.length := by rw [← HDN.out]; exact hlt
      have hlen : (xorL 90 (xs.take k9) ++ (xs.drop k9 ++ marksL)).length = dn + 8 := by have := HDN.out; simp [xorL_len, marksL]; omega
      have hok' := Own.below hok (Below.refl wr.heap.size wr).drew
      rw [← hlen] at hok'
      obtain ⟨y, hy⟩ : ∃ y, y = xs[k9] := ⟨_, rfl⟩
      have hcell : ∀ u, Below wr.heap.size wr u → u.cell? ⟨g, k9, none⟩ = some (.int .u8 (y.toNat : Int)) := fun u hu => by
        have h9 := Own.below hok hu
        rw [← hlen] at h9
        rw [World.ownsRow.cellAt h9 k9 (by omega), bv_get _ k9 (by omega), xorL_at 90 xs k9 hkx marksL (by omega), hy]
      have hfz := World.ownsRow.frozenAt hok' k9
      have hst := own_set hok' k9 (xs[k9] ^^^ 90) (bits .xor .u8 (y.toNat : Int) 90) (by rw [hy, show (90 : Int) = (((90 : UInt8).toNat : Nat) : Int) from rfl, u8_xor_ints])
      rw [hlen, xorL_snoc 90 xs k9 hkx] at hst
      have HST9 : Hid _ := hst
      have HCY : Hid _ := hcell
      have hcy := hcell wr.drew (Below.refl _ _).drew
      clear hlen hok' hst hok hcell hcr hQr hy hkx
      go_wp2_with fail
      refine wp_region_noPanic ?_
      refine wp_region_late_drew (S := (fun u => Below wr.heap.size wr u)) (X := [10]) (by kernel_rfl) (by with_reducible first | exact (Below.refl _ _).drew | assumption) (fun hHeld => ?_)
      refine take_atA (i := 0) 50 (v := ?_) rfl rfl (by kernel_rfl) (by kernel_rfl) (by kernel_rfl) (by decide) (fun _ _ _ h => h) (by rfl) ?_ hHeld ?_
      rotate_left
      · (intro w; go_simp; try with_reducible rfl)
      simp only [Act.put, List.setIfInBounds_toArray, List.set_cons_zero, List.set_cons_succ]
      refine take_atL (i := 1) 51 (v := .slice (some ⟨g, 0, none⟩) dn c) rfl rfl (by kernel_rfl) (by kernel_rfl) (by kernel_rfl) (by kernel_rfl) (fun _ _ _ h => h) (by rfl) ?_ hHeld ?_
      · (intro w hSw; have hc9 := HCQ.out _ hSw; go_simp; try with_reducible rfl)
      simp only [Act.put, List.setIfInBounds_toArray, List.set_cons_zero, List.set_cons_succ]
      refine take_atA (i := 2) 52 (v := ?_) rfl rfl (by kernel_rfl) (by kernel_rfl) (by kernel_rfl) (by decide) (fun _ _ _ h => h) (by rfl) ?_ hHeld ?_
      rotate_left
      · (intro w; go_simp; try with_reducible rfl)
      simp only [Act.put, List.setIfInBounds_toArray, List.set_cons_zero, List.set_cons_succ]
      refine take_atA (i := 3) 53 (v := ?_) rfl rfl (by kernel_rfl) (by kernel_rfl) (by kernel_rfl) (by decide) (fun _ _ _ h => h) (by rfl) ?_ hHeld ?_
      rotate_left
      · (intro w; go_simp; try with_reducible rfl)
      simp only [Act.put, List.setIfInBounds_toArray, List.set_cons_zero, List.set_cons_succ]
      refine take_atL (i := 4) 54 (v := .slice (some ⟨g, 0, none⟩) dn c) rfl rfl (by kernel_rfl) (by kernel_rfl) (by kernel_rfl) (by kernel_rfl) (fun _ _ _ h => h) (by rfl) ?_ hHeld ?_
      · (intro w hSw; have hc9 := HCQ.out _ hSw; go_simp; try with_reducible rfl)
      simp only [Act.put, List.setIfInBounds_toArray, List.set_cons_zero, List.set_cons_succ]
      refine take_atA (i := 5) 55 (v := ?_) rfl rfl (by kernel_rfl) (by kernel_rfl) (by kernel_rfl) (by decide) (fun _ _ _ h => h) (by rfl) ?_ hHeld ?_
      rotate_left
      · (intro w; go_simp; try with_reducible rfl)
      simp only [Act.put, List.setIfInBounds_toArray, List.set_cons_zero, List.set_cons_succ]
      refine take_atA (i := 6) 56 (v := ?_) rfl rfl (by kernel_rfl) (by kernel_rfl) (by kernel_rfl) (by decide) (fun _ _ _ h => h) (by rfl) ?_ hHeld ?_
      rotate_left
      · (intro w; go_simp; try with_reducible rfl)
      simp only [Act.put, List.setIfInBounds_toArray, List.set_cons_zero, List.set_cons_succ]
      refine take_atL (i := 7) 57 (v := .int .u8 (y.toNat : Int)) rfl rfl (by kernel_rfl) (by kernel_rfl) (by kernel_rfl) (by kernel_rfl) (fun _ _ _ h => h) (by rfl) ?_ hHeld ?_
      · (intro w hSw; have hc9 := HCY.out _ hSw; go_simp; try with_reducible rfl)
      simp only [Act.put, List.setIfInBounds_toArray, List.set_cons_zero, List.set_cons_succ]
      refine take_atA (i := 8) 58 (v := ?_) rfl rfl (by kernel_rfl) (by kernel_rfl) (by kernel_rfl) (by decide) (fun _ _ _ h => h) (by rfl) ?_ hHeld ?_
      rotate_left
      · (intro w; go_simp; try with_reducible rfl)
      simp only [Act.put, List.setIfInBounds_toArray, List.set_cons_zero, List.set_cons_succ]
      refine take_atA (i := 9) 59 (v := ?_) rfl rfl (by kernel_rfl) (by kernel_rfl) (by kernel_rfl) (by decide) (fun _ _ _ h => h) (by rfl) ?_ hHeld ?_
      rotate_left
      · (intro w; go_simp; try with_reducible rfl)
      simp only [Act.put, List.setIfInBounds_toArray, List.set_cons_zero, List.set_cons_succ]
      refine run_atLate (i := 10) rfl (by kernel_rfl) (by decide) (by rfl) (fun K hK => ?_)
      simp only [List.getElem_toArray, List.getElem_cons_zero, List.getElem_cons_succ]
      go_simp
      go_wp2_with fail
      refine hK.out _ _ ?_
      clear hK K
      try simp only [Act.put, List.setIfInBounds_toArray, List.set_cons_zero, List.set_cons_succ]
      refine doneL (by kernel_rfl) ?_ _
      refine NoPanic.normal ?_
      go_wp2
      go_roundw
      case rel => exact ⟨k9 + 1, by omega, by go_num, HST9.out.1, HCR.out.trans (Chg.trans (F := fun b => b = g) (Chg.refl _ wr).drew (Chg.of_grown HST9.out.2 (F := fun b => b = g) (fun b e9 => (Option.some.inj e9).symm)) (fun b e9 => .inl e9)) (fun b e9 => .inl e9)⟩
      case measure => simp [intOf]; omega
    · have hltI : ¬ (k9 : Int) < (dn : Int) := by omega
      clear hok hcr hQr
      go_wp2
      go_ret
      refine ⟨rfl, PlOut.fin H0.out HB4.out HFG.out (by rw [HW4.out]; exact HP7.out) (D := fun b => b = g) ((Chg.of_below HB8.out).trans HCR.out (fun b e9 => .inl e9)) (fun b e9 => .inl ⟨by rw [e9]; exact HGE.out.1, by rw [e9]; exact HGE.out.2.1⟩)⟩
theorem plays_t (h : Pl w0 w p q N I F G) (y : OpX) (hy : OpOk w0 y) (hN : N < 4611686018427387904) : Calls Tryz.prog 19 #[.pointer (some ⟨p, 0, none⟩), .pointer (some ⟨q, 0, none⟩), .agg y.c] w fun e w' => e = .returned (.bool true) ∧ PlOut w0 w p q (N + 1) (doI I y) F G w' := by
  obtain ⟨kd, x, ye, yn, ycd⟩ := y
  unfold doI
  simp only
  by_cases h1 : kd = 1
  · subst h1
    rw [if_pos rfl]
    exact plays_1 h x ye yn ycd hy.un hN
  · rw [if_neg h1]
    by_cases h2 : kd = 2
    · subst h2
      rw [if_pos rfl]
      exact plays_2 h x ye yn ycd hy.s hN
    · rw [if_neg h2]
      by_cases h3 : kd = 3
      · subst h3
        rw [if_pos rfl]
        exact plays_3 h x ye yn ycd hy.s hN
      · rw [if_neg h3]
        exact plays_o h kd h1 h2 h3 x ye yn ycd
end
end Go.Proofs.YtdoikcolkbjnfaaGreat
namespace Go.Proofs.YtdoikcolkbjnfaaGreat
set_option linter.unusedVariables false
set_option linter.unusedSimpArgs false
open Go.RowKit Go.Maps
theorem both_p (a b : Int) (h : valN a b) (w : World) : Calls Tryz.prog 18 #[.int .i64 a, .int .i64 b] w fun e w' => ∃ p q I F G, e = .returned (.tuple #[.pointer (some ⟨p, 0, none⟩), .pointer (some ⟨q, 0, none⟩), .bool true]) ∧ Pl w w' p q 0 I F G := by
  refine Calls.mono (both_t a b h w) ?_
  rintro e w' ⟨p, q, F, rfl, hI, hR, hF, hq, hb⟩
  refine ⟨p, q, _, F, fun b => b = q, rfl, hI, ⟨.slice none 0 0, .slice none 0 0, [], ⟨⟨hR.hp, hR.ro, hR.rs⟩, fun x hx => (List.not_mem_nil hx).elim, List.Pairwise.nil, fun x hx => (List.not_mem_nil hx).elim, rfl, hR.ok⟩, fun b hb => ?_⟩, fun b h1 h2 => by have := (hF b h1).2; omega, fun b h1 => (hF b h1).1, fun b h1 => by subst h1; exact ⟨hq, (Array.getElem?_eq_some_iff.1 hR.hp).1⟩, hb⟩
  rcases hb with hb | hb | hb | ⟨x, hx, -⟩
  · exact hb
  · cases hb
  · cases hb
  · cases hx
section
set_option maxRecDepth 20000
set_option maxHeartbeats 6400000
theorem holds_t (a b : Int) (sa : Option Addr) (sc : Nat) (xs : List OpX) (w : World) (ha : -9223372036854775808 ≤ a ∧ a ≤ 9223372036854775807) (hb : -9223372036854775808 ≤ b ∧ b ≤ 9223372036854775807) (hx : RdX w sa xs) (hlc : xs.length ≤ sc) (hnil : sa = none → sc = 0) (hn : xs.length ≤ 4398046511103) (kind : Int) : Calls Tryz.prog 21 #[.int .i64 a, .int .i64 b, .slice sa xs.length sc, .int .i64 kind] w fun e w' => e = .returned (.bool true) ∧ Below w.heap.size w w' := by
  have HK : Hid (∀ u : World, Calls _ _ _ u _) := fun u => knows_t u
  have HX : Hid _ := hx
  obtain ⟨M, hM⟩ : ∃ M, M = xs.length := ⟨_, rfl⟩
  rw [← hM]
  have HML : Hid _ := hM
  have hMb : M ≤ 4398046511103 := by omega
  by_cases hv : valN a b
  · have HBO : Hid (Calls _ _ _ w _) := both_p a b hv w
    clear hx hn hM hlc hnil ha hb hv
    go_enter Tryz.func21, Tryz.ntmps21
    go_wp2_with fail
    refine Calls.mono HBO.out ?_
    rintro e w1 ⟨p, q, I0, F0, G0, rfl, hp1⟩
    have HP1 : Hid _ := hp1
    clear hp1
    go_wp2_with fail
    refine Calls.mono (HK.out _) ?_
    rintro e w2 ⟨rfl, hb2⟩
    have HP2 : Hid (Pl w w2 p q 0 I0 F0 G0) := HP1.out.below hb2
    clear hb2
    go_wp2
    go_loopw [12] (fun j wr => ∃ (k : Nat) (I : Ib) (F G : Nat → Prop), k ≤ M ∧ j = .int .i64 (k : Int) ∧ Pl w wr p q k I F G) (fun j _ => M - (intOf j).toNat)
    case atStart => exact ⟨0, I0, F0, G0, Nat.zero_le _, rfl, HP2.out⟩
    case round =>
      obtain ⟨k, I, F, G, hk, rfl, hpl⟩ := hrel
      have hkw : IntKind.i64.wrap ((k : Int) + 1) = ((k + 1 : Nat) : Int) := by rw [IntKind.wrap_i64]; omega
      by_cases hlt : k < M
      · have hlti : (k : Int) < (M : Int) := by omega
        have hk0 : (0 : Int) ≤ (k : Int) := by omega
        have hk1 : k < xs.length := by rw [← HML.out]; exact hlt
        obtain ⟨sb, so, rfl, hrng, hop⟩ := HX.out k hk1
        obtain ⟨y, hy⟩ : ∃ y, y = xs[k] := ⟨_, rfl⟩
        rw [← hy] at hrng hop
        have hld := opRange (rangeAt_below hrng hpl.bl)
        have HPL : Hid (Calls _ _ _ wr _) := plays_t hpl y hop (by omega)
        have HRN : Hid _ := hrng
        have HPW : Hid _ := hpl
        obtain ⟨J, hJ⟩ : ∃ J, J = doI I y := ⟨_, rfl⟩
        rw [← hJ] at HPL
        clear hpl hrng hop hJ hk1 hy
        go_wp2_with fail
        refine Calls.mono HPL.out ?_
        rintro e3 w3 ⟨rfl, F3, G3, hp3, -, -⟩
        have HP3 : Hid _ := hp3
        have HSH : Hid (Calls _ _ _ w3 _) := hp3.shows
        have hld3 := opRange (rangeAt_below HRN.out HP3.out.bl)
        clear hp3 hld
        by_cases hkk : y.kd = kind
        · have hkq : (y.kd == kind) = true := by simp [hkk]
          clear hkk
          go_wp2_with fail
          refine Calls.mono HSH.out ?_
          rintro e4 w4 ⟨rfl, hb4⟩
          have HP4 : Hid _ := HP3.out.below hb4
          clear hb4 hld3
          go_wp2
          go_roundw
          case rel => exact ⟨k + 1, J, F3, G3, by omega, by go_num, HP4.out⟩
          case measure => simp [intOf]; omega
        · have hkq : (y.kd == kind) = false := by simp [hkk]
          clear hkk
          go_wp2
          go_roundw
          case rel => exact ⟨k + 1, J, F3, G3, by omega, by go_num, HP3.out⟩
          case measure => simp [intOf]; omega
      · have hlti : ¬ (k : Int) < (M : Int) := by omega
        have HPE : Hid _ := hpl
        clear hpl
        go_wp2
        go_ret
        exact ⟨rfl, HPE.out.bl⟩
  · have HBO : Hid (Calls _ _ _ w _) := both_no a b hv w
    clear hx hn hM hlc hnil ha hb hv
    go_enter Tryz.func21, Tryz.ntmps21
    go_wp2_with fail
    refine Calls.mono HBO.out ?_
    rintro e w1 ⟨rfl, hq⟩
    have hq := hq.symm
    subst hq
    go_wp2_with fail
    refine Calls.mono (HK.out _) ?_
    rintro e w2 ⟨rfl, hb2⟩
    have HB2 : Hid (Below w.heap.size w w2) := hb2
    clear hb2
    go_wp2
    go_ret
    exact ⟨rfl, HB2.out⟩
end
end Go.Proofs.YtdoikcolkbjnfaaGreat
namespace Go.Proofs.YtdoikcolkbjnfaaGreat
set_option linter.unusedVariables false
set_option linter.unusedSimpArgs false
open Go.RowKit Go.Maps
section
set_option maxRecDepth 20000
set_option maxHeartbeats 6400000
theorem inboxDrops_walk (a b : Int) (sa : Option Addr) (sc : Nat) (xs : List OpX) (w : World) (ha : -9223372036854775808 ≤ a ∧ a ≤ 9223372036854775807) (hb : -9223372036854775808 ≤ b ∧ b ≤ 9223372036854775807) (hx : RdX w sa xs) (hlc : xs.length ≤ sc) (hnil : sa = none → sc = 0) (hn : xs.length ≤ 4398046511103) : Calls Tryz.prog 7 #[.int .i64 a, .int .i64 b, .slice sa xs.length sc] w fun e w' => e = .returned (.bool true) ∧ Below w.heap.size w w' := by
  have HH : Hid (Calls _ _ _ w _) := holds_t a b sa sc xs w ha hb hx hlc hnil hn 3
  obtain ⟨M, hM⟩ : ∃ M, M = xs.length := ⟨_, rfl⟩
  rw [← hM] at HH ⊢
  clear hx hn hM hlc hnil ha hb
  go_enter Tryz.func7, Tryz.ntmps7
  go_wp2_with fail
  refine Calls.mono HH.out ?_
  rintro e w1 ⟨rfl, hb1⟩
  have HB1 : Hid _ := hb1
  clear hb1
  go_wp2
  go_ret
  exact ⟨rfl, HB1.out⟩
end
end Go.Proofs.YtdoikcolkbjnfaaGreat
