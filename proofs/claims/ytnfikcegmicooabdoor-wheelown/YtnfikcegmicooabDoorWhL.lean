import Derived.Test.YtnfikcegmicooabDoorWhK
namespace Go.Proofs.YtnfikcegmicooabDoor
set_option linter.unusedVariables false
set_option linter.unusedSimpArgs false
open Go.RowKit Go.Maps
section
variable {w w' : World} {p m N S : Nat} {F : Nat → Nat → List Tm} {V : Nat → Nat → Value} {fl : Nat → Nat} {K : List Int} {X : Int → Pl}
set_option maxRecDepth 20000 in
set_option maxHeartbeats 1600000 in
theorem leave_8 (h : Wx w p m N S F K X V) (s i : Nat) :
    Calls Tryd.prog 43 #[.pointer (some ⟨p, 0, none⟩), plv ⟨8, s, i⟩] w fun e w' => e = .returned (.tuple #[]) ∧ Wx w' p m N S F K X V ∧ Stp w w' p m V V := by
  go_enter Tryd.func43, Tryd.ntmps43
  go_wp2
  refine bodyPost_ret (results_none rfl _ _ _) rfl ?_
  exact ⟨rfl, h.below (al (Below.refl _ _) _), Stp.below (al (Below.refl _ _) _) _ _ _⟩
theorem cell3 {w : World} {P : Nat} {a b c : Value} {t : TypeId} (h : w.heap[P]? = some (.cells #[a, b, c] t (0, 0))) : w.cell? ⟨P, 0, none⟩ = some a ∧ w.cell? ⟨P, 1, none⟩ = some b ∧ w.cell? ⟨P, 2, none⟩ = some c :=
  ⟨by rw [cell_of_row _ _ _ _ _ _ h]; rfl, by rw [cell_of_row _ _ _ _ _ _ h]; rfl, by rw [cell_of_row _ _ _ _ _ _ h]; rfl⟩
def leaveX (F : Nat → Nat → List Tm) (X : Int → Pl) (k s i : Nat) : Int → Pl := if i < (F k s).length - 1 then updI X ((F k s).getD ((F k s).length - 1) ⟨0, 0, 0⟩).id ⟨k, s, i⟩ else X
set_option maxRecDepth 20000 in
set_option maxHeartbeats 1600000 in
theorem leave_w {KS : List Int} (h : Wx w p m N S F KS X V) (k s i : Nat) (hk : k < 8) (hs : s < 64) (hi : i < (F k s).length) (hK : KS.length ≤ 4398046511104) (hm : i < (F k s).length - 1 → ((F k s).getD ((F k s).length - 1) ⟨0, 0, 0⟩).id ∈ KS) :
    Calls Tryd.prog 43 #[.pointer (some ⟨p, 0, none⟩), plv ⟨k, s, i⟩] w fun e w' => e = .returned (.tuple #[]) ∧ ∃ V', Wx w' p m N S (upd2 F k s (remL (F k s) i)) KS (leaveX F X k s i) V' ∧ Stp w w' p m V V' := by
  have hki : (k : Int) < 8 := by omega
  have hk8 : ((k : Int) == 8) = false := by simp; omega
  have HX : Hid _ := h
  have HKL : Hid _ := hK
  have HI : Hid _ := hi
  have HM : Hid _ := hm
  have hpl := Wx.lt h (.inl rfl : footW p m V p)
  clear h hi hm hK
  go_enter Tryd.func43, Tryd.ntmps43
  go_wp2
  obtain ⟨w2, hw2⟩ : ∃ w2, w2 = w.alloc (Obj.cells #[.int .i64 (k : Int), .int .i64 (s : Int), .int .i64 (i : Int)] tPl) := ⟨_, rfl⟩
  have hb1 : Below w.heap.size w w2 := by rw [hw2]; exact al (Below.refl _ _) _
  obtain ⟨P, hP⟩ : ∃ P, P = w.heap.size := ⟨_, rfl⟩
  have hA : w2.heap[P]? = some (.cells #[.int .i64 (k : Int), .int .i64 (s : Int), .int .i64 (i : Int)] tPl (0, 0)) := by
    rw [hw2, hP]
    exact heap_alloc_new w _
  rw [← hw2]
  rw [← hP]
  have HP : Hid _ := hP
  have HB1 : Hid _ := hb1
  have HA2 : Hid _ := hA
  obtain ⟨r0, r1, r2⟩ : w2.cell? ⟨P, 0, none⟩ = some (.int .i64 (k : Int)) ∧ w2.cell? ⟨P, 1, none⟩ = some (.int .i64 (s : Int)) ∧ w2.cell? ⟨P, 2, none⟩ = some (.int .i64 (i : Int)) := ⟨by rw [cell_of_row _ _ _ _ _ _ hA]; rfl, by rw [cell_of_row _ _ _ _ _ _ hA]; rfl, by rw [cell_of_row _ _ _ _ _ _ hA]; rfl⟩
  have HW2 : Hid _ := hw2
  clear hA hb1 hP hw2
  have hPs : w2.heap.size = P + 1 := by rw [HW2.out, HP.out]; simp
  have HPS : Hid _ := hPs
  have HBN : Hid ((w2.alloc (Obj.cells #[.int .i64 0, .int .u64 0, .int .u64 0] tTm)).drew.heap[w2.heap.size]? = some (.cells #[.int .i64 0, .int .u64 0, .int .u64 0] tTm (0, 0))) := heap_alloc_new w2 _
  have hPlt : P < w2.heap.size := by omega
  clear hPs
  have hS2 := cell3 HA2.out
  have HS2A : Hid (∀ o : Obj, (w2.alloc o).cell? ⟨P, 0, none⟩ = some (.int .i64 (k : Int)) ∧ (w2.alloc o).cell? ⟨P, 1, none⟩ = some (.int .i64 (s : Int)) ∧ (w2.alloc o).cell? ⟨P, 2, none⟩ = some (.int .i64 (i : Int))) := fun o => cell3 ((heap_alloc_old w2 o hPlt).trans HA2.out)
  refine wp_region_noPanic ?_
  refine wp_region_held_drew (S := (fun u => u.cell? ⟨P, 0, none⟩ = some (.int .i64 (k : Int)) ∧ u.cell? ⟨P, 1, none⟩ = some (.int .i64 (s : Int)) ∧ u.cell? ⟨P, 2, none⟩ = some (.int .i64 (i : Int)))) (by kernel_rfl) (by first | exact hS2 | exact hS4 | exact HS2A.out _ | exact HS4A.out _ | exact HS4S.out _ _ _) (fun hHeld => ?_)
  refine take_at (i := 0) 10 (v := ?_) rfl rfl (by kernel_rfl) (by kernel_rfl) (by kernel_rfl) (fun _ _ _ h => h) (by rfl) ?_ hHeld ?_
  rotate_left
  · (intro w hSw; (try dsimp only at hSw); go_simp; try with_reducible rfl)
  simp only [Act.put, List.setIfInBounds_toArray, List.set_cons_zero, List.set_cons_succ]
  refine take_at (i := 1) 11 (v := ?_) rfl rfl (by kernel_rfl) (by kernel_rfl) (by kernel_rfl) (fun _ _ _ h => h) (by rfl) ?_ hHeld ?_
  rotate_left
  · (intro w hSw; (try dsimp only at hSw); go_simp; try with_reducible rfl)
  simp only [Act.put, List.setIfInBounds_toArray, List.set_cons_zero, List.set_cons_succ]
  refine take_at (i := 2) 12 (v := ?_) rfl rfl (by kernel_rfl) (by kernel_rfl) (by kernel_rfl) (fun _ _ _ h => h) (by rfl) ?_ hHeld ?_
  rotate_left
  · (intro w hSw; (try dsimp only at hSw); go_simp; try with_reducible rfl)
  simp only [Act.put, List.setIfInBounds_toArray, List.set_cons_zero, List.set_cons_succ]
  refine take_at (i := 3) 13 (v := ?_) rfl rfl (by kernel_rfl) (by kernel_rfl) (by kernel_rfl) (fun _ _ _ h => h) (by rfl) ?_ hHeld ?_
  rotate_left
  · (intro w hSw; (try dsimp only at hSw); go_simp; try with_reducible rfl)
  simp only [Act.put, List.setIfInBounds_toArray, List.set_cons_zero, List.set_cons_succ]
  refine take_at (i := 4) 14 (v := ?_) rfl rfl (by kernel_rfl) (by kernel_rfl) (by kernel_rfl) (fun _ _ _ h => h) (by rfl) ?_ hHeld ?_
  rotate_left
  · (intro w hSw; (try dsimp only at hSw); go_simp; try with_reducible rfl)
  simp only [Act.put, List.setIfInBounds_toArray, List.set_cons_zero, List.set_cons_succ]
  refine take_at (i := 5) 15 (v := ?_) rfl rfl (by kernel_rfl) (by kernel_rfl) (by kernel_rfl) (fun _ _ _ h => h) (by rfl) ?_ hHeld ?_
  rotate_left
  · (intro w hSw; (try dsimp only at hSw); go_simp; try with_reducible rfl)
  simp only [Act.put, List.setIfInBounds_toArray, List.set_cons_zero, List.set_cons_succ]
  refine take_at (i := 6) 16 (v := ?_) rfl rfl (by kernel_rfl) (by kernel_rfl) (by kernel_rfl) (fun _ _ _ h => h) (by rfl) ?_ hHeld ?_
  rotate_left
  · (intro w hSw; (try dsimp only at hSw); go_simp; try with_reducible rfl)
  simp only [Act.put, List.setIfInBounds_toArray, List.set_cons_zero, List.set_cons_succ]
  refine take_at (i := 7) 17 (v := ?_) rfl rfl (by kernel_rfl) (by kernel_rfl) (by kernel_rfl) (fun _ _ _ h => h) (by rfl) ?_ hHeld ?_
  rotate_left
  · (intro w hSw; (try dsimp only at hSw); go_simp; try with_reducible rfl)
  simp only [Act.put, List.setIfInBounds_toArray, List.set_cons_zero, List.set_cons_succ]
  refine take_at (i := 8) 18 (v := ?_) rfl rfl (by kernel_rfl) (by kernel_rfl) (by kernel_rfl) (fun _ _ _ h => h) (by rfl) ?_ hHeld ?_
  rotate_left
  · (intro w hSw; (try dsimp only at hSw); go_simp; try with_reducible rfl)
  simp only [Act.put, List.setIfInBounds_toArray, List.set_cons_zero, List.set_cons_succ]
  refine take_at (i := 9) 19 (v := ?_) rfl rfl (by kernel_rfl) (by kernel_rfl) (by kernel_rfl) (fun _ _ _ h => h) (by rfl) ?_ hHeld ?_
  rotate_left
  · (intro w hSw; (try dsimp only at hSw); go_simp; try with_reducible rfl)
  simp only [Act.put, List.setIfInBounds_toArray, List.set_cons_zero, List.set_cons_succ]
  refine wpAnyH_ready (rs := [10, 14]) (by kernel_rfl) (by simp) ?_
  refine AllReadyH.cons (o := _) rfl (fun K hK => ?_) ?_
  focus
    rw [if_pos (by rfl)]
    simp only [List.getElem_toArray, List.getElem_cons_zero, List.getElem_cons_succ]
    go_simp
    (go_at_call 57; first | (refine Calls.mono (remove_q (Wx.below HX.out HB1.out.drew) k s i _ hk hs (by omega) HI.out) ?_; rintro e w4 ⟨⟨t, rfl, ht⟩, V4, hx4, hst4⟩; have hA4 := (hst4.chg.block P (by show P < w2.heap.size; rw [HPS.out]; omega) (fun h9 => Nat.lt_irrefl _ (HP.out ▸ Wx.lt HX.out h9))).trans HA2.out; have hS4 := cell3 hA4; have HS4A : Hid (∀ o : Obj, (w4.alloc o).cell? ⟨P, 0, none⟩ = some (.int .i64 (k : Int)) ∧ (w4.alloc o).cell? ⟨P, 1, none⟩ = some (.int .i64 (s : Int)) ∧ (w4.alloc o).cell? ⟨P, 2, none⟩ = some (.int .i64 (i : Int))) := fun o => cell3 ((heap_alloc_old w4 o (Array.getElem?_eq_some_iff.1 hA4).1).trans hA4); have HA4 : Hid _ := hA4; have HX4 : Hid _ := hx4; have HS4 : Hid (Stp w w4 p m V V4) := (Stp.below HB1.out.drew p m V).trans hst4; have HT : Hid _ := ht; clear hA4 hx4 hst4 ht) | (refine Calls.mono (remove_q (Wx.below HX.out (al HB1.out (Obj.cells #[.int .i64 0, .int .u64 0, .int .u64 0] tTm)).drew) k s i _ hk hs (by omega) HI.out) ?_; rintro e w4 ⟨⟨t, rfl, ht⟩, V4, hx4, hst4⟩; have hA4 := (hst4.chg.block P (by show P < (w2.alloc _).heap.size; simp; rw [HPS.out]; omega) (fun h9 => Nat.lt_irrefl _ (HP.out ▸ Wx.lt HX.out h9))).trans ((heap_alloc_old w2 _ (by rw [HPS.out]; omega)).trans HA2.out); have hS4 := cell3 hA4; have HS4S : Hid (∀ a b c : Value, (((w4.setCell ⟨w2.heap.size, 0, none⟩ a).setCell ⟨w2.heap.size, 1, none⟩ b).setCell ⟨w2.heap.size, 2, none⟩ c).cell? ⟨P, 0, none⟩ = some (.int .i64 (k : Int)) ∧ (((w4.setCell ⟨w2.heap.size, 0, none⟩ a).setCell ⟨w2.heap.size, 1, none⟩ b).setCell ⟨w2.heap.size, 2, none⟩ c).cell? ⟨P, 1, none⟩ = some (.int .i64 (s : Int)) ∧ (((w4.setCell ⟨w2.heap.size, 0, none⟩ a).setCell ⟨w2.heap.size, 1, none⟩ b).setCell ⟨w2.heap.size, 2, none⟩ c).cell? ⟨P, 2, none⟩ = some (.int .i64 (i : Int))) := fun a b c => cell3 ((heap_setCell_other _ _ _ _ (Nat.ne_of_lt hPlt)).trans ((heap_setCell_other _ _ _ _ (Nat.ne_of_lt hPlt)).trans ((heap_setCell_other _ _ _ _ (Nat.ne_of_lt hPlt)).trans hA4))); have HA4 : Hid _ := hA4; have HX4 : Hid _ := hx4; have HS4 : Hid (Stp w w4 p m V V4) := (Stp.below (al HB1.out (Obj.cells #[.int .i64 0, .int .u64 0, .int .u64 0] tTm)).drew p m V).trans hst4; have hB4 : w4.heap[w2.heap.size]? = some (.cells #[.int .i64 0, .int .u64 0, .int .u64 0] tTm (0, 0)) := (hst4.chg.block w2.heap.size (by show w2.heap.size < (w2.alloc _).heap.size; simp) (fun h9 => by have h8 := Wx.lt HX.out h9; rw [HPS.out, HP.out] at h8; omega)).trans (HBN.out); obtain ⟨c0, c1, c2, f0, f1, f2⟩ : w4.cell? ⟨w2.heap.size, 0, none⟩ = some (.int .i64 0) ∧ w4.cell? ⟨w2.heap.size, 1, none⟩ = some (.int .u64 0) ∧ w4.cell? ⟨w2.heap.size, 2, none⟩ = some (.int .u64 0) ∧ w4.frozen? ⟨w2.heap.size, 0, none⟩ = false ∧ w4.frozen? ⟨w2.heap.size, 1, none⟩ = false ∧ w4.frozen? ⟨w2.heap.size, 2, none⟩ = false := ⟨by rw [cell_of_row _ _ _ _ _ _ hB4]; rfl, by rw [cell_of_row _ _ _ _ _ _ hB4]; rfl, by rw [cell_of_row _ _ _ _ _ _ hB4]; rfl, by simp [World.frozen?, hB4], by simp [World.frozen?, hB4], by simp [World.frozen?, hB4]⟩; have HB4 : Hid _ := hB4; have HN4 : Hid (¬ footW p m V4 w2.heap.size) := fun h9 => (hst4.new _ h9).elim (fun h8 => by have h7 := Wx.lt HX.out h8; rw [HPS.out, HP.out] at h7; omega) (fun h8 => Nat.not_succ_le_self w2.heap.size (by simpa using h8)); have HT : Hid _ := ht; clear hA4 hB4 hx4 hst4 ht))
    go_wp2_with fail
    refine hK.out _ _ (by first | exact hS2 | exact hS4 | exact HS2A.out _ | exact HS4A.out _ | exact HS4S.out _ _ _) ?_
    clear hK K
    intro hHeld2
    clear hHeld
    have hHeld := hHeld2
    clear hHeld2
    try simp only [Act.put, List.setIfInBounds_toArray, List.set_cons_zero, List.set_cons_succ]
    refine take_at (i := 11) 9 (v := ?_) rfl rfl (by kernel_rfl) (by kernel_rfl) (by kernel_rfl) (fun _ _ _ h => h) (by rfl) ?_ hHeld ?_
    rotate_left
    · (intro w hSw; (try dsimp only at hSw); go_simp; try with_reducible rfl)
    simp only [Act.put, List.setIfInBounds_toArray, List.set_cons_zero, List.set_cons_succ]
    refine take_at (i := 12) 21 (v := ?_) rfl rfl (by kernel_rfl) (by kernel_rfl) (by kernel_rfl) (fun _ _ _ h => h) (by rfl) ?_ hHeld ?_
    rotate_left
    · (intro w hSw; (try dsimp only at hSw); go_simp; try with_reducible rfl)
    simp only [Act.put, List.setIfInBounds_toArray, List.set_cons_zero, List.set_cons_succ]
    refine take_at (i := 13) 22 (v := ?_) rfl rfl (by kernel_rfl) (by kernel_rfl) (by kernel_rfl) (fun _ _ _ h => h) (by rfl) ?_ hHeld ?_
    rotate_left
    · (intro w hSw; (try dsimp only at hSw); go_simp; try with_reducible rfl)
    simp only [Act.put, List.setIfInBounds_toArray, List.set_cons_zero, List.set_cons_succ]
    refine run_at (i := 14) rfl (by kernel_rfl) (by rfl) (fun K hK => ?_)
    simp only [List.getElem_toArray, List.getElem_cons_zero, List.getElem_cons_succ]
    go_simp
    go_wp2_with fail
    refine hK.out _ _ (by first | exact hS2 | exact hS4 | exact HS2A.out _ | exact HS4A.out _ | exact HS4S.out _ _ _) ?_
    clear hK K
    intro hHeld2
    clear hHeld
    have hHeld := hHeld2
    clear hHeld2
    try simp only [Act.put, List.setIfInBounds_toArray, List.set_cons_zero, List.set_cons_succ]
    refine run_at (i := 15) rfl (by kernel_rfl) (by rfl) (fun K hK => ?_)
    simp only [List.getElem_toArray, List.getElem_cons_zero, List.getElem_cons_succ]
    go_simp
    go_wp2_with fail
    refine hK.out _ _ (by first | exact hS2 | exact hS4 | exact HS2A.out _ | exact HS4A.out _ | exact HS4S.out _ _ _) ?_
    clear hK K
    intro hHeld2
    clear hHeld
    have hHeld := hHeld2
    clear hHeld2
    try simp only [Act.put, List.setIfInBounds_toArray, List.set_cons_zero, List.set_cons_succ]
    refine take_at (i := 16) 5 (v := ?_) rfl rfl (by kernel_rfl) (by kernel_rfl) (by kernel_rfl) (fun _ _ _ h => h) (by rfl) ?_ hHeld ?_
    rotate_left
    · (intro w hSw; (try dsimp only at hSw); go_simp; try with_reducible rfl)
    simp only [Act.put, List.setIfInBounds_toArray, List.set_cons_zero, List.set_cons_succ]
    refine wpAnyH_done (by kernel_rfl) ?_ _
    refine NoPanic.normal ?_
  rotate_left 1
  refine AllReadyH.cons (o := _) rfl (fun K hK => ?_) AllReadyH.nil
  focus
    rw [if_pos (by rfl)]
    simp only [List.getElem_toArray, List.getElem_cons_zero, List.getElem_cons_succ]
    go_simp
    go_wp2_with fail
    refine hK.out _ _ (by first | exact hS2 | exact hS4 | exact HS2A.out _ | exact HS4A.out _ | exact HS4S.out _ _ _) ?_
    clear hK K
    intro hHeld2
    clear hHeld
    have hHeld := hHeld2
    clear hHeld2
    try simp only [Act.put, List.setIfInBounds_toArray, List.set_cons_zero, List.set_cons_succ]
    refine run_at (i := 10) rfl (by kernel_rfl) (by rfl) (fun K hK => ?_)
    simp only [List.getElem_toArray, List.getElem_cons_zero, List.getElem_cons_succ]
    go_simp
    (go_at_call 57; first | (refine Calls.mono (remove_q (Wx.below HX.out HB1.out.drew) k s i _ hk hs (by omega) HI.out) ?_; rintro e w4 ⟨⟨t, rfl, ht⟩, V4, hx4, hst4⟩; have hA4 := (hst4.chg.block P (by show P < w2.heap.size; rw [HPS.out]; omega) (fun h9 => Nat.lt_irrefl _ (HP.out ▸ Wx.lt HX.out h9))).trans HA2.out; have hS4 := cell3 hA4; have HS4A : Hid (∀ o : Obj, (w4.alloc o).cell? ⟨P, 0, none⟩ = some (.int .i64 (k : Int)) ∧ (w4.alloc o).cell? ⟨P, 1, none⟩ = some (.int .i64 (s : Int)) ∧ (w4.alloc o).cell? ⟨P, 2, none⟩ = some (.int .i64 (i : Int))) := fun o => cell3 ((heap_alloc_old w4 o (Array.getElem?_eq_some_iff.1 hA4).1).trans hA4); have HA4 : Hid _ := hA4; have HX4 : Hid _ := hx4; have HS4 : Hid (Stp w w4 p m V V4) := (Stp.below HB1.out.drew p m V).trans hst4; have HT : Hid _ := ht; clear hA4 hx4 hst4 ht) | (refine Calls.mono (remove_q (Wx.below HX.out (al HB1.out (Obj.cells #[.int .i64 0, .int .u64 0, .int .u64 0] tTm)).drew) k s i _ hk hs (by omega) HI.out) ?_; rintro e w4 ⟨⟨t, rfl, ht⟩, V4, hx4, hst4⟩; have hA4 := (hst4.chg.block P (by show P < (w2.alloc _).heap.size; simp; rw [HPS.out]; omega) (fun h9 => Nat.lt_irrefl _ (HP.out ▸ Wx.lt HX.out h9))).trans ((heap_alloc_old w2 _ (by rw [HPS.out]; omega)).trans HA2.out); have hS4 := cell3 hA4; have HS4S : Hid (∀ a b c : Value, (((w4.setCell ⟨w2.heap.size, 0, none⟩ a).setCell ⟨w2.heap.size, 1, none⟩ b).setCell ⟨w2.heap.size, 2, none⟩ c).cell? ⟨P, 0, none⟩ = some (.int .i64 (k : Int)) ∧ (((w4.setCell ⟨w2.heap.size, 0, none⟩ a).setCell ⟨w2.heap.size, 1, none⟩ b).setCell ⟨w2.heap.size, 2, none⟩ c).cell? ⟨P, 1, none⟩ = some (.int .i64 (s : Int)) ∧ (((w4.setCell ⟨w2.heap.size, 0, none⟩ a).setCell ⟨w2.heap.size, 1, none⟩ b).setCell ⟨w2.heap.size, 2, none⟩ c).cell? ⟨P, 2, none⟩ = some (.int .i64 (i : Int))) := fun a b c => cell3 ((heap_setCell_other _ _ _ _ (Nat.ne_of_lt hPlt)).trans ((heap_setCell_other _ _ _ _ (Nat.ne_of_lt hPlt)).trans ((heap_setCell_other _ _ _ _ (Nat.ne_of_lt hPlt)).trans hA4))); have HA4 : Hid _ := hA4; have HX4 : Hid _ := hx4; have HS4 : Hid (Stp w w4 p m V V4) := (Stp.below (al HB1.out (Obj.cells #[.int .i64 0, .int .u64 0, .int .u64 0] tTm)).drew p m V).trans hst4; have hB4 : w4.heap[w2.heap.size]? = some (.cells #[.int .i64 0, .int .u64 0, .int .u64 0] tTm (0, 0)) := (hst4.chg.block w2.heap.size (by show w2.heap.size < (w2.alloc _).heap.size; simp) (fun h9 => by have h8 := Wx.lt HX.out h9; rw [HPS.out, HP.out] at h8; omega)).trans (HBN.out); obtain ⟨c0, c1, c2, f0, f1, f2⟩ : w4.cell? ⟨w2.heap.size, 0, none⟩ = some (.int .i64 0) ∧ w4.cell? ⟨w2.heap.size, 1, none⟩ = some (.int .u64 0) ∧ w4.cell? ⟨w2.heap.size, 2, none⟩ = some (.int .u64 0) ∧ w4.frozen? ⟨w2.heap.size, 0, none⟩ = false ∧ w4.frozen? ⟨w2.heap.size, 1, none⟩ = false ∧ w4.frozen? ⟨w2.heap.size, 2, none⟩ = false := ⟨by rw [cell_of_row _ _ _ _ _ _ hB4]; rfl, by rw [cell_of_row _ _ _ _ _ _ hB4]; rfl, by rw [cell_of_row _ _ _ _ _ _ hB4]; rfl, by simp [World.frozen?, hB4], by simp [World.frozen?, hB4], by simp [World.frozen?, hB4]⟩; have HB4 : Hid _ := hB4; have HN4 : Hid (¬ footW p m V4 w2.heap.size) := fun h9 => (hst4.new _ h9).elim (fun h8 => by have h7 := Wx.lt HX.out h8; rw [HPS.out, HP.out] at h7; omega) (fun h8 => Nat.not_succ_le_self w2.heap.size (by simpa using h8)); have HT : Hid _ := ht; clear hA4 hB4 hx4 hst4 ht))
    go_wp2_with fail
    refine hK.out _ _ (by first | exact hS2 | exact hS4 | exact HS2A.out _ | exact HS4A.out _ | exact HS4S.out _ _ _) ?_
    clear hK K
    intro hHeld2
    clear hHeld
    have hHeld := hHeld2
    clear hHeld2
    try simp only [Act.put, List.setIfInBounds_toArray, List.set_cons_zero, List.set_cons_succ]
    refine take_at (i := 11) 9 (v := ?_) rfl rfl (by kernel_rfl) (by kernel_rfl) (by kernel_rfl) (fun _ _ _ h => h) (by rfl) ?_ hHeld ?_
    rotate_left
    · (intro w hSw; (try dsimp only at hSw); go_simp; try with_reducible rfl)
    simp only [Act.put, List.setIfInBounds_toArray, List.set_cons_zero, List.set_cons_succ]
    refine take_at (i := 12) 21 (v := ?_) rfl rfl (by kernel_rfl) (by kernel_rfl) (by kernel_rfl) (fun _ _ _ h => h) (by rfl) ?_ hHeld ?_
    rotate_left
    · (intro w hSw; (try dsimp only at hSw); go_simp; try with_reducible rfl)
    simp only [Act.put, List.setIfInBounds_toArray, List.set_cons_zero, List.set_cons_succ]
    refine take_at (i := 13) 22 (v := ?_) rfl rfl (by kernel_rfl) (by kernel_rfl) (by kernel_rfl) (fun _ _ _ h => h) (by rfl) ?_ hHeld ?_
    rotate_left
    · (intro w hSw; (try dsimp only at hSw); go_simp; try with_reducible rfl)
    simp only [Act.put, List.setIfInBounds_toArray, List.set_cons_zero, List.set_cons_succ]
    refine run_at (i := 15) rfl (by kernel_rfl) (by rfl) (fun K hK => ?_)
    simp only [List.getElem_toArray, List.getElem_cons_zero, List.getElem_cons_succ]
    go_simp
    go_wp2_with fail
    refine hK.out _ _ (by first | exact hS2 | exact hS4 | exact HS2A.out _ | exact HS4A.out _ | exact HS4S.out _ _ _) ?_
    clear hK K
    intro hHeld2
    clear hHeld
    have hHeld := hHeld2
    clear hHeld2
    try simp only [Act.put, List.setIfInBounds_toArray, List.set_cons_zero, List.set_cons_succ]
    refine take_at (i := 16) 5 (v := ?_) rfl rfl (by kernel_rfl) (by kernel_rfl) (by kernel_rfl) (fun _ _ _ h => h) (by rfl) ?_ hHeld ?_
    rotate_left
    · (intro w hSw; (try dsimp only at hSw); go_simp; try with_reducible rfl)
    simp only [Act.put, List.setIfInBounds_toArray, List.set_cons_zero, List.set_cons_succ]
    refine wpAnyH_done (by kernel_rfl) ?_ _
    refine NoPanic.normal ?_
  · obtain ⟨T, hT⟩ : ∃ T, T = w2.heap.size := ⟨_, rfl⟩
    obtain ⟨w5, hw5⟩ : ∃ w5, w5 = ((w4.setCell ⟨w2.heap.size, 0, none⟩ (.int .i64 t.id)).setCell ⟨w2.heap.size, 1, none⟩ (.int .u64 (t.at_ : Int))).setCell ⟨w2.heap.size, 2, none⟩ (.int .u64 (t.ord : Int)) := ⟨_, rfl⟩
    have hr5 : w5.cell? ⟨T, 0, none⟩ = some (.int .i64 t.id) := by
      rw [hw5, hT]
      exact (cell3 ((heap_setCell_same _ _ _ _ _ _ (heap_setCell_same _ _ _ _ _ _ (heap_setCell_same _ _ _ _ _ _ HB4.out))).trans rfl)).1
    obtain ⟨b0, b1, b2⟩ := HS4S.out (.int .i64 t.id) (.int .u64 (t.at_ : Int)) (.int .u64 (t.ord : Int))
    have hx5 : Wx w5.drew p m N S (upd2 F k s (remL (F k s) i)) KS X V4 := by
      obtain ⟨fl, h1, h2, hz⟩ := HX4.out
      refine ⟨fl, h1.kept (fun b hf => ?_), h2, hz⟩
      have hne : b ≠ w2.heap.size := fun e => HN4.out (e ▸ hf)
      rw [hw5]
      exact (heap_setCell_other _ _ _ _ hne).trans ((heap_setCell_other _ _ _ _ hne).trans (heap_setCell_other _ _ _ _ hne))
    have hst5 : Stp w w5.drew p m V V4 := by
      refine HS4.out.belowEnd (B := w2.heap.size) ?_ HB1.out.size
      rw [hw5]
      exact ((((Below.refl w2.heap.size w4).setCell (p := ⟨w2.heap.size, 0, none⟩) (Nat.le_refl w2.heap.size) _).setCell (p := ⟨w2.heap.size, 1, none⟩) (Nat.le_refl w2.heap.size) _).setCell (p := ⟨w2.heap.size, 2, none⟩) (Nat.le_refl w2.heap.size) _).drew
    rw [← hw5] at b0 b1 b2
    rw [← hw5]
    rw [← hT]
    have hr5e := hw5
    clear hw5 hT r0 r1 r2 c0 c1 c2 f0 f1 f2
    clear hr5e
    have hL : Hid (leaveX F X k s i = if i < (F k s).length - 1 then updI X ((F k s).getD ((F k s).length - 1) ⟨0, 0, 0⟩).id ⟨k, s, i⟩ else X) := rfl
    by_cases hlt : i < (F k s).length - 1
    · have htK : t.id ∈ KS := by rw [HT.out hlt]; exact HM.out hlt
      have hL2 : leaveX F X k s i = updI X t.id ⟨k, s, i⟩ := by rw [hL.out, if_pos hlt, HT.out hlt]
      obtain ⟨fl, h1, h2, hz⟩ := hx5
      have hid : inI t.id := h1.map.rg _ htK
      obtain ⟨w9, hr9, hm9, hg9⟩ := h1.map.put hid ⟨k, s, i⟩ HKL.out
      have hcM : w5.cell? ⟨p, 522, none⟩ = some (.map (some m)) := h1.cM
      have e9 : insK KS t.id = KS := by unfold insK; rw [if_pos htK]
      rw [e9] at hm9
      have H1 : Hid _ := h1
      have H2 : Hid _ := And.intro h2 hz
      have HM9 : Hid _ := hm9
      have HG9 : Hid _ := hg9
      have HL2 : Hid _ := hL2
      have HS5 : Hid _ := hst5
      clear h1 h2 hz hm9 hg9 hL2 hst5 htK e9 hL
      go_wp2
      go_region
      go_end0
      rw [HL2.out]
      exact ⟨rfl, V4, ⟨fl, H1.out.mapped HG9.out HM9.out, H2.out.1, H2.out.2⟩, HS5.out.trans (Stp.mapped HG9.out)⟩
    · have hL2 : leaveX F X k s i = X := by rw [hL.out, if_neg hlt]
      have HL2 : Hid _ := hL2
      have HX5 : Hid _ := hx5
      have HS5 : Hid _ := hst5
      clear hL2 hx5 hst5 hL
      go_wp2
      go_end0
      rw [HL2.out]
      refine ⟨rfl, V4, ?_, ?_⟩
      · obtain ⟨fl, h1, h2⟩ := HX5.out
        exact ⟨fl, h1.kept (fun b _ => rfl), h2⟩
      · exact ⟨⟨HS5.out.chg.os, HS5.out.chg.tape, HS5.out.chg.output, HS5.out.chg.size, HS5.out.chg.block⟩, HS5.out.new⟩
  · obtain ⟨T, hT⟩ : ∃ T, T = w4.heap.size := ⟨_, rfl⟩
    obtain ⟨w5, hw5⟩ : ∃ w5, w5 = w4.alloc (Obj.cells #[.int .i64 t.id, .int .u64 (t.at_ : Int), .int .u64 (t.ord : Int)] tTm) := ⟨_, rfl⟩
    have hr5 : w5.cell? ⟨T, 0, none⟩ = some (.int .i64 t.id) := by rw [hw5, hT]; exact (cell3 (heap_alloc_new w4 _)).1
    obtain ⟨b0, b1, b2⟩ := HS4A.out (Obj.cells #[.int .i64 t.id, .int .u64 (t.at_ : Int), .int .u64 (t.ord : Int)] tTm)
    have hx5 : Wx w5.drew p m N S (upd2 F k s (remL (F k s) i)) KS X V4 := by rw [hw5]; exact Wx.below HX4.out (al (Below.refl _ _) _).drew
    have hst5 : Stp w w5.drew p m V V4 := by rw [hw5]; exact HS4.out.trans (Stp.below (al (Below.refl _ _) _).drew _ _ _)
    rw [← hw5] at b0 b1 b2
    rw [← hw5]
    rw [← hT]
    have hr5e := hw5
    clear hw5 hT r0 r1 r2
    clear hr5e
    have hL : Hid (leaveX F X k s i = if i < (F k s).length - 1 then updI X ((F k s).getD ((F k s).length - 1) ⟨0, 0, 0⟩).id ⟨k, s, i⟩ else X) := rfl
    by_cases hlt : i < (F k s).length - 1
    · have htK : t.id ∈ KS := by rw [HT.out hlt]; exact HM.out hlt
      have hL2 : leaveX F X k s i = updI X t.id ⟨k, s, i⟩ := by rw [hL.out, if_pos hlt, HT.out hlt]
      obtain ⟨fl, h1, h2, hz⟩ := hx5
      have hid : inI t.id := h1.map.rg _ htK
      obtain ⟨w9, hr9, hm9, hg9⟩ := h1.map.put hid ⟨k, s, i⟩ HKL.out
      have hcM : w5.cell? ⟨p, 522, none⟩ = some (.map (some m)) := h1.cM
      have e9 : insK KS t.id = KS := by unfold insK; rw [if_pos htK]
      rw [e9] at hm9
      have H1 : Hid _ := h1
      have H2 : Hid _ := And.intro h2 hz
      have HM9 : Hid _ := hm9
      have HG9 : Hid _ := hg9
      have HL2 : Hid _ := hL2
      have HS5 : Hid _ := hst5
      clear h1 h2 hz hm9 hg9 hL2 hst5 htK e9 hL
      go_wp2
      go_region
      go_end0
      rw [HL2.out]
      exact ⟨rfl, V4, ⟨fl, H1.out.mapped HG9.out HM9.out, H2.out.1, H2.out.2⟩, HS5.out.trans (Stp.mapped HG9.out)⟩
    · have hL2 : leaveX F X k s i = X := by rw [hL.out, if_neg hlt]
      have HL2 : Hid _ := hL2
      have HX5 : Hid _ := hx5
      have HS5 : Hid _ := hst5
      clear hL2 hx5 hst5 hL
      go_wp2
      go_end0
      rw [HL2.out]
      refine ⟨rfl, V4, ?_, ?_⟩
      · obtain ⟨fl, h1, h2⟩ := HX5.out
        exact ⟨fl, h1.kept (fun b _ => rfl), h2⟩
      · exact ⟨⟨HS5.out.chg.os, HS5.out.chg.tape, HS5.out.chg.output, HS5.out.chg.size, HS5.out.chg.block⟩, HS5.out.new⟩
end
end Go.Proofs.YtnfikcegmicooabDoor
