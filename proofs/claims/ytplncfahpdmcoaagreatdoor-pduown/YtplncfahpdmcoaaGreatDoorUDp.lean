import Derived.Test.YtplncfahpdmcoaaGreatDoorUDr
namespace Go.Proofs.YtplncfahpdmcoaaGreatDoor
set_option linter.unusedVariables false
set_option linter.unusedSimpArgs false
open Go.RowKit
/-- a unit's box -/
abbrev UBx (w : World) (g : Nat) (U : Array Value) : Prop := w.heap[g]? = some (.cells U 26 (0, 0))
theorem own_lo {w w' : World} {B r : Nat} {v : Value} {xs : List UInt8} (h : Own w B v xs) (hg : w.grownBy w' (some r)) (hr : r < B) : Own w' B v xs := by
  refine h.grown hg ?_
  cases hb : v.ownBlock with
  | none => exact .inl rfl
  | some b =>
    right
    have := (World.ownsRow.lt h b hb).1
    intro h9
    have := Option.some.inj h9
    omega
section
set_option maxRecDepth 20000
set_option maxHeartbeats 3200000
theorem readData_t {p B n1 n2 n3 : Nat} {ys y1 y2 y3 y4 d : List UInt8} {f f1 f2 f3 f4 : Int} (b1 b2 b3 b4 : Bool) (g : Nat) (k e s : Int) (p0 i0 c0 d0 cd g0 : Value) (W w : World) (h : RS w p B ys f) (hW : Below W.heap.size W w) (hpW : W.heap.size ≤ p) (hpg : p < g) (hu : UBx w g #[.int .i64 k, .int .u64 e, .int .u64 s, p0, i0, c0, d0, cd, g0])
    (e1 : nmS mxU (ys, f) = (n1, y1, f1)) (hb1 : b1 = true ↔ ((n1 : Int) = 1 ∨ (n1 : Int) = 2)) (e2 : nmS mxU (y1, mustF b1 f1) = (n2, y2, f2)) (hb2 : b2 = true ↔ (0 ≤ (n2 : Int) ∧ (n2 : Int) < 64)) (e3 : nmS mxU (y2, mustF b2 f2) = (n3, y3, f3)) (hb3 : b3 = true ↔ ((n2 : Int) < (n3 : Int) ∧ (n3 : Int) ≤ 64)) (e4 : byS 1024 (y3, mustF b3 f3) = (d, y4, f4)) (hb4 : b4 = true ↔ (1 ≤ d.length ∧ d.length ≤ 1024)) :
    Calls Tryz.prog 66 #[.pointer (some ⟨p, 0, none⟩), .pointer (some ⟨g, 0, none⟩)] w fun er w' => ∃ a c, er = .returned (.tuple #[]) ∧ RS w' p B y4 (mustF b4 f4) ∧ UBx w' g #[.int .i64 k, .int .u64 e, .int .u64 s, .int .i64 (n1 : Nat), .int .i64 (n2 : Nat), .int .i64 (n3 : Nat), .slice a d.length c, cd, g0] ∧ Own w' (g + 1) (.slice a d.length c) d ∧ Below W.heap.size W w' := by
  have HP : Hid (W.heap.size ≤ p ∧ p < g) := ⟨hpW, hpg⟩
  have HE1 : Hid _ := e1
  have HE2 : Hid _ := e2
  have HE3 : Hid _ := e3
  have HE4 : Hid _ := e4
  have HQ1 : Hid _ := hb1
  have HQ2 : Hid _ := hb2
  have HQ3 : Hid _ := hb3
  have HQ4 : Hid _ := hb4
  have HR0 : Hid (RS w p B ys f) := h
  have HW0 : Hid (Below W.heap.size W w) := hW
  have HU0 : Hid (UBx w g #[.int .i64 k, .int .u64 e, .int .u64 s, p0, i0, c0, d0, cd, g0]) := hu
  obtain ⟨D, hD⟩ : ∃ D : Nat, D = d.length := ⟨_, rfl⟩
  have HD : Hid (D = d.length) := hD
  have hnn : (some ⟨g, 0, none⟩ : Option Addr) ≠ none := by simp
  clear h hW hpW hpg hu e1 e2 e3 e4 hb1 hb2 hb3 hb4 hD hnn
  go_enter Tryz.func66, Tryz.ntmps66
  go_wp2_with fail
  refine Calls.mono (small_t _ HR0.out HE1.out) ?_
  rintro er1 w1 ⟨rfl, hr, hg⟩
  have HU1 : Hid (UBx w1 g #[.int .i64 k, .int .u64 e, .int .u64 s, p0, i0, c0, d0, cd, g0]) := gr_box hg (by have := HP.out; omega) HU0.out
  have HR1 : Hid (RS w1 p B y1 f1) := hr
  have HW1 : Hid (Below W.heap.size W w1) := HW0.out.grown hg HW0.out.size (fun j hj => by cases hj; exact HP.out.1)
  have hc1 : w1.cell? ⟨g, 3, none⟩ = some (p0) := by rw [cell_of_row _ _ _ _ _ _ HU1.out]; rfl
  have hf1 : w1.frozen? ⟨g, 3, none⟩ = false := by simp [World.frozen?, HU1.out]
  clear hr hg
  obtain ⟨x1, hx1⟩ : ∃ x : World, x = w1.setCell ⟨g, 3, none⟩ (.int .i64 (n1 : Nat)) := ⟨_, rfl⟩
  have HG1x : Hid (w1.grownBy x1 (some g)) := by unfold Hid; rw [hx1]; exact gset1 _ _ _ _
  have HU1x : Hid (UBx x1 g #[.int .i64 k, .int .u64 e, .int .u64 s, .int .i64 (n1 : Nat), i0, c0, d0, cd, g0]) := by unfold Hid UBx; rw [hx1, heap_setCell_same w1 g 3 _ _ _ HU1.out]; rfl
  have HR1x : Hid (RS x1 p B y1 f1) := RS.grown HR1.out HG1x.out (.inr HP.out.2)
  have HW1x : Hid (Below W.heap.size W x1) := HW1.out.grown HG1x.out HW1.out.size (fun j hj => by cases hj; have := HP.out; omega)
  go_wp2_with (go_at_call 88; refine Calls.mono (goodPath_b _ b1 HQ1.out _) ?_; rintro er1 wq ⟨rfl, hq⟩; have hq := hq.symm; subst hq)
  rw [← hx1]
  clear hx1 hc1 hf1
  refine Calls.mono (must_t b1 _ HR1x.out) ?_
  rintro er1 w1m ⟨rfl, hr, hg⟩
  have HU1m : Hid (UBx w1m g #[.int .i64 k, .int .u64 e, .int .u64 s, .int .i64 (n1 : Nat), i0, c0, d0, cd, g0]) := gr_box hg (by have := HP.out; omega) HU1x.out
  have HR1m : Hid (RS w1m p B y1 (mustF b1 f1)) := hr
  have HW1m : Hid (Below W.heap.size W w1m) := HW1x.out.grown hg HW1x.out.size (fun j hj => by cases hj; exact HP.out.1)
  clear hr hg
  go_wp2_with fail
  refine Calls.mono (small_t _ HR1m.out HE2.out) ?_
  rintro er1 w2 ⟨rfl, hr, hg⟩
  have HU2 : Hid (UBx w2 g #[.int .i64 k, .int .u64 e, .int .u64 s, .int .i64 (n1 : Nat), i0, c0, d0, cd, g0]) := gr_box hg (by have := HP.out; omega) HU1m.out
  have HR2 : Hid (RS w2 p B y2 f2) := hr
  have HW2 : Hid (Below W.heap.size W w2) := HW1m.out.grown hg HW1m.out.size (fun j hj => by cases hj; exact HP.out.1)
  have hc2 : w2.cell? ⟨g, 4, none⟩ = some (i0) := by rw [cell_of_row _ _ _ _ _ _ HU2.out]; rfl
  have hf2 : w2.frozen? ⟨g, 4, none⟩ = false := by simp [World.frozen?, HU2.out]
  clear hr hg
  obtain ⟨x2, hx2⟩ : ∃ x : World, x = w2.setCell ⟨g, 4, none⟩ (.int .i64 (n2 : Nat)) := ⟨_, rfl⟩
  have HG2x : Hid (w2.grownBy x2 (some g)) := by unfold Hid; rw [hx2]; exact gset1 _ _ _ _
  have HU2x : Hid (UBx x2 g #[.int .i64 k, .int .u64 e, .int .u64 s, .int .i64 (n1 : Nat), .int .i64 (n2 : Nat), c0, d0, cd, g0]) := by unfold Hid UBx; rw [hx2, heap_setCell_same w2 g 4 _ _ _ HU2.out]; rfl
  have HR2x : Hid (RS x2 p B y2 f2) := RS.grown HR2.out HG2x.out (.inr HP.out.2)
  have HW2x : Hid (Below W.heap.size W x2) := HW2.out.grown HG2x.out HW2.out.size (fun j hj => by cases hj; have := HP.out; omega)
  go_wp2_with (go_at_call 89; refine Calls.mono (goodIndex_b _ b2 HQ2.out _) ?_; rintro er1 wq ⟨rfl, hq⟩; have hq := hq.symm; subst hq)
  rw [← hx2]
  clear hx2 hc2 hf2
  refine Calls.mono (must_t b2 _ HR2x.out) ?_
  rintro er1 w2m ⟨rfl, hr, hg⟩
  have HU2m : Hid (UBx w2m g #[.int .i64 k, .int .u64 e, .int .u64 s, .int .i64 (n1 : Nat), .int .i64 (n2 : Nat), c0, d0, cd, g0]) := gr_box hg (by have := HP.out; omega) HU2x.out
  have HR2m : Hid (RS w2m p B y2 (mustF b2 f2)) := hr
  have HW2m : Hid (Below W.heap.size W w2m) := HW2x.out.grown hg HW2x.out.size (fun j hj => by cases hj; exact HP.out.1)
  clear hr hg
  go_wp2_with fail
  refine Calls.mono (small_t _ HR2m.out HE3.out) ?_
  rintro er1 w3 ⟨rfl, hr, hg⟩
  have HU3 : Hid (UBx w3 g #[.int .i64 k, .int .u64 e, .int .u64 s, .int .i64 (n1 : Nat), .int .i64 (n2 : Nat), c0, d0, cd, g0]) := gr_box hg (by have := HP.out; omega) HU2m.out
  have HR3 : Hid (RS w3 p B y3 f3) := hr
  have HW3 : Hid (Below W.heap.size W w3) := HW2m.out.grown hg HW2m.out.size (fun j hj => by cases hj; exact HP.out.1)
  have hc3 : w3.cell? ⟨g, 5, none⟩ = some (c0) := by rw [cell_of_row _ _ _ _ _ _ HU3.out]; rfl
  have hf3 : w3.frozen? ⟨g, 5, none⟩ = false := by simp [World.frozen?, HU3.out]
  clear hr hg
  obtain ⟨x3, hx3⟩ : ∃ x : World, x = w3.setCell ⟨g, 5, none⟩ (.int .i64 (n3 : Nat)) := ⟨_, rfl⟩
  have HG3x : Hid (w3.grownBy x3 (some g)) := by unfold Hid; rw [hx3]; exact gset1 _ _ _ _
  have HU3x : Hid (UBx x3 g #[.int .i64 k, .int .u64 e, .int .u64 s, .int .i64 (n1 : Nat), .int .i64 (n2 : Nat), .int .i64 (n3 : Nat), d0, cd, g0]) := by unfold Hid UBx; rw [hx3, heap_setCell_same w3 g 5 _ _ _ HU3.out]; rfl
  have HR3x : Hid (RS x3 p B y3 f3) := RS.grown HR3.out HG3x.out (.inr HP.out.2)
  have HW3x : Hid (Below W.heap.size W x3) := HW3.out.grown HG3x.out HW3.out.size (fun j hj => by cases hj; have := HP.out; omega)
  go_wp2_with fail
  rw [← hx3]
  clear hx3 hc3 hf3
  have hS0 : x3.cell? ⟨g, 4, none⟩ = some (.int .i64 (n2 : Nat)) ∧ x3.cell? ⟨g, 5, none⟩ = some (.int .i64 (n3 : Nat)) := by rw [cell_of_row _ _ _ _ _ _ HU3x.out, cell_of_row _ _ _ _ _ _ HU3x.out]; exact ⟨rfl, rfl⟩
  have hSd : x3.drew.cell? ⟨g, 4, none⟩ = some (.int .i64 (n2 : Nat)) ∧ x3.drew.cell? ⟨g, 5, none⟩ = some (.int .i64 (n3 : Nat)) := hS0
  refine wp_region_noPanic ?_
  refine wp_region_held_drew (S := (fun u => u.cell? ⟨g, 4, none⟩ = some (.int .i64 (n2 : Nat)) ∧ u.cell? ⟨g, 5, none⟩ = some (.int .i64 (n3 : Nat)))) (by kernel_rfl) (by first | exact hSd | exact hSm | assumption) (fun hHeld => ?_)
  refine take_at (i := 0) 33 (v := ?_) rfl rfl (by kernel_rfl) (by kernel_rfl) (by kernel_rfl) (fun _ _ _ h => h) (by rfl) ?_ hHeld ?_
  rotate_left
  · (intro w hSw; (try dsimp only at hSw); go_simp; try with_reducible rfl)
  simp only [Act.put, List.setIfInBounds_toArray, List.set_cons_zero, List.set_cons_succ]
  refine take_at (i := 1) 34 (v := ?_) rfl rfl (by kernel_rfl) (by kernel_rfl) (by kernel_rfl) (fun _ _ _ h => h) (by rfl) ?_ hHeld ?_
  rotate_left
  · (intro w hSw; (try dsimp only at hSw); go_simp; try with_reducible rfl)
  simp only [Act.put, List.setIfInBounds_toArray, List.set_cons_zero, List.set_cons_succ]
  refine take_at (i := 2) 35 (v := ?_) rfl rfl (by kernel_rfl) (by kernel_rfl) (by kernel_rfl) (fun _ _ _ h => h) (by rfl) ?_ hHeld ?_
  rotate_left
  · (intro w hSw; (try dsimp only at hSw); go_simp; try with_reducible rfl)
  simp only [Act.put, List.setIfInBounds_toArray, List.set_cons_zero, List.set_cons_succ]
  refine take_at (i := 3) 36 (v := ?_) rfl rfl (by kernel_rfl) (by kernel_rfl) (by kernel_rfl) (fun _ _ _ h => h) (by rfl) ?_ hHeld ?_
  rotate_left
  · (intro w hSw; (try dsimp only at hSw); go_simp; try with_reducible rfl)
  simp only [Act.put, List.setIfInBounds_toArray, List.set_cons_zero, List.set_cons_succ]
  refine take_at (i := 4) 37 (v := ?_) rfl rfl (by kernel_rfl) (by kernel_rfl) (by kernel_rfl) (fun _ _ _ h => h) (by rfl) ?_ hHeld ?_
  rotate_left
  · (intro w hSw; (try dsimp only at hSw); go_simp; try with_reducible rfl)
  simp only [Act.put, List.setIfInBounds_toArray, List.set_cons_zero, List.set_cons_succ]
  refine take_at (i := 5) 38 (v := ?_) rfl rfl (by kernel_rfl) (by kernel_rfl) (by kernel_rfl) (fun _ _ _ h => h) (by rfl) ?_ hHeld ?_
  rotate_left
  · (intro w hSw; (try dsimp only at hSw); go_simp; try with_reducible rfl)
  simp only [Act.put, List.setIfInBounds_toArray, List.set_cons_zero, List.set_cons_succ]
  refine take_at (i := 6) 39 (v := ?_) rfl rfl (by kernel_rfl) (by kernel_rfl) (by kernel_rfl) (fun _ _ _ h => h) (by rfl) ?_ hHeld ?_
  rotate_left
  · (intro w hSw; (try dsimp only at hSw); go_simp; try with_reducible rfl)
  simp only [Act.put, List.setIfInBounds_toArray, List.set_cons_zero, List.set_cons_succ]
  refine take_at (i := 7) 40 (v := ?_) rfl rfl (by kernel_rfl) (by kernel_rfl) (by kernel_rfl) (fun _ _ _ h => h) (by rfl) ?_ hHeld ?_
  rotate_left
  · (intro w hSw; (try dsimp only at hSw); go_simp; try with_reducible rfl)
  simp only [Act.put, List.setIfInBounds_toArray, List.set_cons_zero, List.set_cons_succ]
  refine take_at (i := 8) 41 (v := ?_) rfl rfl (by kernel_rfl) (by kernel_rfl) (by kernel_rfl) (fun _ _ _ h => h) (by rfl) ?_ hHeld ?_
  rotate_left
  · (intro w hSw; (try dsimp only at hSw); go_simp; try with_reducible rfl)
  simp only [Act.put, List.setIfInBounds_toArray, List.set_cons_zero, List.set_cons_succ]
  refine run_at (i := 9) rfl (by kernel_rfl) (by rfl) (fun K hK => ?_)
  simp only [List.getElem_toArray, List.getElem_cons_zero, List.getElem_cons_succ]
  go_simp
  first | (go_at_call 90; refine Calls.mono (goodCount_b _ _ b3 HQ3.out _) ?_; rintro er1 wq ⟨rfl, hq⟩; have hq := hq.symm; subst hq) | (go_at_call 53; refine Calls.mono (must_t b3 _ (RS.below HR3x.out (Below.refl _ _).drew)) ?_; rintro er1 w3m ⟨rfl, hr, hg⟩; have hg' : x3.grownBy w3m (some p) := grown_step (gr_below (World.grownBy.refl _ _) (Below.refl _ _).drew) hg (.inl rfl); have HU3m : Hid (UBx w3m g #[.int .i64 k, .int .u64 e, .int .u64 s, .int .i64 (n1 : Nat), .int .i64 (n2 : Nat), .int .i64 (n3 : Nat), d0, cd, g0]) := gr_box hg' (by have := HP.out; omega) HU3x.out; have HR3m : Hid (RS w3m p B y3 (mustF b3 f3)) := hr; have HW3m : Hid (Below W.heap.size W w3m) := HW3x.out.grown hg' HW3x.out.size (fun j hj => by cases hj; exact HP.out.1); have hSm : w3m.cell? ⟨g, 4, none⟩ = some (.int .i64 (n2 : Nat)) ∧ w3m.cell? ⟨g, 5, none⟩ = some (.int .i64 (n3 : Nat)) := (by rw [cell_of_row _ _ _ _ _ _ HU3m.out, cell_of_row _ _ _ _ _ _ HU3m.out]; exact ⟨rfl, rfl⟩); clear hr hg hg')
  go_wp2_with fail
  refine hK.out _ _ (by first | exact hSd | exact hSm | assumption) ?_
  clear hK K
  intro hHeld2
  clear hHeld
  have hHeld := hHeld2
  clear hHeld2
  try simp only [Act.put, List.setIfInBounds_toArray, List.set_cons_zero, List.set_cons_succ]
  refine run_at (i := 10) rfl (by kernel_rfl) (by rfl) (fun K hK => ?_)
  simp only [List.getElem_toArray, List.getElem_cons_zero, List.getElem_cons_succ]
  go_simp
  first | (go_at_call 90; refine Calls.mono (goodCount_b _ _ b3 HQ3.out _) ?_; rintro er1 wq ⟨rfl, hq⟩; have hq := hq.symm; subst hq) | (go_at_call 53; refine Calls.mono (must_t b3 _ (RS.below HR3x.out (Below.refl _ _).drew)) ?_; rintro er1 w3m ⟨rfl, hr, hg⟩; have hg' : x3.grownBy w3m (some p) := grown_step (gr_below (World.grownBy.refl _ _) (Below.refl _ _).drew) hg (.inl rfl); have HU3m : Hid (UBx w3m g #[.int .i64 k, .int .u64 e, .int .u64 s, .int .i64 (n1 : Nat), .int .i64 (n2 : Nat), .int .i64 (n3 : Nat), d0, cd, g0]) := gr_box hg' (by have := HP.out; omega) HU3x.out; have HR3m : Hid (RS w3m p B y3 (mustF b3 f3)) := hr; have HW3m : Hid (Below W.heap.size W w3m) := HW3x.out.grown hg' HW3x.out.size (fun j hj => by cases hj; exact HP.out.1); have hSm : w3m.cell? ⟨g, 4, none⟩ = some (.int .i64 (n2 : Nat)) ∧ w3m.cell? ⟨g, 5, none⟩ = some (.int .i64 (n3 : Nat)) := (by rw [cell_of_row _ _ _ _ _ _ HU3m.out, cell_of_row _ _ _ _ _ _ HU3m.out]; exact ⟨rfl, rfl⟩); clear hr hg hg')
  go_wp2_with fail
  refine hK.out _ _ (by first | exact hSd | exact hSm | assumption) ?_
  clear hK K
  intro hHeld2
  clear hHeld
  have hHeld := hHeld2
  clear hHeld2
  try simp only [Act.put, List.setIfInBounds_toArray, List.set_cons_zero, List.set_cons_succ]
  refine wpAnyH_done (by kernel_rfl) ?_ _
  refine NoPanic.normal ?_
  clear hS0 hSd
  go_wp2_with fail
  refine Calls.mono (bytes_t 1024 (by decide) _ HR3m.out HE4.out) ?_
  rintro er1 w4 ⟨a4, c4, rfl, hown, hr, hg⟩
  rw [← HD.out]
  have HU4 : Hid (UBx w4 g #[.int .i64 k, .int .u64 e, .int .u64 s, .int .i64 (n1 : Nat), .int .i64 (n2 : Nat), .int .i64 (n3 : Nat), d0, cd, g0]) := gr_box hg (by have := HP.out; omega) HU3m.out
  have HR4 : Hid (RS w4 p B y4 f4) := hr
  have HW4 : Hid (Below W.heap.size W w4) := HW3m.out.grown hg HW3m.out.size (fun j hj => by cases hj; exact HP.out.1)
  have HG4 : Hid (g < w3m.heap.size) := (Array.getElem?_eq_some_iff.1 HU3m.out).1
  obtain ⟨a9, c9, hv9, -, -, hn9, hrd9, hq9⟩ := hown.val
  simp only [Value.slice.injEq] at hv9
  obtain ⟨rfl, -, rfl⟩ := hv9
  have HOW4 : Hid (Own w4 (g + 1) (.slice a4 D c4) d) := Own.base (by rw [HD.out]; exact hown) HG4.out
  have HFA : Hid (∀ q, a4 = some q → g < q.block) := fun q hq => by have := (World.ownsRow.lt hown q.block (by rw [hq]; rfl)).1; have := HG4.out; omega
  have hc4 : w4.cell? ⟨g, 6, none⟩ = some (d0) := by rw [cell_of_row _ _ _ _ _ _ HU4.out]; rfl
  have hf4 : w4.frozen? ⟨g, 6, none⟩ = false := by simp [World.frozen?, HU4.out]
  clear hown hr hg hn9 hrd9 hq9
  obtain ⟨x4, hx4⟩ : ∃ x : World, x = w4.setCell ⟨g, 6, none⟩ (.slice a4 D c4) := ⟨_, rfl⟩
  have HG4x : Hid (w4.grownBy x4 (some g)) := by unfold Hid; rw [hx4]; exact gset1 _ _ _ _
  have HU4x : Hid (UBx x4 g #[.int .i64 k, .int .u64 e, .int .u64 s, .int .i64 (n1 : Nat), .int .i64 (n2 : Nat), .int .i64 (n3 : Nat), .slice a4 D c4, cd, g0]) := by unfold Hid UBx; rw [hx4, heap_setCell_same w4 g 6 _ _ _ HU4.out]; rfl
  have HR4x : Hid (RS x4 p B y4 f4) := RS.grown HR4.out HG4x.out (.inr HP.out.2)
  have HW4x : Hid (Below W.heap.size W x4) := HW4.out.grown HG4x.out HW4.out.size (fun j hj => by cases hj; have := HP.out; omega)
  have HD4x : Hid (Own x4 (g + 1) (.slice a4 D c4) d) := own_lo HOW4.out HG4x.out (Nat.lt_succ_self _)
  have HQD : Hid (b4 = true ↔ (1 ≤ D ∧ D ≤ 1024)) := by unfold Hid; rw [HD.out]; exact HQ4.out
  go_wp2_with (go_at_call 91; refine Calls.mono (goodBytes_b _ _ _ b4 HQD.out _) ?_; rintro er1 wq ⟨rfl, hq⟩; have hq := hq.symm; subst hq)
  rw [← hx4]
  clear hx4 hc4 hf4
  refine Calls.mono (must_t b4 _ HR4x.out) ?_
  rintro er1 w5 ⟨rfl, hr, hg⟩
  have HU5 : Hid (UBx w5 g #[.int .i64 k, .int .u64 e, .int .u64 s, .int .i64 (n1 : Nat), .int .i64 (n2 : Nat), .int .i64 (n3 : Nat), .slice a4 D c4, cd, g0]) := gr_box hg (by have := HP.out; omega) HU4x.out
  have HR5 : Hid (RS w5 p B y4 (mustF b4 f4)) := hr
  have HW5 : Hid (Below W.heap.size W w5) := HW4x.out.grown hg HW4x.out.size (fun j hj => by cases hj; exact HP.out.1)
  have HD5 : Hid (Own w5 (g + 1) (.slice a4 D c4) d) := own_lo HD4x.out hg (by have := HP.out; omega)
  clear hr hg
  go_wp2
  go_end0
  exact ⟨a4, c4, rfl, HR5.out, by rw [← HD.out]; exact HU5.out, by rw [← HD.out]; exact HD5.out, HW5.out⟩
end
end Go.Proofs.YtplncfahpdmcoaaGreatDoor
namespace Go.Proofs.YtplncfahpdmcoaaGreatDoor
set_option linter.unusedVariables false
set_option linter.unusedSimpArgs false
open Go.RowKit
/-- append of one range that has just been laid, within a region -/
theorem wpo_appR1 {w : World} {o : Oper} {a : Act} {K : Act → World → Prop} {Q : Exit → Act → World → Prop} (s x : Operand)
    (ho : o.op = .call { callee := .builtin .append, args := #[s, x], argTypes := #[24, 24] }) (B : Nat) (v : Value) (xs : List Rg) (n : Nat) (hn : n = xs.length) (y : Rg) (g : Nat)
    (hs : a.eval s = v) (hown : OwnR w B v xs) (hx : a.eval x = .slice (some ⟨g, 0, none⟩) 1 1) (hg : w.heap[g]? = some (.cells #[.int .i64 y.1, .int .i64 y.2] 43 (0, 0))) (hb : n ≤ 1099511627776) (hbase : B ≤ w.heap.size)
    (h : ∀ g' cap w', OwnR w' B (.slice (some ⟨g', 0, none⟩) (n + 1) cap) (xs ++ [y]) → w.grownBy w' v.ownBlock → (v.ownBlock = some g' ∨ g' = w.heap.size) → K (a.put o.dst (.slice (some ⟨g', 0, none⟩) (n + 1) cap)) w') : Oper.wp Tryz.prog o a w K Q := by
  subst hn
  obtain ⟨i0, hi, hz0, hz1, hz2⟩ := info_parts infoR
  refine wp_append_lies w s x 24 ho B 43 i0 _ 2 16 Tryz.underlying24 hi hz0 hz1 hz2 rfl (by decide) v xs.length (flatR xs) hs hown ⟨g, 0, none⟩ 1 1 (rv y) hx rfl (World.news_of_block hg) (by intro u hu; simp at hu; rcases hu with rfl | rfl <;> rfl) (by decide) (by simp only [maxLen]; omega) (by omega) hbase w.heap.size rfl ?_
  intro g' cap w' h1 h2 h3 _
  refine h g' cap w' ?_ h2 h3
  unfold OwnR
  rw [List.length_append, flatR_app, flatR_one]
  exact h1
/-- the ranges of a report -/
def rgsS : Nat → List Rg → List UInt8 × Int → List Rg × List UInt8 × Int
  | 0, l, s => (l, s)
  | n + 1, l, s => if s.2 = 0 then rgsS n (l ++ [(rangeS l s).1]) (rangeS l s).2 else (l, s)
theorem rgsS_bad (n : Nat) (l : List Rg) (s : List UInt8 × Int) (h : ¬ s.2 = 0) : rgsS n l s = (l, s) := by
  cases n with
  | zero => rfl
  | succ n => unfold rgsS; rw [if_neg h]
theorem rgsS_step (n : Nat) (l : List Rg) (s : List UInt8 × Int) (h : s.2 = 0) : rgsS (n + 1) l s = rgsS n (l ++ [(rangeS l s).1]) (rangeS l s).2 := by
  conv => lhs; unfold rgsS
  rw [if_pos h]
/-- where no fault comes, the range stands behind the others as it must -/
theorem rangeS_ok {l : List Rg} {s : List UInt8 × Int} (hl : gotOk l) (h : (rangeS l s).2.2 = 0) : gotOk (l ++ [(rangeS l s).1]) := by
  refine (gotOk_snoc _ _).2 ⟨hl, ?_⟩
  unfold rangeS at h ⊢
  simp only at h ⊢
  by_cases hc : freeR l ≤ endR l + ((nmS mxU s).1 : Nat) ∧ endR l + ((nmS mxU s).1 : Nat) < endR l + ((nmS mxU s).1 : Nat) + ((nmS mxU (nmS mxU s).2).1 : Nat) ∧ endR l + ((nmS mxU s).1 : Nat) + ((nmS mxU (nmS mxU s).2).1 : Nat) ≤ 64
  · exact hc
  · rw [if_neg hc] at h
    unfold mustF at h
    simp only [Bool.false_eq_true, if_false] at h
    split at h
    · exact absurd h (by decide)
    · rename_i h9; exact absurd h h9
section
set_option maxRecDepth 20000
set_option maxHeartbeats 1600000
theorem readCancel_t (p g : Nat) (w : World) : Calls Tryz.prog 72 #[.pointer (some ⟨p, 0, none⟩), .pointer (some ⟨g, 0, none⟩)] w fun er w' => er = .returned (.tuple #[]) ∧ w' = w := by
  go_enter Tryz.func72, Tryz.ntmps72
  go_wp2
  go_end0
  exact ⟨rfl, rfl⟩
end
end Go.Proofs.YtplncfahpdmcoaaGreatDoor
namespace Go.Proofs.YtplncfahpdmcoaaGreatDoor
set_option linter.unusedVariables false
set_option linter.unusedSimpArgs false
open Go.RowKit
/-- how many ranges lie in a unit's box yet -/
def lenAt8 (w : World) (R : Nat) : Nat := match w.cell? ⟨R, 8, none⟩ with
  | some (.slice _ n _) => n
  | _ => 0
theorem mustF_bad {b : Bool} {f : Int} (h : b = false) : ¬ mustF b f = 0 := by
  unfold mustF
  rw [h, if_neg (by decide)]
  split
  · decide
  · assumption
theorem RS.grownO {w w' : World} {p B : Nat} {ys : List UInt8} {f : Int} {row : Option Nat} (h : RS w p B ys f) (hg : w.grownBy w' row) (hr : ∀ r, row = some r → r < B ∨ p < r) : RS w' p B ys f := by
  cases row with
  | none => exact h.grown (hg.any (some (p + 1))) (.inr (Nat.lt_succ_self p))
  | some r => exact h.grown hg (hr r rfl)
theorem gr_boxO {w w' : World} {g : Nat} {c : Obj} {row : Option Nat} (hg : w.grownBy w' row) (hne : ∀ r, row = some r → g ≠ r) (h : w.heap[g]? = some c) : w'.heap[g]? = some c := by
  cases row with
  | none => exact (hg.block g (Array.getElem?_eq_some_iff.1 h).1 (by simp)).trans h
  | some r => exact gr_box hg (hne r rfl) h
theorem own_blk {a : Option Addr} {n c B N : Nat} (h : ∀ q, a = some q → B ≤ q.block ∧ q.block < N) : ∀ r, (Value.slice a n c).ownBlock = some r → B ≤ r ∧ r < N := by
  intro r hr
  cases a with
  | none => cases hr
  | some q => cases hr; exact h q rfl
theorem OwnR.grown {w w' : World} {B : Nat} {v : Value} {xs : List Rg} {r : Nat} (h : OwnR w B v xs) (hg : w.grownBy w' (some r)) (hr : r < B) : OwnR w' B v xs := by
  refine ⟨h.1, ?_⟩
  rcases h.2 with h0 | ⟨g, cap, cur, e, hB, hb, q⟩
  · exact .inl h0
  · exact .inr ⟨g, cap, cur, e, hB, (hg.block g (Array.getElem?_eq_some_iff.1 hb).1 (by simp; omega)).trans hb, q⟩
theorem OwnR.blk {w : World} {B n c : Nat} {a : Option Addr} {xs : List Rg} (h : OwnR w B (.slice a n c) xs) : ∀ q, a = some q → B ≤ q.block ∧ q.block < w.heap.size := by
  obtain ⟨a', c', hv, -, -, -, -, h2⟩ := h.val
  simp only [Value.slice.injEq] at hv
  obtain ⟨rfl, -, -⟩ := hv
  exact fun q hq => ⟨(h2 q hq).2.2.1, (h2 q hq).2.2.2⟩
theorem OwnR.rdA {w : World} {B n c : Nat} {a : Option Addr} {xs : List Rg} (h : OwnR w B (.slice a n c) xs) : RdR w a xs ∧ n ≤ c ∧ n = xs.length ∧ (a = none → c = 0) := by
  obtain ⟨a', c', hv, h1, -, h4, h3, -⟩ := h.val
  simp only [Value.slice.injEq] at hv
  obtain ⟨rfl, rfl, rfl⟩ := hv
  exact ⟨h3, h1, rfl, h4⟩
theorem below_gr {W w w' : World} {row : Option Nat} (h : Below W.heap.size W w) (hg : w.grownBy w' row) (hr : ∀ r, row = some r → W.heap.size ≤ r) : Below W.heap.size W w' := h.grown hg h.size hr
theorem cells9 {W : World} {g : Nat} {t : TypeId} {v0 v1 v2 v3 v4 v5 v6 v7 v8 : Value} (h : W.heap[g]? = some (.cells #[v0, v1, v2, v3, v4, v5, v6, v7, v8] t (0, 0))) : W.cell? ⟨g, 7, none⟩ = some v7 ∧ W.cell? ⟨g, 8, none⟩ = some v8 ∧ W.frozen? ⟨g, 7, none⟩ = false ∧ W.frozen? ⟨g, 8, none⟩ = false := by
  refine ⟨?_, ?_, ?_, ?_⟩
  · rw [cell_of_row _ _ _ _ _ _ h]; rfl
  · rw [cell_of_row _ _ _ _ _ _ h]; rfl
  · simp [World.frozen?, h]
  · simp [World.frozen?, h]
section
set_option maxRecDepth 20000
set_option maxHeartbeats 3200000
theorem readReport_a {p B n1 : Nat} {ys y1 : List UInt8} {f f1 : Int} (b1 : Bool) (g : Nat) (k e s : Int) (p0 i0 c0 d0 cd g0 : Value) (W w : World) (h : RS w p B ys f) (hW : Below W.heap.size W w) (hpW : W.heap.size ≤ p) (hpg : p < g) (hu : UBx w g #[.int .i64 k, .int .u64 e, .int .u64 s, p0, i0, c0, d0, cd, g0])
    (e1 : nmS mxU (ys, f) = (n1, y1, f1)) (hb1 : b1 = true ↔ (0 ≤ (n1 : Int) ∧ (n1 : Int) ≤ 7)) (hne : ¬ n1 = 0) :
    Calls Tryz.prog 69 #[.pointer (some ⟨p, 0, none⟩), .pointer (some ⟨g, 0, none⟩)] w fun er w' => er = .returned (.tuple #[]) ∧ RS w' p B y1 (mustF b1 f1) ∧ UBx w' g #[.int .i64 k, .int .u64 e, .int .u64 s, p0, i0, c0, d0, .int .i64 (n1 : Nat), g0] ∧ Below W.heap.size W w' := by
  have HP : Hid (W.heap.size ≤ p ∧ p < g) := ⟨hpW, hpg⟩
  have HE1 : Hid _ := e1
  have HQ1 : Hid _ := hb1
  have HR0 : Hid (RS w p B ys f) := h
  have HW0 : Hid (Below W.heap.size W w) := hW
  have hneI : ¬ (n1 : Int) = 0 := by omega
  have hneb : ((n1 : Int) == 0) = false := by simpa using hneI
  have HNE : Hid (¬ n1 = 0) := hne
  clear hne
  have HU0 : Hid (UBx w g #[.int .i64 k, .int .u64 e, .int .u64 s, p0, i0, c0, d0, cd, g0]) := hu
  clear h hW hpW hpg hu e1 hb1
  go_enter Tryz.func69, Tryz.ntmps69
  go_wp2_with fail
  refine Calls.mono (small_t _ HR0.out HE1.out) ?_
  rintro er1 w1 ⟨rfl, hr, hg⟩
  have HU1 : Hid (UBx w1 g #[.int .i64 k, .int .u64 e, .int .u64 s, p0, i0, c0, d0, cd, g0]) := gr_box hg (by have := HP.out; omega) HU0.out
  have HR1 : Hid (RS w1 p B y1 f1) := hr
  have HW1 : Hid (Below W.heap.size W w1) := HW0.out.grown hg HW0.out.size (fun j hj => by cases hj; exact HP.out.1)
  obtain ⟨c7, c8, z7, z8⟩ := cells9 HU1.out
  clear hr hg
  obtain ⟨x1, hx1⟩ : ∃ x : World, x = w1.setCell ⟨g, 7, none⟩ (.int .i64 (n1 : Nat)) := ⟨_, rfl⟩
  have HG1x : Hid (w1.grownBy x1 (some g)) := by unfold Hid; rw [hx1]; exact gset1 _ _ _ _
  have HU1x : Hid (UBx x1 g #[.int .i64 k, .int .u64 e, .int .u64 s, p0, i0, c0, d0, .int .i64 (n1 : Nat), g0]) := by unfold Hid UBx; rw [hx1, heap_setCell_same w1 g 7 _ _ _ HU1.out]; rfl
  have HR1x : Hid (RS x1 p B y1 f1) := RS.grown HR1.out HG1x.out (.inr HP.out.2)
  have HW1x : Hid (Below W.heap.size W x1) := HW1.out.grown HG1x.out HW1.out.size (fun j hj => by cases hj; have := HP.out; omega)
  go_wp2_with (go_at_call 96; refine Calls.mono (goodCode_b _ b1 HQ1.out _) ?_; rintro er1 wq ⟨rfl, hq⟩; have hq := hq.symm; subst hq)
  rw [← hx1]
  clear hx1 c7 c8 z7 z8
  refine Calls.mono (must_t b1 _ HR1x.out) ?_
  rintro er1 w1m ⟨rfl, hr, hg⟩
  have HU1m : Hid (UBx w1m g #[.int .i64 k, .int .u64 e, .int .u64 s, p0, i0, c0, d0, .int .i64 (n1 : Nat), g0]) := gr_box hg (by have := HP.out; omega) HU1x.out
  have HR1m : Hid (RS w1m p B y1 (mustF b1 f1)) := hr
  have HW1m : Hid (Below W.heap.size W w1m) := HW1x.out.grown hg HW1x.out.size (fun j hj => by cases hj; exact HP.out.1)
  clear hr hg
  obtain ⟨c7, c8, z7, z8⟩ := cells9 HU1m.out
  go_wp2
  (try simp only [Exit.inBlock, Exit.then])
  refine bodyPost_ret (results_none Tryz.results69 _ _ _) rfl ?_
  exact ⟨rfl, HR1m.out, HU1m.out, HW1m.out⟩
theorem readReport_b {p B n1 : Nat} {ys y1 : List UInt8} {f f1 : Int} (b1 : Bool) (g : Nat) (k e s : Int) (p0 i0 c0 d0 cd g0 : Value) (W w : World) (h : RS w p B ys f) (hW : Below W.heap.size W w) (hpW : W.heap.size ≤ p) (hpg : p < g) (hu : UBx w g #[.int .i64 k, .int .u64 e, .int .u64 s, p0, i0, c0, d0, cd, g0])
    (e1 : nmS mxU (ys, f) = (n1, y1, f1)) (hb1 : b1 = true ↔ (0 ≤ (n1 : Int) ∧ (n1 : Int) ≤ 7)) (hne : n1 = 0) (b2 : Bool) {n2 : Nat} {y2 y3 : List UInt8} {f2 f3 : Int} {T : List Rg} (e2 : nmS mxU (y1, mustF b1 f1) = (n2, y2, f2)) (hb2 : b2 = true ↔ n2 ≤ 32) (e3 : rgsS n2 [] (y2, mustF b2 f2) = (T, y3, f3)) (hg0 : g0 = .slice none 0 0) :
    Calls Tryz.prog 69 #[.pointer (some ⟨p, 0, none⟩), .pointer (some ⟨g, 0, none⟩)] w fun er w' => ∃ a c, er = .returned (.tuple #[]) ∧ RS w' p B y3 f3 ∧ UBx w' g #[.int .i64 k, .int .u64 e, .int .u64 s, p0, i0, c0, d0, .int .i64 0, .slice a T.length c] ∧ OwnR w' (g + 1) (.slice a T.length c) T ∧ Below W.heap.size W w' := by
  have HP : Hid (W.heap.size ≤ p ∧ p < g) := ⟨hpW, hpg⟩
  have HE1 : Hid _ := e1
  have HQ1 : Hid _ := hb1
  have HR0 : Hid (RS w p B ys f) := h
  have HW0 : Hid (Below W.heap.size W w) := hW
  have HE2 : Hid _ := e2
  have HE3 : Hid _ := e3
  have HB2 : Hid _ := hb2
  have hn2 : n2 ≤ 281474976710655 := nmS_le e2
  have HN2 : Hid (n2 ≤ 281474976710655) := hn2
  subst hne hg0
  clear e2 e3 hb2 hn2
  have HU0 : Hid (UBx w g #[.int .i64 k, .int .u64 e, .int .u64 s, p0, i0, c0, d0, cd, .slice none 0 0]) := hu
  clear h hW hpW hpg hu e1 hb1
  go_enter Tryz.func69, Tryz.ntmps69
  go_wp2_with fail
  refine Calls.mono (small_t _ HR0.out HE1.out) ?_
  rintro er1 w1 ⟨rfl, hr, hg⟩
  have HU1 : Hid (UBx w1 g #[.int .i64 k, .int .u64 e, .int .u64 s, p0, i0, c0, d0, cd, .slice none 0 0]) := gr_box hg (by have := HP.out; omega) HU0.out
  have HR1 : Hid (RS w1 p B y1 f1) := hr
  have HW1 : Hid (Below W.heap.size W w1) := HW0.out.grown hg HW0.out.size (fun j hj => by cases hj; exact HP.out.1)
  obtain ⟨c7, c8, z7, z8⟩ := cells9 HU1.out
  clear hr hg
  obtain ⟨x1, hx1⟩ : ∃ x : World, x = w1.setCell ⟨g, 7, none⟩ (.int .i64 0) := ⟨_, rfl⟩
  have HG1x : Hid (w1.grownBy x1 (some g)) := by unfold Hid; rw [hx1]; exact gset1 _ _ _ _
  have HU1x : Hid (UBx x1 g #[.int .i64 k, .int .u64 e, .int .u64 s, p0, i0, c0, d0, .int .i64 0, .slice none 0 0]) := by unfold Hid UBx; rw [hx1, heap_setCell_same w1 g 7 _ _ _ HU1.out]; rfl
  have HR1x : Hid (RS x1 p B y1 f1) := RS.grown HR1.out HG1x.out (.inr HP.out.2)
  have HW1x : Hid (Below W.heap.size W x1) := HW1.out.grown HG1x.out HW1.out.size (fun j hj => by cases hj; have := HP.out; omega)
  go_wp2_with (go_at_call 96; refine Calls.mono (goodCode_b _ b1 HQ1.out _) ?_; rintro er1 wq ⟨rfl, hq⟩; have hq := hq.symm; subst hq)
  rw [← hx1]
  clear hx1 c7 c8 z7 z8
  refine Calls.mono (must_t b1 _ HR1x.out) ?_
  rintro er1 w1m ⟨rfl, hr, hg⟩
  have HU1m : Hid (UBx w1m g #[.int .i64 k, .int .u64 e, .int .u64 s, p0, i0, c0, d0, .int .i64 0, .slice none 0 0]) := gr_box hg (by have := HP.out; omega) HU1x.out
  have HR1m : Hid (RS w1m p B y1 (mustF b1 f1)) := hr
  have HW1m : Hid (Below W.heap.size W w1m) := HW1x.out.grown hg HW1x.out.size (fun j hj => by cases hj; exact HP.out.1)
  clear hr hg
  obtain ⟨c7, c8, z7, z8⟩ := cells9 HU1m.out
  go_wp2_with fail
  refine Calls.mono (small_t _ HR1m.out HE2.out) ?_
  rintro er1 w2 ⟨rfl, hr, hg⟩
  have HU2 : Hid (UBx w2 g #[.int .i64 k, .int .u64 e, .int .u64 s, p0, i0, c0, d0, .int .i64 0, .slice none 0 0]) := gr_box hg (by have := HP.out; omega) HU1m.out
  have HR2 : Hid (RS w2 p B y2 f2) := hr
  have HW2 : Hid (Below W.heap.size W w2) := HW1m.out.grown hg HW1m.out.size (fun j hj => by cases hj; exact HP.out.1)
  clear hr hg c7 c8 z7 z8
  have hbb : b2 = decide ((n2 : Int) ≤ 32) := by
    rw [Bool.eq_iff_iff, HB2.out]
    simp only [decide_eq_true_eq]
    omega
  go_wp2_with fail
  rw [← hbb]
  clear hbb
  refine Calls.mono (must_t b2 _ HR2.out) ?_
  rintro er1 w3 ⟨rfl, hr, hg⟩
  have HU3 : Hid (UBx w3 g #[.int .i64 k, .int .u64 e, .int .u64 s, p0, i0, c0, d0, .int .i64 0, .slice none 0 0]) := gr_box hg (by have := HP.out; omega) HU2.out
  have HR3 : Hid (RS w3 p B y2 (mustF b2 f2)) := hr
  have HW3 : Hid (Below W.heap.size W w3) := HW2.out.grown hg HW2.out.size (fun j hj => by cases hj; exact HP.out.1)
  clear hr hg
  have H80 : Hid (n2 ≤ 32 ∨ ¬ mustF b2 f2 = 0) := by
    by_cases h8 : n2 ≤ 32
    · exact .inl h8
    · exact .inr (mustF_bad (by cases hb : b2 with | false => rfl | true => exact absurd (HB2.out.1 hb) h8))
  go_wp2_with fail
  go_loopw [] (fun wr => ∃ (l : List Rg) (a : Option Addr) (c : Nat) (y : List UInt8) (q : Int), UBx wr g #[.int .i64 k, .int .u64 e, .int .u64 s, p0, i0, c0, d0, .int .i64 0, .slice a l.length c] ∧ OwnR wr (g + 1) (.slice a l.length c) l ∧ RS wr p B y q ∧ Below W.heap.size W wr ∧ Hid (rgsS (n2 - l.length) l (y, q) = (T, y3, f3)) ∧ l.length ≤ n2 ∧ (n2 ≤ 32 ∨ (l = [] ∧ ¬ q = 0)) ∧ (q = 0 → gotOk l) ∧ g + 1 ≤ wr.heap.size) (fun wr => n2 - lenAt8 wr g)
  case atStart => exact ⟨[], none, 0, y2, mustF b2 f2, HU3.out, OwnR.nil _ _, HR3.out, HW3.out, (by unfold Hid; simpa using HE3.out), Nat.zero_le _, (by rcases H80.out with h1 | h1 <;> simp [h1]), fun _ => trivial, (Array.getElem?_eq_some_iff.1 HU3.out).1⟩
  case round =>
    obtain ⟨l, a, c, y, q, hU, hrow, hrs, hbw, HBS, hlt, h8, hok, hsz⟩ := hrel
    obtain ⟨c7, c8, z7, z8⟩ := cells9 hU
    obtain ⟨n, hn⟩ : ∃ n, n = l.length := ⟨_, rfl⟩
    have HLA : Hid (lenAt8 wr g = n) := by unfold Hid lenAt8; rw [c8, hn]
    have HROW : Hid (OwnR wr (g + 1) (.slice a n c) l) := by rw [hn]; exact hrow
    have HRS : Hid (RS wr p B y q) := hrs
    have HR : Hid (UBx wr g #[.int .i64 k, .int .u64 e, .int .u64 s, p0, i0, c0, d0, .int .i64 0, .slice a n c]) := by rw [hn]; exact hU
    have HBW : Hid (Below W.heap.size W wr) := hbw
    have HOK : Hid (q = 0 → gotOk l) := hok
    have HSZ : Hid (g + 1 ≤ wr.heap.size) := hsz
    have hl8 : l.length ≤ 32 := by
      rcases h8 with h1 | ⟨rfl, -⟩
      · omega
      · simp
    rw [← hn] at hlt hl8 c8
    have HN : Hid (n = l.length) := hn
    have hn2 := HN2.out
    clear hrow hrs hU hbw hok hsz
    by_cases hlc : n < n2
    · have hlcI : (n : Int) < (n2 : Int) := by omega
      by_cases hg0 : q = 0
      · subst hg0
        have H8 : Hid (n2 ≤ 32) := by
          rcases h8 with h1 | ⟨-, h1⟩
          · exact h1
          · exact absurd rfl h1
        have HGOT : Hid (gotOk l) := HOK.out rfl
        obtain ⟨m1, v1, t1, E1⟩ : ∃ m1 v1 t1, nmS mxU (y, 0) = (m1, v1, t1) := ⟨_, _, _, rfl⟩
        obtain ⟨m2, v2, t2, E2⟩ : ∃ m2 v2 t2, nmS mxU (v1, t1) = (m2, v2, t2) := ⟨_, _, _, rfl⟩
        obtain ⟨G, hG⟩ : ∃ G : Bool, G = decide (freeR l ≤ endR l + (m1 : Int) ∧ endR l + (m1 : Int) < endR l + (m1 : Int) + (m2 : Int) ∧ endR l + (m1 : Int) + (m2 : Int) ≤ 64) := ⟨_, rfl⟩
        have HGG : Hid (G = true ↔ (freeR l ≤ endR l + (m1 : Int) ∧ endR l + (m1 : Int) < endR l + (m1 : Int) + (m2 : Int) ∧ endR l + (m1 : Int) + (m2 : Int) ≤ 64)) := by unfold Hid; rw [hG]; exact decide_eq_true_iff
        have HRA : Hid (rangeS l (y, 0) = ((endR l + (m1 : Int), endR l + (m1 : Int) + (m2 : Int)), v2, mustF G t2)) := by
          unfold Hid rangeS
          simp only [E1, E2]
          by_cases hc : freeR l ≤ endR l + (m1 : Int) ∧ endR l + (m1 : Int) < endR l + (m1 : Int) + (m2 : Int) ∧ endR l + (m1 : Int) + (m2 : Int) ≤ 64
          · rw [if_pos hc, HGG.out.2 hc]; rfl
          · rw [if_neg hc, show G = false from by cases hq : G with | false => rfl | true => exact absurd (HGG.out.1 hq) hc]
        have HRR : Hid _ := fun (u : World) (h1 : RS u p B y 0) (h2 : RdR u a l) (h3 : ∀ z, a = some z → z.block ≠ p) => readRange_t a n c l G u h1 HN.out h2 h3 HGOT.out E1 E2 HGG.out
        obtain ⟨A1, hA1⟩ : ∃ A : Int, A = endR l + (m1 : Int) := ⟨_, rfl⟩
        obtain ⟨A2, hA2⟩ : ∃ A : Int, A = A1 + (m2 : Int) := ⟨_, rfl⟩
        rw [← hA1, ← hA2] at HRR HRA
        have HBS2 : Hid (rgsS (n2 - (n + 1)) (l ++ [(A1, A2)]) (v2, mustF G t2) = (T, y3, f3)) := by
          have h1 := HBS.out
          rw [← HN.out, show n2 - n = (n2 - (n + 1)) + 1 by omega, rgsS_step _ _ _ rfl, HRA.out] at h1
          exact h1
        have HGO2 : Hid (mustF G t2 = 0 → gotOk (l ++ [(A1, A2)])) := fun h9 => by
          have h1 := rangeS_ok (l := l) (s := (y, 0)) HGOT.out (by rw [HRA.out]; exact h9)
          rw [HRA.out] at h1
          exact h1
        clear HBS h8 E1 E2 hG HGG HRA hA1 hA2 hn HOK HGOT
        go_wp2_with fail
        refine Calls.mono (err_t wr HRS.out) ?_
        rintro er1 u ⟨rfl, hu⟩
        rw [hu]
        clear hu u
        go_wp2_with fail
        refine wp_region_noPanic ?_
        refine wp_region_held_drew (S := (fun _ => True)) (by kernel_rfl) (by exact trivial) (fun hHeld => ?_)
        refine take_at (i := 0) 40 (v := ?_) rfl rfl (by kernel_rfl) (by kernel_rfl) (by kernel_rfl) (fun _ _ _ h => h) (by rfl) ?_ hHeld ?_
        rotate_left
        · (intro w hSw; (try dsimp only at hSw); go_simp; try with_reducible rfl)
        simp only [Act.put, List.setIfInBounds_toArray, List.set_cons_zero, List.set_cons_succ]
        refine take_at (i := 1) 41 (v := ?_) rfl rfl (by kernel_rfl) (by kernel_rfl) (by kernel_rfl) (fun _ _ _ h => h) (by rfl) ?_ hHeld ?_
        rotate_left
        · (intro w hSw; (try dsimp only at hSw); go_simp; try with_reducible rfl)
        simp only [Act.put, List.setIfInBounds_toArray, List.set_cons_zero, List.set_cons_succ]
        refine take_at (i := 2) 42 (v := ?_) rfl rfl (by kernel_rfl) (by kernel_rfl) (by kernel_rfl) (fun _ _ _ h => h) (by rfl) ?_ hHeld ?_
        rotate_left
        · (intro w hSw; (try dsimp only at hSw); go_simp; try with_reducible rfl)
        simp only [Act.put, List.setIfInBounds_toArray, List.set_cons_zero, List.set_cons_succ]
        refine take_at (i := 3) 43 (v := ?_) rfl rfl (by kernel_rfl) (by kernel_rfl) (by kernel_rfl) (fun _ _ _ h => h) (by rfl) ?_ hHeld ?_
        rotate_left
        · (intro w hSw; (try dsimp only at hSw); go_simp; try with_reducible rfl)
        simp only [Act.put, List.setIfInBounds_toArray, List.set_cons_zero, List.set_cons_succ]
        refine take_at (i := 5) 45 (v := ?_) rfl rfl (by kernel_rfl) (by kernel_rfl) (by kernel_rfl) (fun _ _ _ h => h) (by rfl) ?_ hHeld ?_
        rotate_left
        · (intro w hSw; (try dsimp only at hSw); go_simp; try with_reducible rfl)
        simp only [Act.put, List.setIfInBounds_toArray, List.set_cons_zero, List.set_cons_succ]
        refine take_at (i := 6) 46 (v := ?_) rfl rfl (by kernel_rfl) (by kernel_rfl) (by kernel_rfl) (fun _ _ _ h => h) (by rfl) ?_ hHeld ?_
        rotate_left
        · (intro w hSw; (try dsimp only at hSw); go_simp; try with_reducible rfl)
        simp only [Act.put, List.setIfInBounds_toArray, List.set_cons_zero, List.set_cons_succ]
        refine take_at (i := 7) 47 (v := ?_) rfl rfl (by kernel_rfl) (by kernel_rfl) (by kernel_rfl) (fun _ _ _ h => h) (by rfl) ?_ hHeld ?_
        rotate_left
        · (intro w hSw; (try dsimp only at hSw); go_simp; try with_reducible rfl)
        simp only [Act.put, List.setIfInBounds_toArray, List.set_cons_zero, List.set_cons_succ]
        refine take_at (i := 8) 48 (v := ?_) rfl rfl (by kernel_rfl) (by kernel_rfl) (by kernel_rfl) (fun _ _ _ h => h) (by rfl) ?_ hHeld ?_
        rotate_left
        · (intro w hSw; (try dsimp only at hSw); go_simp; try with_reducible rfl)
        simp only [Act.put, List.setIfInBounds_toArray, List.set_cons_zero, List.set_cons_succ]
        refine wpAnyH_ready (rs := [4, 9]) (by kernel_rfl) (by simp) ?_
        refine AllReadyH.cons (o := _) rfl (fun K hK => ?_) ?_
        focus
          rw [if_pos (by rfl)]
          refine val_wp 44 (v := ?_) rfl ?_ ?_
          rotate_left
          · (go_simp; try with_reducible rfl)
          refine hK.out _ _ (by exact trivial) ?_
          clear hK K
          intro hHeld2
          clear hHeld
          have hHeld := hHeld2
          clear hHeld2
          simp only [Act.put, List.setIfInBounds_toArray, List.set_cons_zero, List.set_cons_succ]
          refine val_at (i := 9) 49 (v := ?_) rfl rfl (by kernel_rfl) (by rfl) ?_ ?_ ?_
          rotate_left
          · (go_simp; try with_reducible rfl)
          · (exact trivial)
          intro hHeld2
          clear hHeld
          have hHeld := hHeld2
          clear hHeld2
          simp only [Act.put, List.setIfInBounds_toArray, List.set_cons_zero, List.set_cons_succ]
          refine run_at (i := 10) rfl (by kernel_rfl) (by rfl) (fun K hK => ?_)
          simp only [List.getElem_toArray, List.getElem_cons_zero, List.getElem_cons_succ]
          go_simp
          first | (go_at_call 99; refine Calls.mono (HRR.out _ (HRS.out.below (Below.refl _ _).drew) (HROW.out.rdA.1.below (Below.refl _ _).drew) (fun z hz => by have h1 := (HROW.out.blk z hz).1; have h2 := HP.out; omega)) ?_; rintro er1 w5 ⟨rfl, hrs5, hg5⟩; have HRS5 : Hid (RS w5 p B v2 (mustF G t2)) := hrs5; have HG5 : Hid (wr.grownBy w5 (some p)) := grown_step (gr_below (World.grownBy.refl _ _) (Below.refl _ _).drew) hg5 (.inl rfl); have HR5 : Hid (UBx w5 g #[.int .i64 k, .int .u64 e, .int .u64 s, p0, i0, c0, d0, .int .i64 0, .slice a n c]) := gr_box HG5.out (by have := HP.out; omega) HR.out; clear c7 c8 z7 z8; obtain ⟨c7, c8, z7, z8⟩ := cells9 HR5.out; have hA8 := fun (ob : Obj) => ((al (Below.refl w5.heap.size w5) ob).cell (p := ⟨g, 8, none⟩) (World.block_lt_of_cell? _ _ c8)).trans c8; clear hrs5 hg5) | (refine wpo_appR1 _ _ rfl (g + 1) (.slice a n c) l n HN.out (A1, A2) w5.heap.size rfl ((HROW.out.grown HG5.out (by have := HP.out; omega)).below (al (Below.refl _ _) _)) rfl (heap_alloc_new w5 _) (by omega) (by have h1 := HG5.out.size; have h2 := HSZ.out; rw [heap_alloc_size1']; omega) ?_; intro g7 cap7 w7 hrow7 hg7 hwh7; obtain ⟨W6, hW6⟩ : ∃ W6 : World, W6 = w5.alloc (.cells #[.int .i64 A1, .int .i64 A2] 43 (0, 0)) := ⟨_, rfl⟩; rw [← hW6] at hg7; have hb56 : Below w5.heap.size w5 W6 := (by rw [hW6]; exact al (Below.refl _ _) _); have hob := HROW.out.blk; have HRS7 : Hid (RS w7 p B v2 (mustF G t2)) := (HRS5.out.below hb56).grownO hg7 (fun r hr => .inr (by have h1 := (own_blk hob r hr).1; have h2 := HP.out; omega)); have HR7 : Hid (UBx w7 g #[.int .i64 k, .int .u64 e, .int .u64 s, p0, i0, c0, d0, .int .i64 0, .slice a n c]) := gr_boxO hg7 (fun r hr => by have := (own_blk hob r hr).1; omega) ((hb56.block g (Array.getElem?_eq_some_iff.1 HR5.out).1).trans HR5.out); have HBW7 : Hid (Below W.heap.size W w7) := below_gr (below_next (below_gr HBW.out HG5.out (fun r hr => by cases hr; exact HP.out.1)) hb56) hg7 (fun r hr => by have h1 := (own_blk hob r hr).1; have h2 := HP.out; omega); clear c7 c8 z7 z8 hA8; obtain ⟨c7, c8, z7, z8⟩ := cells9 HR7.out; have HROW7 : Hid (OwnR w7 (g + 1) (.slice (some ⟨g7, 0, none⟩) (n + 1) cap7) (l ++ [(A1, A2)])) := hrow7; clear hrow7 hg7 hwh7 hW6 hb56 hob)
          go_wp2_with fail
          refine hK.out _ _ (by exact trivial) ?_
          clear hK K
          intro hHeld2
          clear hHeld
          have hHeld := hHeld2
          clear hHeld2
          try simp only [Act.put, List.setIfInBounds_toArray, List.set_cons_zero, List.set_cons_succ]
          refine run_at (i := 11) rfl (by kernel_rfl) (by rfl) (fun K hK => ?_)
          simp only [List.getElem_toArray, List.getElem_cons_zero, List.getElem_cons_succ]
          go_simp
          go_wp2_with fail
          refine hK.out _ _ (by exact trivial) ?_
          clear hK K
          intro hHeld2
          clear hHeld
          have hHeld := hHeld2
          clear hHeld2
          try simp only [Act.put, List.setIfInBounds_toArray, List.set_cons_zero, List.set_cons_succ]
          refine run_at (i := 12) rfl (by kernel_rfl) (by rfl) (fun K hK => ?_)
          simp only [List.getElem_toArray, List.getElem_cons_zero, List.getElem_cons_succ]
          first | (go_at_call 99; refine Calls.mono (HRR.out _ (HRS.out.below (Below.refl _ _).drew) (HROW.out.rdA.1.below (Below.refl _ _).drew) (fun z hz => by have h1 := (HROW.out.blk z hz).1; have h2 := HP.out; omega)) ?_; rintro er1 w5 ⟨rfl, hrs5, hg5⟩; have HRS5 : Hid (RS w5 p B v2 (mustF G t2)) := hrs5; have HG5 : Hid (wr.grownBy w5 (some p)) := grown_step (gr_below (World.grownBy.refl _ _) (Below.refl _ _).drew) hg5 (.inl rfl); have HR5 : Hid (UBx w5 g #[.int .i64 k, .int .u64 e, .int .u64 s, p0, i0, c0, d0, .int .i64 0, .slice a n c]) := gr_box HG5.out (by have := HP.out; omega) HR.out; clear c7 c8 z7 z8; obtain ⟨c7, c8, z7, z8⟩ := cells9 HR5.out; have hA8 := fun (ob : Obj) => ((al (Below.refl w5.heap.size w5) ob).cell (p := ⟨g, 8, none⟩) (World.block_lt_of_cell? _ _ c8)).trans c8; clear hrs5 hg5) | (refine wpo_appR1 _ _ rfl (g + 1) (.slice a n c) l n HN.out (A1, A2) w5.heap.size rfl ((HROW.out.grown HG5.out (by have := HP.out; omega)).below (al (Below.refl _ _) _)) rfl (heap_alloc_new w5 _) (by omega) (by have h1 := HG5.out.size; have h2 := HSZ.out; rw [heap_alloc_size1']; omega) ?_; intro g7 cap7 w7 hrow7 hg7 hwh7; obtain ⟨W6, hW6⟩ : ∃ W6 : World, W6 = w5.alloc (.cells #[.int .i64 A1, .int .i64 A2] 43 (0, 0)) := ⟨_, rfl⟩; rw [← hW6] at hg7; have hb56 : Below w5.heap.size w5 W6 := (by rw [hW6]; exact al (Below.refl _ _) _); have hob := HROW.out.blk; have HRS7 : Hid (RS w7 p B v2 (mustF G t2)) := (HRS5.out.below hb56).grownO hg7 (fun r hr => .inr (by have h1 := (own_blk hob r hr).1; have h2 := HP.out; omega)); have HR7 : Hid (UBx w7 g #[.int .i64 k, .int .u64 e, .int .u64 s, p0, i0, c0, d0, .int .i64 0, .slice a n c]) := gr_boxO hg7 (fun r hr => by have := (own_blk hob r hr).1; omega) ((hb56.block g (Array.getElem?_eq_some_iff.1 HR5.out).1).trans HR5.out); have HBW7 : Hid (Below W.heap.size W w7) := below_gr (below_next (below_gr HBW.out HG5.out (fun r hr => by cases hr; exact HP.out.1)) hb56) hg7 (fun r hr => by have h1 := (own_blk hob r hr).1; have h2 := HP.out; omega); clear c7 c8 z7 z8 hA8; obtain ⟨c7, c8, z7, z8⟩ := cells9 HR7.out; have HROW7 : Hid (OwnR w7 (g + 1) (.slice (some ⟨g7, 0, none⟩) (n + 1) cap7) (l ++ [(A1, A2)])) := hrow7; clear hrow7 hg7 hwh7 hW6 hb56 hob)
          refine hK.out _ _ (by exact trivial) ?_
          clear hK K
          intro hHeld2
          clear hHeld
          have hHeld := hHeld2
          clear hHeld2
          try simp only [Act.put, List.setIfInBounds_toArray, List.set_cons_zero, List.set_cons_succ]
          refine take_at (i := 13) 53 (v := ?_) rfl rfl (by kernel_rfl) (by kernel_rfl) (by kernel_rfl) (fun _ _ _ h => h) (by rfl) ?_ hHeld ?_
          rotate_left
          · (intro w hSw; (try dsimp only at hSw); go_simp; try with_reducible rfl)
          simp only [Act.put, List.setIfInBounds_toArray, List.set_cons_zero, List.set_cons_succ]
          refine take_at (i := 14) 54 (v := ?_) rfl rfl (by kernel_rfl) (by kernel_rfl) (by kernel_rfl) (fun _ _ _ h => h) (by rfl) ?_ hHeld ?_
          rotate_left
          · (intro w hSw; (try dsimp only at hSw); go_simp; try with_reducible rfl)
          simp only [Act.put, List.setIfInBounds_toArray, List.set_cons_zero, List.set_cons_succ]
          refine run_at (i := 15) rfl (by kernel_rfl) (by rfl) (fun K hK => ?_)
          simp only [List.getElem_toArray, List.getElem_cons_zero, List.getElem_cons_succ]
          go_simp
          go_wp2_with fail
          refine hK.out _ _ (by exact trivial) ?_
          clear hK K
          intro hHeld2
          clear hHeld
          have hHeld := hHeld2
          clear hHeld2
          try simp only [Act.put, List.setIfInBounds_toArray, List.set_cons_zero, List.set_cons_succ]
          refine wpAnyH_done (by kernel_rfl) ?_ _
          refine NoPanic.normal ?_
        rotate_left 1
        refine AllReadyH.cons (o := _) rfl (fun K hK => ?_) AllReadyH.nil
        focus
          rw [if_pos (by rfl)]
          refine val_wp 49 (v := ?_) rfl ?_ ?_
          rotate_left
          · (go_simp; try with_reducible rfl)
          refine hK.out _ _ (by exact trivial) ?_
          clear hK K
          intro hHeld2
          clear hHeld
          have hHeld := hHeld2
          clear hHeld2
          simp only [Act.put, List.setIfInBounds_toArray, List.set_cons_zero, List.set_cons_succ]
          refine wpAnyH_ready (rs := [4, 10]) (by kernel_rfl) (by simp) ?_
          refine AllReadyH.cons (o := _) rfl (fun K hK => ?_) ?_
          focus
            rw [if_pos (by rfl)]
            refine val_wp 44 (v := ?_) rfl ?_ ?_
            rotate_left
            · (go_simp; try with_reducible rfl)
            refine hK.out _ _ (by exact trivial) ?_
            clear hK K
            intro hHeld2
            clear hHeld
            have hHeld := hHeld2
            clear hHeld2
            simp only [Act.put, List.setIfInBounds_toArray, List.set_cons_zero, List.set_cons_succ]
            refine run_at (i := 10) rfl (by kernel_rfl) (by rfl) (fun K hK => ?_)
            simp only [List.getElem_toArray, List.getElem_cons_zero, List.getElem_cons_succ]
            go_simp
            first | (go_at_call 99; refine Calls.mono (HRR.out _ (HRS.out.below (Below.refl _ _).drew) (HROW.out.rdA.1.below (Below.refl _ _).drew) (fun z hz => by have h1 := (HROW.out.blk z hz).1; have h2 := HP.out; omega)) ?_; rintro er1 w5 ⟨rfl, hrs5, hg5⟩; have HRS5 : Hid (RS w5 p B v2 (mustF G t2)) := hrs5; have HG5 : Hid (wr.grownBy w5 (some p)) := grown_step (gr_below (World.grownBy.refl _ _) (Below.refl _ _).drew) hg5 (.inl rfl); have HR5 : Hid (UBx w5 g #[.int .i64 k, .int .u64 e, .int .u64 s, p0, i0, c0, d0, .int .i64 0, .slice a n c]) := gr_box HG5.out (by have := HP.out; omega) HR.out; clear c7 c8 z7 z8; obtain ⟨c7, c8, z7, z8⟩ := cells9 HR5.out; have hA8 := fun (ob : Obj) => ((al (Below.refl w5.heap.size w5) ob).cell (p := ⟨g, 8, none⟩) (World.block_lt_of_cell? _ _ c8)).trans c8; clear hrs5 hg5) | (refine wpo_appR1 _ _ rfl (g + 1) (.slice a n c) l n HN.out (A1, A2) w5.heap.size rfl ((HROW.out.grown HG5.out (by have := HP.out; omega)).below (al (Below.refl _ _) _)) rfl (heap_alloc_new w5 _) (by omega) (by have h1 := HG5.out.size; have h2 := HSZ.out; rw [heap_alloc_size1']; omega) ?_; intro g7 cap7 w7 hrow7 hg7 hwh7; obtain ⟨W6, hW6⟩ : ∃ W6 : World, W6 = w5.alloc (.cells #[.int .i64 A1, .int .i64 A2] 43 (0, 0)) := ⟨_, rfl⟩; rw [← hW6] at hg7; have hb56 : Below w5.heap.size w5 W6 := (by rw [hW6]; exact al (Below.refl _ _) _); have hob := HROW.out.blk; have HRS7 : Hid (RS w7 p B v2 (mustF G t2)) := (HRS5.out.below hb56).grownO hg7 (fun r hr => .inr (by have h1 := (own_blk hob r hr).1; have h2 := HP.out; omega)); have HR7 : Hid (UBx w7 g #[.int .i64 k, .int .u64 e, .int .u64 s, p0, i0, c0, d0, .int .i64 0, .slice a n c]) := gr_boxO hg7 (fun r hr => by have := (own_blk hob r hr).1; omega) ((hb56.block g (Array.getElem?_eq_some_iff.1 HR5.out).1).trans HR5.out); have HBW7 : Hid (Below W.heap.size W w7) := below_gr (below_next (below_gr HBW.out HG5.out (fun r hr => by cases hr; exact HP.out.1)) hb56) hg7 (fun r hr => by have h1 := (own_blk hob r hr).1; have h2 := HP.out; omega); clear c7 c8 z7 z8 hA8; obtain ⟨c7, c8, z7, z8⟩ := cells9 HR7.out; have HROW7 : Hid (OwnR w7 (g + 1) (.slice (some ⟨g7, 0, none⟩) (n + 1) cap7) (l ++ [(A1, A2)])) := hrow7; clear hrow7 hg7 hwh7 hW6 hb56 hob)
            go_wp2_with fail
            refine hK.out _ _ (by exact trivial) ?_
            clear hK K
            intro hHeld2
            clear hHeld
            have hHeld := hHeld2
            clear hHeld2
            try simp only [Act.put, List.setIfInBounds_toArray, List.set_cons_zero, List.set_cons_succ]
            refine run_at (i := 11) rfl (by kernel_rfl) (by rfl) (fun K hK => ?_)
            simp only [List.getElem_toArray, List.getElem_cons_zero, List.getElem_cons_succ]
            go_simp
            go_wp2_with fail
            refine hK.out _ _ (by exact trivial) ?_
            clear hK K
            intro hHeld2
            clear hHeld
            have hHeld := hHeld2
            clear hHeld2
            try simp only [Act.put, List.setIfInBounds_toArray, List.set_cons_zero, List.set_cons_succ]
            refine run_at (i := 12) rfl (by kernel_rfl) (by rfl) (fun K hK => ?_)
            simp only [List.getElem_toArray, List.getElem_cons_zero, List.getElem_cons_succ]
            first | (go_at_call 99; refine Calls.mono (HRR.out _ (HRS.out.below (Below.refl _ _).drew) (HROW.out.rdA.1.below (Below.refl _ _).drew) (fun z hz => by have h1 := (HROW.out.blk z hz).1; have h2 := HP.out; omega)) ?_; rintro er1 w5 ⟨rfl, hrs5, hg5⟩; have HRS5 : Hid (RS w5 p B v2 (mustF G t2)) := hrs5; have HG5 : Hid (wr.grownBy w5 (some p)) := grown_step (gr_below (World.grownBy.refl _ _) (Below.refl _ _).drew) hg5 (.inl rfl); have HR5 : Hid (UBx w5 g #[.int .i64 k, .int .u64 e, .int .u64 s, p0, i0, c0, d0, .int .i64 0, .slice a n c]) := gr_box HG5.out (by have := HP.out; omega) HR.out; clear c7 c8 z7 z8; obtain ⟨c7, c8, z7, z8⟩ := cells9 HR5.out; have hA8 := fun (ob : Obj) => ((al (Below.refl w5.heap.size w5) ob).cell (p := ⟨g, 8, none⟩) (World.block_lt_of_cell? _ _ c8)).trans c8; clear hrs5 hg5) | (refine wpo_appR1 _ _ rfl (g + 1) (.slice a n c) l n HN.out (A1, A2) w5.heap.size rfl ((HROW.out.grown HG5.out (by have := HP.out; omega)).below (al (Below.refl _ _) _)) rfl (heap_alloc_new w5 _) (by omega) (by have h1 := HG5.out.size; have h2 := HSZ.out; rw [heap_alloc_size1']; omega) ?_; intro g7 cap7 w7 hrow7 hg7 hwh7; obtain ⟨W6, hW6⟩ : ∃ W6 : World, W6 = w5.alloc (.cells #[.int .i64 A1, .int .i64 A2] 43 (0, 0)) := ⟨_, rfl⟩; rw [← hW6] at hg7; have hb56 : Below w5.heap.size w5 W6 := (by rw [hW6]; exact al (Below.refl _ _) _); have hob := HROW.out.blk; have HRS7 : Hid (RS w7 p B v2 (mustF G t2)) := (HRS5.out.below hb56).grownO hg7 (fun r hr => .inr (by have h1 := (own_blk hob r hr).1; have h2 := HP.out; omega)); have HR7 : Hid (UBx w7 g #[.int .i64 k, .int .u64 e, .int .u64 s, p0, i0, c0, d0, .int .i64 0, .slice a n c]) := gr_boxO hg7 (fun r hr => by have := (own_blk hob r hr).1; omega) ((hb56.block g (Array.getElem?_eq_some_iff.1 HR5.out).1).trans HR5.out); have HBW7 : Hid (Below W.heap.size W w7) := below_gr (below_next (below_gr HBW.out HG5.out (fun r hr => by cases hr; exact HP.out.1)) hb56) hg7 (fun r hr => by have h1 := (own_blk hob r hr).1; have h2 := HP.out; omega); clear c7 c8 z7 z8 hA8; obtain ⟨c7, c8, z7, z8⟩ := cells9 HR7.out; have HROW7 : Hid (OwnR w7 (g + 1) (.slice (some ⟨g7, 0, none⟩) (n + 1) cap7) (l ++ [(A1, A2)])) := hrow7; clear hrow7 hg7 hwh7 hW6 hb56 hob)
            refine hK.out _ _ (by exact trivial) ?_
            clear hK K
            intro hHeld2
            clear hHeld
            have hHeld := hHeld2
            clear hHeld2
            try simp only [Act.put, List.setIfInBounds_toArray, List.set_cons_zero, List.set_cons_succ]
            refine take_at (i := 13) 53 (v := ?_) rfl rfl (by kernel_rfl) (by kernel_rfl) (by kernel_rfl) (fun _ _ _ h => h) (by rfl) ?_ hHeld ?_
            rotate_left
            · (intro w hSw; (try dsimp only at hSw); go_simp; try with_reducible rfl)
            simp only [Act.put, List.setIfInBounds_toArray, List.set_cons_zero, List.set_cons_succ]
            refine take_at (i := 14) 54 (v := ?_) rfl rfl (by kernel_rfl) (by kernel_rfl) (by kernel_rfl) (fun _ _ _ h => h) (by rfl) ?_ hHeld ?_
            rotate_left
            · (intro w hSw; (try dsimp only at hSw); go_simp; try with_reducible rfl)
            simp only [Act.put, List.setIfInBounds_toArray, List.set_cons_zero, List.set_cons_succ]
            refine run_at (i := 15) rfl (by kernel_rfl) (by rfl) (fun K hK => ?_)
            simp only [List.getElem_toArray, List.getElem_cons_zero, List.getElem_cons_succ]
            go_simp
            go_wp2_with fail
            refine hK.out _ _ (by exact trivial) ?_
            clear hK K
            intro hHeld2
            clear hHeld
            have hHeld := hHeld2
            clear hHeld2
            try simp only [Act.put, List.setIfInBounds_toArray, List.set_cons_zero, List.set_cons_succ]
            refine wpAnyH_done (by kernel_rfl) ?_ _
            refine NoPanic.normal ?_
          rotate_left 1
          refine AllReadyH.cons (o := _) rfl (fun K hK => ?_) AllReadyH.nil
          focus
            rw [if_pos (by rfl)]
            simp only [List.getElem_toArray, List.getElem_cons_zero, List.getElem_cons_succ]
            go_simp
            first | (go_at_call 99; refine Calls.mono (HRR.out _ (HRS.out.below (Below.refl _ _).drew) (HROW.out.rdA.1.below (Below.refl _ _).drew) (fun z hz => by have h1 := (HROW.out.blk z hz).1; have h2 := HP.out; omega)) ?_; rintro er1 w5 ⟨rfl, hrs5, hg5⟩; have HRS5 : Hid (RS w5 p B v2 (mustF G t2)) := hrs5; have HG5 : Hid (wr.grownBy w5 (some p)) := grown_step (gr_below (World.grownBy.refl _ _) (Below.refl _ _).drew) hg5 (.inl rfl); have HR5 : Hid (UBx w5 g #[.int .i64 k, .int .u64 e, .int .u64 s, p0, i0, c0, d0, .int .i64 0, .slice a n c]) := gr_box HG5.out (by have := HP.out; omega) HR.out; clear c7 c8 z7 z8; obtain ⟨c7, c8, z7, z8⟩ := cells9 HR5.out; have hA8 := fun (ob : Obj) => ((al (Below.refl w5.heap.size w5) ob).cell (p := ⟨g, 8, none⟩) (World.block_lt_of_cell? _ _ c8)).trans c8; clear hrs5 hg5) | (refine wpo_appR1 _ _ rfl (g + 1) (.slice a n c) l n HN.out (A1, A2) w5.heap.size rfl ((HROW.out.grown HG5.out (by have := HP.out; omega)).below (al (Below.refl _ _) _)) rfl (heap_alloc_new w5 _) (by omega) (by have h1 := HG5.out.size; have h2 := HSZ.out; rw [heap_alloc_size1']; omega) ?_; intro g7 cap7 w7 hrow7 hg7 hwh7; obtain ⟨W6, hW6⟩ : ∃ W6 : World, W6 = w5.alloc (.cells #[.int .i64 A1, .int .i64 A2] 43 (0, 0)) := ⟨_, rfl⟩; rw [← hW6] at hg7; have hb56 : Below w5.heap.size w5 W6 := (by rw [hW6]; exact al (Below.refl _ _) _); have hob := HROW.out.blk; have HRS7 : Hid (RS w7 p B v2 (mustF G t2)) := (HRS5.out.below hb56).grownO hg7 (fun r hr => .inr (by have h1 := (own_blk hob r hr).1; have h2 := HP.out; omega)); have HR7 : Hid (UBx w7 g #[.int .i64 k, .int .u64 e, .int .u64 s, p0, i0, c0, d0, .int .i64 0, .slice a n c]) := gr_boxO hg7 (fun r hr => by have := (own_blk hob r hr).1; omega) ((hb56.block g (Array.getElem?_eq_some_iff.1 HR5.out).1).trans HR5.out); have HBW7 : Hid (Below W.heap.size W w7) := below_gr (below_next (below_gr HBW.out HG5.out (fun r hr => by cases hr; exact HP.out.1)) hb56) hg7 (fun r hr => by have h1 := (own_blk hob r hr).1; have h2 := HP.out; omega); clear c7 c8 z7 z8 hA8; obtain ⟨c7, c8, z7, z8⟩ := cells9 HR7.out; have HROW7 : Hid (OwnR w7 (g + 1) (.slice (some ⟨g7, 0, none⟩) (n + 1) cap7) (l ++ [(A1, A2)])) := hrow7; clear hrow7 hg7 hwh7 hW6 hb56 hob)
            go_wp2_with fail
            refine hK.out _ _ (by exact trivial) ?_
            clear hK K
            intro hHeld2
            clear hHeld
            have hHeld := hHeld2
            clear hHeld2
            try simp only [Act.put, List.setIfInBounds_toArray, List.set_cons_zero, List.set_cons_succ]
            refine wpAnyH_ready (rs := [4, 11]) (by kernel_rfl) (by simp) ?_
            refine AllReadyH.cons (o := _) rfl (fun K hK => ?_) ?_
            focus
              rw [if_pos (by rfl)]
              refine val_wp 44 (v := ?_) rfl ?_ ?_
              rotate_left
              · (go_simp; try with_reducible rfl)
              refine hK.out _ _ (by exact trivial) ?_
              clear hK K
              intro hHeld2
              clear hHeld
              have hHeld := hHeld2
              clear hHeld2
              simp only [Act.put, List.setIfInBounds_toArray, List.set_cons_zero, List.set_cons_succ]
              refine run_at (i := 11) rfl (by kernel_rfl) (by rfl) (fun K hK => ?_)
              simp only [List.getElem_toArray, List.getElem_cons_zero, List.getElem_cons_succ]
              go_simp
              go_wp2_with fail
              refine hK.out _ _ (by exact trivial) ?_
              clear hK K
              intro hHeld2
              clear hHeld
              have hHeld := hHeld2
              clear hHeld2
              try simp only [Act.put, List.setIfInBounds_toArray, List.set_cons_zero, List.set_cons_succ]
              refine run_at (i := 12) rfl (by kernel_rfl) (by rfl) (fun K hK => ?_)
              simp only [List.getElem_toArray, List.getElem_cons_zero, List.getElem_cons_succ]
              first | (go_at_call 99; refine Calls.mono (HRR.out _ (HRS.out.below (Below.refl _ _).drew) (HROW.out.rdA.1.below (Below.refl _ _).drew) (fun z hz => by have h1 := (HROW.out.blk z hz).1; have h2 := HP.out; omega)) ?_; rintro er1 w5 ⟨rfl, hrs5, hg5⟩; have HRS5 : Hid (RS w5 p B v2 (mustF G t2)) := hrs5; have HG5 : Hid (wr.grownBy w5 (some p)) := grown_step (gr_below (World.grownBy.refl _ _) (Below.refl _ _).drew) hg5 (.inl rfl); have HR5 : Hid (UBx w5 g #[.int .i64 k, .int .u64 e, .int .u64 s, p0, i0, c0, d0, .int .i64 0, .slice a n c]) := gr_box HG5.out (by have := HP.out; omega) HR.out; clear c7 c8 z7 z8; obtain ⟨c7, c8, z7, z8⟩ := cells9 HR5.out; have hA8 := fun (ob : Obj) => ((al (Below.refl w5.heap.size w5) ob).cell (p := ⟨g, 8, none⟩) (World.block_lt_of_cell? _ _ c8)).trans c8; clear hrs5 hg5) | (refine wpo_appR1 _ _ rfl (g + 1) (.slice a n c) l n HN.out (A1, A2) w5.heap.size rfl ((HROW.out.grown HG5.out (by have := HP.out; omega)).below (al (Below.refl _ _) _)) rfl (heap_alloc_new w5 _) (by omega) (by have h1 := HG5.out.size; have h2 := HSZ.out; rw [heap_alloc_size1']; omega) ?_; intro g7 cap7 w7 hrow7 hg7 hwh7; obtain ⟨W6, hW6⟩ : ∃ W6 : World, W6 = w5.alloc (.cells #[.int .i64 A1, .int .i64 A2] 43 (0, 0)) := ⟨_, rfl⟩; rw [← hW6] at hg7; have hb56 : Below w5.heap.size w5 W6 := (by rw [hW6]; exact al (Below.refl _ _) _); have hob := HROW.out.blk; have HRS7 : Hid (RS w7 p B v2 (mustF G t2)) := (HRS5.out.below hb56).grownO hg7 (fun r hr => .inr (by have h1 := (own_blk hob r hr).1; have h2 := HP.out; omega)); have HR7 : Hid (UBx w7 g #[.int .i64 k, .int .u64 e, .int .u64 s, p0, i0, c0, d0, .int .i64 0, .slice a n c]) := gr_boxO hg7 (fun r hr => by have := (own_blk hob r hr).1; omega) ((hb56.block g (Array.getElem?_eq_some_iff.1 HR5.out).1).trans HR5.out); have HBW7 : Hid (Below W.heap.size W w7) := below_gr (below_next (below_gr HBW.out HG5.out (fun r hr => by cases hr; exact HP.out.1)) hb56) hg7 (fun r hr => by have h1 := (own_blk hob r hr).1; have h2 := HP.out; omega); clear c7 c8 z7 z8 hA8; obtain ⟨c7, c8, z7, z8⟩ := cells9 HR7.out; have HROW7 : Hid (OwnR w7 (g + 1) (.slice (some ⟨g7, 0, none⟩) (n + 1) cap7) (l ++ [(A1, A2)])) := hrow7; clear hrow7 hg7 hwh7 hW6 hb56 hob)
              refine hK.out _ _ (by exact trivial) ?_
              clear hK K
              intro hHeld2
              clear hHeld
              have hHeld := hHeld2
              clear hHeld2
              try simp only [Act.put, List.setIfInBounds_toArray, List.set_cons_zero, List.set_cons_succ]
              refine take_at (i := 13) 53 (v := ?_) rfl rfl (by kernel_rfl) (by kernel_rfl) (by kernel_rfl) (fun _ _ _ h => h) (by rfl) ?_ hHeld ?_
              rotate_left
              · (intro w hSw; (try dsimp only at hSw); go_simp; try with_reducible rfl)
              simp only [Act.put, List.setIfInBounds_toArray, List.set_cons_zero, List.set_cons_succ]
              refine take_at (i := 14) 54 (v := ?_) rfl rfl (by kernel_rfl) (by kernel_rfl) (by kernel_rfl) (fun _ _ _ h => h) (by rfl) ?_ hHeld ?_
              rotate_left
              · (intro w hSw; (try dsimp only at hSw); go_simp; try with_reducible rfl)
              simp only [Act.put, List.setIfInBounds_toArray, List.set_cons_zero, List.set_cons_succ]
              refine run_at (i := 15) rfl (by kernel_rfl) (by rfl) (fun K hK => ?_)
              simp only [List.getElem_toArray, List.getElem_cons_zero, List.getElem_cons_succ]
              go_simp
              go_wp2_with fail
              refine hK.out _ _ (by exact trivial) ?_
              clear hK K
              intro hHeld2
              clear hHeld
              have hHeld := hHeld2
              clear hHeld2
              try simp only [Act.put, List.setIfInBounds_toArray, List.set_cons_zero, List.set_cons_succ]
              refine wpAnyH_done (by kernel_rfl) ?_ _
              refine NoPanic.normal ?_
            rotate_left 1
            refine AllReadyH.cons (o := _) rfl (fun K hK => ?_) AllReadyH.nil
            focus
              rw [if_pos (by rfl)]
              simp only [List.getElem_toArray, List.getElem_cons_zero, List.getElem_cons_succ]
              go_simp
              go_wp2_with fail
              refine hK.out _ _ (by exact trivial) ?_
              clear hK K
              intro hHeld2
              clear hHeld
              have hHeld := hHeld2
              clear hHeld2
              try simp only [Act.put, List.setIfInBounds_toArray, List.set_cons_zero, List.set_cons_succ]
              refine val_at (i := 4) 44 (v := ?_) rfl rfl (by kernel_rfl) (by rfl) ?_ ?_ ?_
              rotate_left
              · (go_simp; try with_reducible rfl)
              · (exact trivial)
              intro hHeld2
              clear hHeld
              have hHeld := hHeld2
              clear hHeld2
              simp only [Act.put, List.setIfInBounds_toArray, List.set_cons_zero, List.set_cons_succ]
              refine run_at (i := 12) rfl (by kernel_rfl) (by rfl) (fun K hK => ?_)
              simp only [List.getElem_toArray, List.getElem_cons_zero, List.getElem_cons_succ]
              first | (go_at_call 99; refine Calls.mono (HRR.out _ (HRS.out.below (Below.refl _ _).drew) (HROW.out.rdA.1.below (Below.refl _ _).drew) (fun z hz => by have h1 := (HROW.out.blk z hz).1; have h2 := HP.out; omega)) ?_; rintro er1 w5 ⟨rfl, hrs5, hg5⟩; have HRS5 : Hid (RS w5 p B v2 (mustF G t2)) := hrs5; have HG5 : Hid (wr.grownBy w5 (some p)) := grown_step (gr_below (World.grownBy.refl _ _) (Below.refl _ _).drew) hg5 (.inl rfl); have HR5 : Hid (UBx w5 g #[.int .i64 k, .int .u64 e, .int .u64 s, p0, i0, c0, d0, .int .i64 0, .slice a n c]) := gr_box HG5.out (by have := HP.out; omega) HR.out; clear c7 c8 z7 z8; obtain ⟨c7, c8, z7, z8⟩ := cells9 HR5.out; have hA8 := fun (ob : Obj) => ((al (Below.refl w5.heap.size w5) ob).cell (p := ⟨g, 8, none⟩) (World.block_lt_of_cell? _ _ c8)).trans c8; clear hrs5 hg5) | (refine wpo_appR1 _ _ rfl (g + 1) (.slice a n c) l n HN.out (A1, A2) w5.heap.size rfl ((HROW.out.grown HG5.out (by have := HP.out; omega)).below (al (Below.refl _ _) _)) rfl (heap_alloc_new w5 _) (by omega) (by have h1 := HG5.out.size; have h2 := HSZ.out; rw [heap_alloc_size1']; omega) ?_; intro g7 cap7 w7 hrow7 hg7 hwh7; obtain ⟨W6, hW6⟩ : ∃ W6 : World, W6 = w5.alloc (.cells #[.int .i64 A1, .int .i64 A2] 43 (0, 0)) := ⟨_, rfl⟩; rw [← hW6] at hg7; have hb56 : Below w5.heap.size w5 W6 := (by rw [hW6]; exact al (Below.refl _ _) _); have hob := HROW.out.blk; have HRS7 : Hid (RS w7 p B v2 (mustF G t2)) := (HRS5.out.below hb56).grownO hg7 (fun r hr => .inr (by have h1 := (own_blk hob r hr).1; have h2 := HP.out; omega)); have HR7 : Hid (UBx w7 g #[.int .i64 k, .int .u64 e, .int .u64 s, p0, i0, c0, d0, .int .i64 0, .slice a n c]) := gr_boxO hg7 (fun r hr => by have := (own_blk hob r hr).1; omega) ((hb56.block g (Array.getElem?_eq_some_iff.1 HR5.out).1).trans HR5.out); have HBW7 : Hid (Below W.heap.size W w7) := below_gr (below_next (below_gr HBW.out HG5.out (fun r hr => by cases hr; exact HP.out.1)) hb56) hg7 (fun r hr => by have h1 := (own_blk hob r hr).1; have h2 := HP.out; omega); clear c7 c8 z7 z8 hA8; obtain ⟨c7, c8, z7, z8⟩ := cells9 HR7.out; have HROW7 : Hid (OwnR w7 (g + 1) (.slice (some ⟨g7, 0, none⟩) (n + 1) cap7) (l ++ [(A1, A2)])) := hrow7; clear hrow7 hg7 hwh7 hW6 hb56 hob)
              refine hK.out _ _ (by exact trivial) ?_
              clear hK K
              intro hHeld2
              clear hHeld
              have hHeld := hHeld2
              clear hHeld2
              try simp only [Act.put, List.setIfInBounds_toArray, List.set_cons_zero, List.set_cons_succ]
              refine take_at (i := 13) 53 (v := ?_) rfl rfl (by kernel_rfl) (by kernel_rfl) (by kernel_rfl) (fun _ _ _ h => h) (by rfl) ?_ hHeld ?_
              rotate_left
              · (intro w hSw; (try dsimp only at hSw); go_simp; try with_reducible rfl)
              simp only [Act.put, List.setIfInBounds_toArray, List.set_cons_zero, List.set_cons_succ]
              refine take_at (i := 14) 54 (v := ?_) rfl rfl (by kernel_rfl) (by kernel_rfl) (by kernel_rfl) (fun _ _ _ h => h) (by rfl) ?_ hHeld ?_
              rotate_left
              · (intro w hSw; (try dsimp only at hSw); go_simp; try with_reducible rfl)
              simp only [Act.put, List.setIfInBounds_toArray, List.set_cons_zero, List.set_cons_succ]
              refine run_at (i := 15) rfl (by kernel_rfl) (by rfl) (fun K hK => ?_)
              simp only [List.getElem_toArray, List.getElem_cons_zero, List.getElem_cons_succ]
              go_simp
              go_wp2_with fail
              refine hK.out _ _ (by exact trivial) ?_
              clear hK K
              intro hHeld2
              clear hHeld
              have hHeld := hHeld2
              clear hHeld2
              try simp only [Act.put, List.setIfInBounds_toArray, List.set_cons_zero, List.set_cons_succ]
              refine wpAnyH_done (by kernel_rfl) ?_ _
              refine NoPanic.normal ?_
        all_goals
          have hlen : (l ++ [(A1, A2)]).length = n + 1 := by rw [List.length_append, ← HN.out]; rfl
          have HR8 : Hid (UBx (w7.setCell ⟨g, 8, none⟩ (.slice (some ⟨g7, 0, none⟩) (n + 1) cap7)) g #[.int .i64 k, .int .u64 e, .int .u64 s, p0, i0, c0, d0, .int .i64 0, .slice (some ⟨g7, 0, none⟩) (n + 1) cap7]) := by unfold Hid UBx; rw [heap_setCell_same w7 g 8 _ _ _ HR7.out]; rfl
          go_wp2
          go_roundw
          case rel =>
            have hgs := gset1 w7 g 8 (.slice (some ⟨g7, 0, none⟩) (n + 1) cap7)
            refine ⟨l ++ [(A1, A2)], some ⟨g7, 0, none⟩, cap7, v2, mustF G t2, ?_, ?_, HRS7.out.grown hgs (.inr HP.out.2), below_gr HBW7.out hgs (fun r hr => by cases hr; have := HP.out; omega), ?_, by rw [hlen]; omega, .inl H8.out, HGO2.out, (Array.getElem?_eq_some_iff.1 HR8.out).1⟩
            · rw [hlen]; exact HR8.out
            · rw [hlen]; exact HROW7.out.grown hgs (Nat.lt_succ_self _)
            · rw [hlen]; exact HBS2
          case measure =>
            have h1 : lenAt8 (w7.setCell ⟨g, 8, none⟩ (.slice (some ⟨g7, 0, none⟩) (n + 1) cap7)) g = n + 1 := by
              unfold lenAt8
              rw [World.cell?_setCell_same _ _ _ c8]
            rw [h1, HLA.out]
            omega
      · have hT : T = l ∧ y3 = y ∧ f3 = q := by
          have h1 := HBS.out
          rw [rgsS_bad _ _ _ hg0] at h1
          simp only [Prod.mk.injEq] at h1
          exact ⟨h1.1.symm, h1.2.1.symm, h1.2.2.symm⟩
        obtain ⟨rfl, rfl, rfl⟩ := hT
        have hq0 : (f3 == 0) = false := by simpa using hg0
        clear HBS h8
        go_wp2_with fail
        refine Calls.mono (err_t wr HRS.out) ?_
        rintro er1 u ⟨rfl, hu⟩
        rw [hu]
        clear hu u
        go_wp2
        go_end0
        exact ⟨a, c, rfl, HRS.out, by rw [← HN.out]; exact HR.out, by rw [← HN.out]; exact HROW.out, HBW.out⟩
    · have hT : T = l ∧ y3 = y ∧ f3 = q := by
        have h1 := HBS.out
        rw [← HN.out, show n2 - n = 0 by omega] at h1
        unfold rgsS at h1
        simp only [Prod.mk.injEq] at h1
        exact ⟨h1.1.symm, h1.2.1.symm, h1.2.2.symm⟩
      obtain ⟨rfl, rfl, rfl⟩ := hT
      have hlcI : ¬ (n : Int) < (n2 : Int) := by omega
      clear HBS h8
      go_wp2
      go_end0
      have hu9 : UBx wr g #[.int .i64 k, .int .u64 e, .int .u64 s, p0, i0, c0, d0, .int .i64 0, .slice a T.length c] := by rw [← HN.out]; exact HR.out
      have ho9 : OwnR wr (g + 1) (.slice a T.length c) T := by rw [← HN.out]; exact HROW.out
      first
        | exact ⟨a, c, rfl, HRS.out, hu9, ho9, HBW.out⟩
        | exact ⟨rfl, HRS.out, a, c, hu9, ho9, HBW.out⟩
        | exact ⟨rfl, HRS.out, ⟨a, c, hu9, ho9⟩, HBW.out⟩
        | exact ⟨rfl, HRS.out, ⟨a, ⟨c, hu9, ho9⟩⟩, HBW.out⟩
end
end Go.Proofs.YtplncfahpdmcoaaGreatDoor
