import Derived.Test.YtinphflminaijacDoorRefSeal
import Derived.Test.YtinphflminaijacDoorUnsP
import Derived.Test.YtinphflminaijacDoorUnseal
namespace Go.Proofs.YtinphflminaijacDoor
set_option linter.unusedVariables false
set_option linter.unusedSimpArgs false
open Go.RowKit
theorem refseal_n (ao : Option Addr) (n cap : Nat) (xs : List UInt8) (hn : n = xs.length) (w : World) (hx : Rd w ao xs) (hl : n ≤ 140737488355328) :
    Calls Tryd.prog 32 #[.slice ao n cap] w fun e w' => e = .returned (.slice (some ⟨w.heap.size, 0, none⟩) 4 4) ∧ Own w' w.heap.size (.slice (some ⟨w.heap.size, 0, none⟩) 4 4) (sealL xs) ∧ Below w.heap.size w w' ∧ w.heap.size < w'.heap.size := by subst hn; exact refseal_any ao cap xs w hx hl
set_option maxRecDepth 20000 in
set_option maxHeartbeats 800000 in
theorem refUnseal_n (ao : Option Addr) (l cap : Nat) (xs : List UInt8) (hl0 : l = xs.length) (w : World) (hx : Rd w ao xs) (hlc : l ≤ cap) (hcm : cap ≤ 9223372036854775807) (hl : l ≤ 140737488355328) :
    Calls Tryd.prog 27 #[.slice ao l cap] w fun e w' => ∃ v, e = .returned (.tuple #[v, .int .i64 ((unS xs).2 : Nat)]) ∧ Own w' w.heap.size v (unS xs).1 ∧ Below w.heap.size w w' := by
  subst hl0
  by_cases h4 : xs.length < 4
  · have HU : Hid (unS xs = ([], 10)) := by unfold Hid unS; rw [if_pos h4]
    have h4I : (xs.length : Int) - 4 < 0 := by omega
    go_enter Tryd.func27, Tryd.ntmps27
    go_wp2
    go_ret2
    rw [HU.out]
    exact ⟨_, rfl, World.ownsRow_nil _ _ _ _, Below.refl _ _⟩
  · obtain ⟨b, o, rfl, -⟩ := hx (by omega)
    obtain ⟨m, hm⟩ : ∃ m : Nat, m = xs.length - 4 := ⟨_, rfl⟩
    have hmI : (xs.length : Int) - 4 = (m : Int) := by omega
    have HU : Hid (unS xs = if xs.drop m = sealL (xs.take m) then (xs.take m, 0) else ([], 13)) := by
      unfold Hid unS; rw [if_neg h4, ← hm]
    have hrt := hx.take m
    have hrd := hx.drop m
    have HTL : Hid (m = (xs.take m).length) := by unfold Hid; simp; omega
    have hmk : m < cap := by omega
    have hmk1 : ¬ cap = m := by omega
    have hmk2 : m ≤ cap := by omega
    have hcI : (m : Int) ≤ (xs.length : Int) := by omega
    have hcI2 : (xs.length : Int) ≤ (cap : Int) := by omega
    have hcv : ∀ u, Below w.heap.size w u → (convert 25 9 (.slice (some ⟨b, o + m, none⟩) (xs.length - m) (cap - m))).run Tryd.prog u = .ok (.string ⟨(xs.drop m).toArray⟩) u := fun u hu => conv_rd' (hrd.below hu) _ _ (by rw [List.length_drop])
    clear h4 hm
    by_cases he : xs.drop m = sealL (xs.take m)
    · have HU2 : Hid (unS xs = (xs.take m, 0)) := by unfold Hid; rw [HU.out, if_pos he]
      have hbt : (sealL (xs.take m) == xs.drop m) = true := by rw [he]; exact beq_self_eq_true _
      clear HU he
      go_enter Tryd.func27, Tryd.ntmps27
      go_wp2_with fail
      refine wp_region_noPanic ?_
      refine wp_region_held_drew (S := (fun u => Below w.heap.size w u)) (by kernel_rfl) (by first | exact (Below.refl _ _).drew | assumption) (fun hHeld => ?_)
      refine take_at (i := 0) 10 (v := ?_) rfl rfl (by kernel_rfl) (by kernel_rfl) (by kernel_rfl) (fun _ _ _ h => h) (by rfl) ?_ hHeld ?_
      rotate_left
      · (intro w hSw; (try dsimp only at hSw); go_simp; try with_reducible rfl)
      simp only [Act.put, List.setIfInBounds_toArray, List.set_cons_zero, List.set_cons_succ]
      refine take_at (i := 1) 11 (v := ?_) rfl rfl (by kernel_rfl) (by kernel_rfl) (by kernel_rfl) (fun _ _ _ h => h) (by rfl) ?_ hHeld ?_
      rotate_left
      · (intro w hSw; (try dsimp only at hSw); go_simp; try with_reducible rfl)
      simp only [Act.put, List.setIfInBounds_toArray, List.set_cons_zero, List.set_cons_succ]
      refine take_at (i := 2) 12 (v := ?_) rfl rfl (by kernel_rfl) (by kernel_rfl) (by kernel_rfl) (fun _ _ _ h => h) (by rfl) ?_ hHeld ?_
      rotate_left
      · (intro w hSw; (try dsimp only at hSw); go_simp; try with_reducible rfl)
      simp only [Act.put, List.setIfInBounds_toArray, List.set_cons_zero, List.set_cons_succ]
      refine take_at (i := 5) 15 (v := ?_) rfl rfl (by kernel_rfl) (by kernel_rfl) (by kernel_rfl) (fun _ _ _ h => h) (by rfl) ?_ hHeld ?_
      rotate_left
      · (intro w hSw; (try dsimp only at hSw); go_simp; try with_reducible rfl)
      simp only [Act.put, List.setIfInBounds_toArray, List.set_cons_zero, List.set_cons_succ]
      refine take_at (i := 6) 16 (v := ?_) rfl rfl (by kernel_rfl) (by kernel_rfl) (by kernel_rfl) (fun _ _ _ h => h) (by rfl) ?_ hHeld ?_
      rotate_left
      · (intro w hSw; (try dsimp only at hSw); go_simp; try with_reducible rfl)
      simp only [Act.put, List.setIfInBounds_toArray, List.set_cons_zero, List.set_cons_succ]
      refine take_at (i := 7) 17 (v := ?_) rfl rfl (by kernel_rfl) (by kernel_rfl) (by kernel_rfl) (fun _ _ _ h => h) (by rfl) ?_ hHeld ?_
      rotate_left
      · (intro w hSw; (try dsimp only at hSw); go_simp; try with_reducible rfl)
      simp only [Act.put, List.setIfInBounds_toArray, List.set_cons_zero, List.set_cons_succ]
      refine take_at (i := 8) 18 (v := ?_) rfl rfl (by kernel_rfl) (by kernel_rfl) (by kernel_rfl) (fun _ _ _ h => h) (by rfl) ?_ hHeld ?_
      rotate_left
      · (intro w hSw; (try dsimp only at hSw); go_simp; try with_reducible rfl)
      simp only [Act.put, List.setIfInBounds_toArray, List.set_cons_zero, List.set_cons_succ]
      refine run_at (i := 3) rfl (by kernel_rfl) (by rfl) (fun K hK => ?_)
      simp only [List.getElem_toArray, List.getElem_cons_zero, List.getElem_cons_succ]
      go_simp
      first | (go_at_call 32; refine (refseal_n _ _ cap (xs.take m) HTL.out _ (hrt.below (by first | exact (Below.refl _ _).drew | assumption)) (by omega)).mono ?_; rintro e w1 ⟨rfl, hown1, hb1, hs1⟩; have hS1 := below_next (B := w) (by first | exact (Below.refl _ _).drew | assumption) hb1; have hcv1 : (convert 25 9 (.slice (some ⟨w.heap.size, 0, none⟩) 4 4)).run Tryd.prog w1 = .ok (.string ⟨(sealL (xs.take m)).toArray⟩) w1 := conv_rd' (Rd.of_own hown1) 4 4 rfl)
      go_wp2_with fail
      refine hK.out _ _ (by first | exact (Below.refl _ _).drew | assumption) ?_
      clear hK K
      intro hHeld2
      clear hHeld
      have hHeld := hHeld2
      clear hHeld2
      try simp only [Act.put, List.setIfInBounds_toArray, List.set_cons_zero, List.set_cons_succ]
      refine val_at (i := 4) 14 (v := ?_) rfl rfl (by kernel_rfl) (by rfl) ?_ ?_ ?_
      rotate_left
      · (go_simp; try with_reducible rfl)
      · (first | exact (Below.refl _ _).drew | assumption)
      intro hHeld2
      clear hHeld
      have hHeld := hHeld2
      clear hHeld2
      simp only [Act.put, List.setIfInBounds_toArray, List.set_cons_zero, List.set_cons_succ]
      refine take_at (i := 9) 19 (v := ?_) rfl rfl (by kernel_rfl) (by kernel_rfl) (by kernel_rfl) (fun _ _ _ h => h) (by rfl) ?_ hHeld ?_
      rotate_left
      · (intro w hSw; (try dsimp only at hSw); go_simp; try with_reducible rfl)
      simp only [Act.put, List.setIfInBounds_toArray, List.set_cons_zero, List.set_cons_succ]
      refine wpAnyH_done (by kernel_rfl) ?_ _
      refine NoPanic.normal ?_
      have h0 : Own w1 w1.heap.size (.slice none 0 0) [] := World.ownsRow_nil _ _ _ _
      go_wp2_with (at_builtin; refine wp_app rfl _ _ rfl w1.heap.size (.slice none 0 0) [] (xs.take m) (some ⟨b, o, none⟩) cap rfl h0 (by rw [← HTL.out]; rfl) (hrt.below hS1) (fun h => by cases h) (by rw [← HTL.out]; simp; omega) (Nat.le_refl _) ?_; intro v2 w2 hown2 hg2)
      go_ret2
      rw [HU2.out]
      exact ⟨_, rfl, hown2.base hS1.size, hS1.grown hg2 hS1.size (fun k hk => by cases hk)⟩
    · have HU2 : Hid (unS xs = ([], 13)) := by unfold Hid; rw [HU.out, if_neg he]
      have hbt : (sealL (xs.take m) == xs.drop m) = false := by rw [beq_eq_false_iff_ne]; exact fun h => he h.symm
      clear HU he
      go_enter Tryd.func27, Tryd.ntmps27
      go_wp2_with fail
      refine wp_region_noPanic ?_
      refine wp_region_held_drew (S := (fun u => Below w.heap.size w u)) (by kernel_rfl) (by first | exact (Below.refl _ _).drew | assumption) (fun hHeld => ?_)
      refine take_at (i := 0) 10 (v := ?_) rfl rfl (by kernel_rfl) (by kernel_rfl) (by kernel_rfl) (fun _ _ _ h => h) (by rfl) ?_ hHeld ?_
      rotate_left
      · (intro w hSw; (try dsimp only at hSw); go_simp; try with_reducible rfl)
      simp only [Act.put, List.setIfInBounds_toArray, List.set_cons_zero, List.set_cons_succ]
      refine take_at (i := 1) 11 (v := ?_) rfl rfl (by kernel_rfl) (by kernel_rfl) (by kernel_rfl) (fun _ _ _ h => h) (by rfl) ?_ hHeld ?_
      rotate_left
      · (intro w hSw; (try dsimp only at hSw); go_simp; try with_reducible rfl)
      simp only [Act.put, List.setIfInBounds_toArray, List.set_cons_zero, List.set_cons_succ]
      refine take_at (i := 2) 12 (v := ?_) rfl rfl (by kernel_rfl) (by kernel_rfl) (by kernel_rfl) (fun _ _ _ h => h) (by rfl) ?_ hHeld ?_
      rotate_left
      · (intro w hSw; (try dsimp only at hSw); go_simp; try with_reducible rfl)
      simp only [Act.put, List.setIfInBounds_toArray, List.set_cons_zero, List.set_cons_succ]
      refine take_at (i := 5) 15 (v := ?_) rfl rfl (by kernel_rfl) (by kernel_rfl) (by kernel_rfl) (fun _ _ _ h => h) (by rfl) ?_ hHeld ?_
      rotate_left
      · (intro w hSw; (try dsimp only at hSw); go_simp; try with_reducible rfl)
      simp only [Act.put, List.setIfInBounds_toArray, List.set_cons_zero, List.set_cons_succ]
      refine take_at (i := 6) 16 (v := ?_) rfl rfl (by kernel_rfl) (by kernel_rfl) (by kernel_rfl) (fun _ _ _ h => h) (by rfl) ?_ hHeld ?_
      rotate_left
      · (intro w hSw; (try dsimp only at hSw); go_simp; try with_reducible rfl)
      simp only [Act.put, List.setIfInBounds_toArray, List.set_cons_zero, List.set_cons_succ]
      refine take_at (i := 7) 17 (v := ?_) rfl rfl (by kernel_rfl) (by kernel_rfl) (by kernel_rfl) (fun _ _ _ h => h) (by rfl) ?_ hHeld ?_
      rotate_left
      · (intro w hSw; (try dsimp only at hSw); go_simp; try with_reducible rfl)
      simp only [Act.put, List.setIfInBounds_toArray, List.set_cons_zero, List.set_cons_succ]
      refine take_at (i := 8) 18 (v := ?_) rfl rfl (by kernel_rfl) (by kernel_rfl) (by kernel_rfl) (fun _ _ _ h => h) (by rfl) ?_ hHeld ?_
      rotate_left
      · (intro w hSw; (try dsimp only at hSw); go_simp; try with_reducible rfl)
      simp only [Act.put, List.setIfInBounds_toArray, List.set_cons_zero, List.set_cons_succ]
      refine run_at (i := 3) rfl (by kernel_rfl) (by rfl) (fun K hK => ?_)
      simp only [List.getElem_toArray, List.getElem_cons_zero, List.getElem_cons_succ]
      go_simp
      first | (go_at_call 32; refine (refseal_n _ _ cap (xs.take m) HTL.out _ (hrt.below (by first | exact (Below.refl _ _).drew | assumption)) (by omega)).mono ?_; rintro e w1 ⟨rfl, hown1, hb1, hs1⟩; have hS1 := below_next (B := w) (by first | exact (Below.refl _ _).drew | assumption) hb1; have hcv1 : (convert 25 9 (.slice (some ⟨w.heap.size, 0, none⟩) 4 4)).run Tryd.prog w1 = .ok (.string ⟨(sealL (xs.take m)).toArray⟩) w1 := conv_rd' (Rd.of_own hown1) 4 4 rfl)
      go_wp2_with fail
      refine hK.out _ _ (by first | exact (Below.refl _ _).drew | assumption) ?_
      clear hK K
      intro hHeld2
      clear hHeld
      have hHeld := hHeld2
      clear hHeld2
      try simp only [Act.put, List.setIfInBounds_toArray, List.set_cons_zero, List.set_cons_succ]
      refine val_at (i := 4) 14 (v := ?_) rfl rfl (by kernel_rfl) (by rfl) ?_ ?_ ?_
      rotate_left
      · (go_simp; try with_reducible rfl)
      · (first | exact (Below.refl _ _).drew | assumption)
      intro hHeld2
      clear hHeld
      have hHeld := hHeld2
      clear hHeld2
      simp only [Act.put, List.setIfInBounds_toArray, List.set_cons_zero, List.set_cons_succ]
      refine take_at (i := 9) 19 (v := ?_) rfl rfl (by kernel_rfl) (by kernel_rfl) (by kernel_rfl) (fun _ _ _ h => h) (by rfl) ?_ hHeld ?_
      rotate_left
      · (intro w hSw; (try dsimp only at hSw); go_simp; try with_reducible rfl)
      simp only [Act.put, List.setIfInBounds_toArray, List.set_cons_zero, List.set_cons_succ]
      refine wpAnyH_done (by kernel_rfl) ?_ _
      refine NoPanic.normal ?_
      go_wp2
      go_ret2
      rw [HU2.out]
      exact ⟨_, rfl, World.ownsRow_nil _ _ _ _, hS1⟩
end Go.Proofs.YtinphflminaijacDoor
