import Derived.Test.YtnpcgegcoakbmaaDoorLEb
import Derived.Test.YtnpcgegcoakbmaaDoorRegn
namespace Go.Proofs.YtnpcgegcoakbmaaDoor
set_option linter.unusedVariables false
set_option linter.unusedSimpArgs false
open Go.RowKit
theorem m4_at (xs : List UInt8) (k : Nat) (h : k < 4) (h2 : xs.length + k < (xs ++ m4).length) : (xs ++ m4)[xs.length + k] = 201 := by
  rw [List.getElem_append_right (by omega)]
  simp only [Nat.add_sub_cancel_left]
  match k, h with
  | 0, _ => rfl
  | 1, _ => rfl
  | 2, _ => rfl
  | 3, _ => rfl
set_option maxRecDepth 20000 in
set_option maxHeartbeats 800000 in
theorem stays_t (g : Nat) (bo : Option Addr) (cap' : Nat) (xs : List UInt8) (w : World) (hy : Rd w (some ⟨g, 0, none⟩) (xs ++ m4)) (hx : Rd w bo xs) (hl : xs.length ≤ 140737488351232) :
    Calls Tryd.prog 34 #[.slice (some ⟨g, 0, none⟩) xs.length (xs.length + 4), .slice bo xs.length cap'] w fun e w' => e = .returned (.bool true) ∧ Below w.heap.size w w' := by
  obtain ⟨M, hM⟩ : ∃ M : Nat, M = xs.length + 4 := ⟨_, rfl⟩
  rw [← hM]
  have hcs := fun (u : World) (hu : Below w.heap.size w u) => conv_rd' (n := xs.length) (cap := M) (((Rd.take hy xs.length).below hu)) (by simp)
  rw [List.take_left' rfl] at hcs
  have hcv := fun (u : World) (hu : Below w.heap.size w u) => conv_rd' (n := xs.length) (cap := cap') (hx.below hu) rfl
  have HM : Hid (M = xs.length + 4) := hM
  have hMw : IntKind.i64.wrap ((xs.length : Int) + 4) = (M : Int) := by rw [IntKind.wrap_i64]; omega
  have hML : xs.length ≤ M := by omega
  have hMb : M ≤ 140737488355328 := by omega
  have hc1 : (xs.length : Int) ≤ (M : Int) := by omega
  have hc1a : ¬ M = xs.length := by omega
  clear hM
  go_enter Tryd.func34, Tryd.ntmps34
  go_wp2
  go_loop [6] (fun i => ∃ k : Nat, k ≤ 4 ∧ i = .int .i64 (xs.length + k : Nat)) (fun i => xs.length + 4 - (intOf i).toNat)
  case atStart => exact ⟨0, by omega, rfl⟩
  case round =>
    obtain ⟨k, hk, rfl⟩ := hrel
    by_cases hlt : k < 4
    · have hlen : (xs ++ m4).length = xs.length + 4 := by simp [m4]
      obtain ⟨b, o, e, hc⟩ := hy (by omega)
      have hlt2 : xs.length + k < (xs ++ m4).length := by omega
      have hcell := hc (xs.length + k) hlt2
      cases e
      rw [m4_at xs k hlt hlt2] at hcell
      have hlt3 : xs.length + k < M := by have := HM.out; omega
      rw [Nat.zero_add] at hcell
      clear hlen hlt2 hc
      go_wp2
      go_round
      case rel => exact ⟨k + 1, by omega, by go_num⟩
      case measure => simp [intOf]; omega
    · obtain rfl : k = 4 := by omega
      have hMm := HM.out
      rw [← hMm]
      clear hMm
      have hself := hcs w (Below.refl _ _)
      have hself2 := hcv w (Below.refl _ _)
      go_wp2_with fail
      refine wp_region_noPanic ?_
      refine wp_region_held_drew (S := (fun u => Below w.heap.size w u)) (by kernel_rfl) (by first | exact (Below.refl _ _).drew | assumption) (fun hHeld => ?_)
      refine take_at (i := 0) 25 (v := ?_) rfl rfl (by kernel_rfl) (by kernel_rfl) (by kernel_rfl) (fun _ _ _ h => h) (by rfl) ?_ hHeld ?_
      rotate_left
      · (intro w hSw; (try dsimp only at hSw); go_simp; try with_reducible rfl)
      simp only [Act.put, List.setIfInBounds_toArray, List.set_cons_zero, List.set_cons_succ]
      refine take_at (i := 1) 26 (v := ?_) rfl rfl (by kernel_rfl) (by kernel_rfl) (by kernel_rfl) (fun _ _ _ h => h) (by rfl) ?_ hHeld ?_
      rotate_left
      · (intro w hSw; (try dsimp only at hSw); go_simp; try with_reducible rfl)
      simp only [Act.put, List.setIfInBounds_toArray, List.set_cons_zero, List.set_cons_succ]
      refine take_at (i := 2) 27 (v := ?_) rfl rfl (by kernel_rfl) (by kernel_rfl) (by kernel_rfl) (fun _ _ _ h => h) (by rfl) ?_ hHeld ?_
      rotate_left
      · (intro w hSw; (try dsimp only at hSw); go_simp; try with_reducible rfl)
      simp only [Act.put, List.setIfInBounds_toArray, List.set_cons_zero, List.set_cons_succ]
      refine take_at (i := 3) 28 (v := ?_) rfl rfl (by kernel_rfl) (by kernel_rfl) (by kernel_rfl) (fun _ _ _ h => h) (by rfl) ?_ hHeld ?_
      rotate_left
      · (intro w hSw; (try dsimp only at hSw); go_simp; try with_reducible rfl)
      simp only [Act.put, List.setIfInBounds_toArray, List.set_cons_zero, List.set_cons_succ]
      refine take_at (i := 4) 29 (v := ?_) rfl rfl (by kernel_rfl) (by kernel_rfl) (by kernel_rfl) (fun _ _ _ h => h) (by rfl) ?_ hHeld ?_
      rotate_left
      · (intro w hSw; (try dsimp only at hSw); go_simp; try with_reducible rfl)
      simp only [Act.put, List.setIfInBounds_toArray, List.set_cons_zero, List.set_cons_succ]
      refine take_at (i := 5) 30 (v := ?_) rfl rfl (by kernel_rfl) (by kernel_rfl) (by kernel_rfl) (fun _ _ _ h => h) (by rfl) ?_ hHeld ?_
      rotate_left
      · (intro w hSw; (try dsimp only at hSw); go_simp; try with_reducible rfl)
      simp only [Act.put, List.setIfInBounds_toArray, List.set_cons_zero, List.set_cons_succ]
      refine take_at (i := 6) 31 (v := ?_) rfl rfl (by kernel_rfl) (by kernel_rfl) (by kernel_rfl) (fun _ _ _ h => h) (by rfl) ?_ hHeld ?_
      rotate_left
      · (intro w hSw; (try dsimp only at hSw); go_simp; try with_reducible rfl)
      simp only [Act.put, List.setIfInBounds_toArray, List.set_cons_zero, List.set_cons_succ]
      refine take_at (i := 7) 32 (v := ?_) rfl rfl (by kernel_rfl) (by kernel_rfl) (by kernel_rfl) (fun _ _ _ h => h) (by rfl) ?_ hHeld ?_
      rotate_left
      · (intro w hSw; (try dsimp only at hSw); go_simp; try with_reducible rfl)
      simp only [Act.put, List.setIfInBounds_toArray, List.set_cons_zero, List.set_cons_succ]
      refine take_at (i := 8) 4 (v := ?_) rfl rfl (by kernel_rfl) (by kernel_rfl) (by kernel_rfl) (fun _ _ _ h => h) (by rfl) ?_ hHeld ?_
      rotate_left
      · (intro w hSw; (try dsimp only at hSw); go_simp; try with_reducible rfl)
      simp only [Act.put, List.setIfInBounds_toArray, List.set_cons_zero, List.set_cons_succ]
      refine wpAnyH_done (by kernel_rfl) ?_ _
      refine NoPanic.normal ?_
      all_goals go_wp2
      all_goals go_ret
      all_goals exact ⟨rfl, (by first | exact (Below.refl _ _).drew | assumption)⟩
end Go.Proofs.YtnpcgegcoakbmaaDoor
