import Derived.Test.YtdpkommmkcmifaaWr
import Derived.Test.YtdpkommmkcmifaaRRdr
import Derived.Test.YtdpkommmkcmifaaAppB
namespace Go.Proofs.Ytdpkommmkcmifaa
set_option linter.unusedVariables false
set_option linter.unusedSimpArgs false
open Go.RowKit
/-- the document's Reader, all its memory from block B on -/
def DS (w : World) (q B : Nat) (ys : List UInt8) (f : Int) : Prop := ∃ D ao cap, RefAt w q D ao cap ys f ∧ B ≤ q ∧ ∀ d, D = some d → B ≤ d
theorem newD_s (ao : Option Addr) (cap : Nat) (xs : List UInt8) (w : World) (hx : Rd w ao xs) (hnil : ao = none → cap = 0) (hl : xs.length ≤ 140737488355328) :
    Calls Try.prog 39 #[.slice ao xs.length cap] w fun e w' => ∃ q, e = .returned (.pointer (some ⟨q, 0, none⟩)) ∧ DS w' q w.heap.size xs 0 ∧ Below w.heap.size w w' := by
  refine (new_d ao cap xs w hx hnil hl).mono ?_
  rintro e w' ⟨q, D, ao', cap', rfl, h1, h2, h3, h4⟩
  exact ⟨q, rfl, ⟨D, ao', cap', h1, h3, fun d hd => (h4 d hd).1⟩, h2⟩
theorem numberD_s {q B : Nat} {ys : List UInt8} {f : Int} (m : Nat) (w : World) (h : DS w q B ys f) :
    Calls Try.prog 42 #[.pointer (some ⟨q, 0, none⟩), .int .u64 m] w fun e w' => e = .returned (.int .u64 ((rNum m ys f).1 : Nat)) ∧ DS w' q B (ys.drop (rNum m ys f).2.1) (rNum m ys f).2.2 ∧ w.grownBy w' (some q) := by
  obtain ⟨D, ao, cap, h1, h2, h3⟩ := h
  refine (number_d m w h1).mono ?_
  rintro e w' ⟨rfl, ⟨ao', cap', k1⟩, k2⟩
  exact ⟨rfl, ⟨D, ao', cap', k1, h2, h3⟩, k2⟩
theorem DS.ge {w : World} {q B : Nat} {ys : List UInt8} {f : Int} (h : DS w q B ys f) : B ≤ q := by obtain ⟨_, _, _, _, h3, _⟩ := h; exact h3
/-- just one number -/
def oneS (xs : List UInt8) : Nat × Bool := ((rNum 281474976710655 xs 0).1, (rNum 281474976710655 xs 0).2.2 == 0 && (xs.drop (rNum 281474976710655 xs 0).2.1).length == 0)
/-- just two -/
def twoS (xs : List UInt8) : Nat × Nat × Bool := ((eidS xs 0).1, (eidS xs 0).2.1, (eidS xs 0).2.2.2 == 0 && (xs.drop (eidS xs 0).2.2.1).length == 0)
set_option maxRecDepth 20000 in
set_option maxHeartbeats 1600000 in
theorem two_d (ao : Option Addr) (cap : Nat) (xs : List UInt8) (w : World) (hx : Rd w ao xs) (hnil : ao = none → cap = 0) (hl : xs.length ≤ 140737488355328) :
    Calls Try.prog 80 #[.slice ao xs.length cap] w fun e w' => e = .returned (.tuple #[.int .u64 ((twoS xs).1 : Nat), .int .u64 ((twoS xs).2.1 : Nat), .bool (twoS xs).2.2]) ∧ Below w.heap.size w w' := by
  have HN : Hid (ao = none → cap = 0) := hnil
  clear hnil
  go_enter Try.func80, Try.ntmps80
  go_wp2_with fail
  refine (newD_s ao cap xs w hx HN.out hl).mono ?_
  rintro e w1 ⟨q, rfl, hrs1, hb1⟩
  have hql := hrs1.ge
  go_wp2_with fail
  refine (numberD_s 281474976710655 w1 hrs1).mono ?_
  rintro e w2 ⟨rfl, hrs2, hg2⟩
  have hbw2 : Below w.heap.size w w2 := hb1.grown hg2 hb1.size (fun j hj => by cases hj; omega)
  obtain ⟨n, hn⟩ : ∃ n, n = (rNum 281474976710655 xs 0).1 := ⟨_, rfl⟩
  obtain ⟨k, hk⟩ : ∃ n, n = (rNum 281474976710655 xs 0).2.1 := ⟨_, rfl⟩
  obtain ⟨f, hf⟩ : ∃ n, n = (rNum 281474976710655 xs 0).2.2 := ⟨_, rfl⟩
  obtain ⟨ys, hys⟩ : ∃ ys, ys = xs.drop k := ⟨_, rfl⟩
  have HA : Hid (twoS xs = (n, (rNum 281474976710655 ys f).1, (rNum 281474976710655 ys f).2.2 == 0 && (ys.drop (rNum 281474976710655 ys f).2.1).length == 0)) := by
    unfold Hid twoS eidS
    simp only
    rw [← List.drop_drop, ← hk, ← hys, ← hf, ← hn]
  rw [← hn]
  rw [← hk, ← hf, ← hys] at hrs2
  clear hn hk hf hys
  go_wp2_with fail
  refine (numberD_s 281474976710655 w2 hrs2).mono ?_
  rintro e w3 ⟨rfl, hrs3, hg3⟩
  have hbw3 : Below w.heap.size w w3 := hbw2.grown hg3 hbw2.size (fun j hj => by cases hj; omega)
  obtain ⟨n2, hn⟩ : ∃ n, n = (rNum 281474976710655 ys f).1 := ⟨_, rfl⟩
  obtain ⟨k2, hk⟩ : ∃ n, n = (rNum 281474976710655 ys f).2.1 := ⟨_, rfl⟩
  obtain ⟨f3, hf⟩ : ∃ n, n = (rNum 281474976710655 ys f).2.2 := ⟨_, rfl⟩
  obtain ⟨zs, hzs⟩ : ∃ zs, zs = ys.drop k2 := ⟨_, rfl⟩
  rw [← hn]
  rw [← hk, ← hf, ← hzs] at hrs3
  rw [← hn, ← hk, ← hf, ← hzs] at HA
  clear hn hk hf hzs
  obtain ⟨D, ao', cap', hra, -, -⟩ := hrs3
  have c0u := fun (u : World) (hu : Below w3.heap.size w3 u) => cell_on hu hra.c0
  have c1u := fun (u : World) (hu : Below w3.heap.size w3 u) => cell_on hu hra.c1
  have hself := Below.refl w3.heap.size w3
  clear hra
  by_cases hf0 : f3 = 0
  · subst hf0
    by_cases hz : zs.length = 0
    · have HV : Hid ((((0 : Int) == 0) && zs.length == 0) = true) := by unfold Hid; simp [hz]
      rw [HV.out] at HA
      go_wp2_with fail
      refine wp_region_noPanic ?_
      refine wp_region_held_drew (S := (fun u => Below w3.heap.size w3 u)) (by kernel_rfl) (by first | exact (Below.refl _ _).drew | assumption) (fun hHeld => ?_)
      refine take_at (i := 0) 14 (v := ?_) rfl rfl (by kernel_rfl) (by kernel_rfl) (by kernel_rfl) (fun _ _ _ h => h) (by rfl) ?_ hHeld ?_
      rotate_left
      · (intro w hSw; (try dsimp only at hSw); go_simp; try with_reducible rfl)
      simp only [Act.put, List.setIfInBounds_toArray, List.set_cons_zero, List.set_cons_succ]
      refine take_at (i := 1) 15 (v := ?_) rfl rfl (by kernel_rfl) (by kernel_rfl) (by kernel_rfl) (fun _ _ _ h => h) (by rfl) ?_ hHeld ?_
      rotate_left
      · (intro w hSw; (try dsimp only at hSw); go_simp; try with_reducible rfl)
      simp only [Act.put, List.setIfInBounds_toArray, List.set_cons_zero, List.set_cons_succ]
      refine take_at (i := 2) 16 (v := ?_) rfl rfl (by kernel_rfl) (by kernel_rfl) (by kernel_rfl) (fun _ _ _ h => h) (by rfl) ?_ hHeld ?_
      rotate_left
      · (intro w hSw; (try dsimp only at hSw); go_simp; try with_reducible rfl)
      simp only [Act.put, List.setIfInBounds_toArray, List.set_cons_zero, List.set_cons_succ]
      refine take_at (i := 3) 17 (v := ?_) rfl rfl (by kernel_rfl) (by kernel_rfl) (by kernel_rfl) (fun _ _ _ h => h) (by rfl) ?_ hHeld ?_
      rotate_left
      · (intro w hSw; (try dsimp only at hSw); go_simp; try with_reducible rfl)
      simp only [Act.put, List.setIfInBounds_toArray, List.set_cons_zero, List.set_cons_succ]
      refine take_at (i := 4) 18 (v := ?_) rfl rfl (by kernel_rfl) (by kernel_rfl) (by kernel_rfl) (fun _ _ _ h => h) (by rfl) ?_ hHeld ?_
      rotate_left
      · (intro w hSw; (try dsimp only at hSw); go_simp; try with_reducible rfl)
      simp only [Act.put, List.setIfInBounds_toArray, List.set_cons_zero, List.set_cons_succ]
      refine take_at (i := 5) 19 (v := ?_) rfl rfl (by kernel_rfl) (by kernel_rfl) (by kernel_rfl) (fun _ _ _ h => h) (by rfl) ?_ hHeld ?_
      rotate_left
      · (intro w hSw; (try dsimp only at hSw); go_simp; try with_reducible rfl)
      simp only [Act.put, List.setIfInBounds_toArray, List.set_cons_zero, List.set_cons_succ]
      refine take_at (i := 6) 20 (v := ?_) rfl rfl (by kernel_rfl) (by kernel_rfl) (by kernel_rfl) (fun _ _ _ h => h) (by rfl) ?_ hHeld ?_
      rotate_left
      · (intro w hSw; (try dsimp only at hSw); go_simp; try with_reducible rfl)
      simp only [Act.put, List.setIfInBounds_toArray, List.set_cons_zero, List.set_cons_succ]
      refine take_at (i := 7) 21 (v := ?_) rfl rfl (by kernel_rfl) (by kernel_rfl) (by kernel_rfl) (fun _ _ _ h => h) (by rfl) ?_ hHeld ?_
      rotate_left
      · (intro w hSw; (try dsimp only at hSw); go_simp; try with_reducible rfl)
      simp only [Act.put, List.setIfInBounds_toArray, List.set_cons_zero, List.set_cons_succ]
      refine take_at (i := 8) 22 (v := ?_) rfl rfl (by kernel_rfl) (by kernel_rfl) (by kernel_rfl) (fun _ _ _ h => h) (by rfl) ?_ hHeld ?_
      rotate_left
      · (intro w hSw; (try dsimp only at hSw); go_simp; try with_reducible rfl)
      simp only [Act.put, List.setIfInBounds_toArray, List.set_cons_zero, List.set_cons_succ]
      refine take_at (i := 9) 23 (v := ?_) rfl rfl (by kernel_rfl) (by kernel_rfl) (by kernel_rfl) (fun _ _ _ h => h) (by rfl) ?_ hHeld ?_
      rotate_left
      · (intro w hSw; (try dsimp only at hSw); go_simp; try with_reducible rfl)
      simp only [Act.put, List.setIfInBounds_toArray, List.set_cons_zero, List.set_cons_succ]
      refine take_at (i := 10) 24 (v := ?_) rfl rfl (by kernel_rfl) (by kernel_rfl) (by kernel_rfl) (fun _ _ _ h => h) (by rfl) ?_ hHeld ?_
      rotate_left
      · (intro w hSw; (try dsimp only at hSw); go_simp; try with_reducible rfl)
      simp only [Act.put, List.setIfInBounds_toArray, List.set_cons_zero, List.set_cons_succ]
      refine take_at (i := 11) 25 (v := ?_) rfl rfl (by kernel_rfl) (by kernel_rfl) (by kernel_rfl) (fun _ _ _ h => h) (by rfl) ?_ hHeld ?_
      rotate_left
      · (intro w hSw; (try dsimp only at hSw); go_simp; try with_reducible rfl)
      simp only [Act.put, List.setIfInBounds_toArray, List.set_cons_zero, List.set_cons_succ]
      refine take_at (i := 12) 26 (v := ?_) rfl rfl (by kernel_rfl) (by kernel_rfl) (by kernel_rfl) (fun _ _ _ h => h) (by rfl) ?_ hHeld ?_
      rotate_left
      · (intro w hSw; (try dsimp only at hSw); go_simp; try with_reducible rfl)
      simp only [Act.put, List.setIfInBounds_toArray, List.set_cons_zero, List.set_cons_succ]
      refine take_at (i := 13) 27 (v := ?_) rfl rfl (by kernel_rfl) (by kernel_rfl) (by kernel_rfl) (fun _ _ _ h => h) (by rfl) ?_ hHeld ?_
      rotate_left
      · (intro w hSw; (try dsimp only at hSw); go_simp; try with_reducible rfl)
      simp only [Act.put, List.setIfInBounds_toArray, List.set_cons_zero, List.set_cons_succ]
      refine take_at (i := 14) 28 (v := ?_) rfl rfl (by kernel_rfl) (by kernel_rfl) (by kernel_rfl) (fun _ _ _ h => h) (by rfl) ?_ hHeld ?_
      rotate_left
      · (intro w hSw; (try dsimp only at hSw); go_simp; try with_reducible rfl)
      simp only [Act.put, List.setIfInBounds_toArray, List.set_cons_zero, List.set_cons_succ]
      refine take_at (i := 15) 2 (v := ?_) rfl rfl (by kernel_rfl) (by kernel_rfl) (by kernel_rfl) (fun _ _ _ h => h) (by rfl) ?_ hHeld ?_
      rotate_left
      · (intro w hSw; (try dsimp only at hSw); go_simp; try with_reducible rfl)
      simp only [Act.put, List.setIfInBounds_toArray, List.set_cons_zero, List.set_cons_succ]
      refine take_at (i := 16) 3 (v := ?_) rfl rfl (by kernel_rfl) (by kernel_rfl) (by kernel_rfl) (fun _ _ _ h => h) (by rfl) ?_ hHeld ?_
      rotate_left
      · (intro w hSw; (try dsimp only at hSw); go_simp; try with_reducible rfl)
      simp only [Act.put, List.setIfInBounds_toArray, List.set_cons_zero, List.set_cons_succ]
      refine take_at (i := 17) 4 (v := ?_) rfl rfl (by kernel_rfl) (by kernel_rfl) (by kernel_rfl) (fun _ _ _ h => h) (by rfl) ?_ hHeld ?_
      rotate_left
      · (intro w hSw; (try dsimp only at hSw); go_simp; try with_reducible rfl)
      simp only [Act.put, List.setIfInBounds_toArray, List.set_cons_zero, List.set_cons_succ]
      refine wpAnyH_done (by kernel_rfl) ?_ _
      refine NoPanic.normal ?_
      all_goals go_wp2
      all_goals go_ret3
      all_goals exact ⟨by rw [HA.out]; rfl, below_next hbw3 (by first | exact (Below.refl _ _).drew | assumption)⟩
    · have HV : Hid ((((0 : Int) == 0) && zs.length == 0) = false) := by unfold Hid; simp [hz]
      have hzb : (((zs.length : Nat) : Int) == 0) = false := by simp; intro e; exact hz (by rw [e]; rfl)
      rw [HV.out] at HA
      go_wp2_with fail
      refine wp_region_noPanic ?_
      refine wp_region_held_drew (S := (fun u => Below w3.heap.size w3 u)) (by kernel_rfl) (by first | exact (Below.refl _ _).drew | assumption) (fun hHeld => ?_)
      refine take_at (i := 0) 14 (v := ?_) rfl rfl (by kernel_rfl) (by kernel_rfl) (by kernel_rfl) (fun _ _ _ h => h) (by rfl) ?_ hHeld ?_
      rotate_left
      · (intro w hSw; (try dsimp only at hSw); go_simp; try with_reducible rfl)
      simp only [Act.put, List.setIfInBounds_toArray, List.set_cons_zero, List.set_cons_succ]
      refine take_at (i := 1) 15 (v := ?_) rfl rfl (by kernel_rfl) (by kernel_rfl) (by kernel_rfl) (fun _ _ _ h => h) (by rfl) ?_ hHeld ?_
      rotate_left
      · (intro w hSw; (try dsimp only at hSw); go_simp; try with_reducible rfl)
      simp only [Act.put, List.setIfInBounds_toArray, List.set_cons_zero, List.set_cons_succ]
      refine take_at (i := 2) 16 (v := ?_) rfl rfl (by kernel_rfl) (by kernel_rfl) (by kernel_rfl) (fun _ _ _ h => h) (by rfl) ?_ hHeld ?_
      rotate_left
      · (intro w hSw; (try dsimp only at hSw); go_simp; try with_reducible rfl)
      simp only [Act.put, List.setIfInBounds_toArray, List.set_cons_zero, List.set_cons_succ]
      refine take_at (i := 3) 17 (v := ?_) rfl rfl (by kernel_rfl) (by kernel_rfl) (by kernel_rfl) (fun _ _ _ h => h) (by rfl) ?_ hHeld ?_
      rotate_left
      · (intro w hSw; (try dsimp only at hSw); go_simp; try with_reducible rfl)
      simp only [Act.put, List.setIfInBounds_toArray, List.set_cons_zero, List.set_cons_succ]
      refine take_at (i := 4) 18 (v := ?_) rfl rfl (by kernel_rfl) (by kernel_rfl) (by kernel_rfl) (fun _ _ _ h => h) (by rfl) ?_ hHeld ?_
      rotate_left
      · (intro w hSw; (try dsimp only at hSw); go_simp; try with_reducible rfl)
      simp only [Act.put, List.setIfInBounds_toArray, List.set_cons_zero, List.set_cons_succ]
      refine take_at (i := 5) 19 (v := ?_) rfl rfl (by kernel_rfl) (by kernel_rfl) (by kernel_rfl) (fun _ _ _ h => h) (by rfl) ?_ hHeld ?_
      rotate_left
      · (intro w hSw; (try dsimp only at hSw); go_simp; try with_reducible rfl)
      simp only [Act.put, List.setIfInBounds_toArray, List.set_cons_zero, List.set_cons_succ]
      refine take_at (i := 6) 20 (v := ?_) rfl rfl (by kernel_rfl) (by kernel_rfl) (by kernel_rfl) (fun _ _ _ h => h) (by rfl) ?_ hHeld ?_
      rotate_left
      · (intro w hSw; (try dsimp only at hSw); go_simp; try with_reducible rfl)
      simp only [Act.put, List.setIfInBounds_toArray, List.set_cons_zero, List.set_cons_succ]
      refine take_at (i := 7) 21 (v := ?_) rfl rfl (by kernel_rfl) (by kernel_rfl) (by kernel_rfl) (fun _ _ _ h => h) (by rfl) ?_ hHeld ?_
      rotate_left
      · (intro w hSw; (try dsimp only at hSw); go_simp; try with_reducible rfl)
      simp only [Act.put, List.setIfInBounds_toArray, List.set_cons_zero, List.set_cons_succ]
      refine take_at (i := 8) 22 (v := ?_) rfl rfl (by kernel_rfl) (by kernel_rfl) (by kernel_rfl) (fun _ _ _ h => h) (by rfl) ?_ hHeld ?_
      rotate_left
      · (intro w hSw; (try dsimp only at hSw); go_simp; try with_reducible rfl)
      simp only [Act.put, List.setIfInBounds_toArray, List.set_cons_zero, List.set_cons_succ]
      refine take_at (i := 9) 23 (v := ?_) rfl rfl (by kernel_rfl) (by kernel_rfl) (by kernel_rfl) (fun _ _ _ h => h) (by rfl) ?_ hHeld ?_
      rotate_left
      · (intro w hSw; (try dsimp only at hSw); go_simp; try with_reducible rfl)
      simp only [Act.put, List.setIfInBounds_toArray, List.set_cons_zero, List.set_cons_succ]
      refine take_at (i := 10) 24 (v := ?_) rfl rfl (by kernel_rfl) (by kernel_rfl) (by kernel_rfl) (fun _ _ _ h => h) (by rfl) ?_ hHeld ?_
      rotate_left
      · (intro w hSw; (try dsimp only at hSw); go_simp; try with_reducible rfl)
      simp only [Act.put, List.setIfInBounds_toArray, List.set_cons_zero, List.set_cons_succ]
      refine take_at (i := 11) 25 (v := ?_) rfl rfl (by kernel_rfl) (by kernel_rfl) (by kernel_rfl) (fun _ _ _ h => h) (by rfl) ?_ hHeld ?_
      rotate_left
      · (intro w hSw; (try dsimp only at hSw); go_simp; try with_reducible rfl)
      simp only [Act.put, List.setIfInBounds_toArray, List.set_cons_zero, List.set_cons_succ]
      refine take_at (i := 12) 26 (v := ?_) rfl rfl (by kernel_rfl) (by kernel_rfl) (by kernel_rfl) (fun _ _ _ h => h) (by rfl) ?_ hHeld ?_
      rotate_left
      · (intro w hSw; (try dsimp only at hSw); go_simp; try with_reducible rfl)
      simp only [Act.put, List.setIfInBounds_toArray, List.set_cons_zero, List.set_cons_succ]
      refine take_at (i := 13) 27 (v := ?_) rfl rfl (by kernel_rfl) (by kernel_rfl) (by kernel_rfl) (fun _ _ _ h => h) (by rfl) ?_ hHeld ?_
      rotate_left
      · (intro w hSw; (try dsimp only at hSw); go_simp; try with_reducible rfl)
      simp only [Act.put, List.setIfInBounds_toArray, List.set_cons_zero, List.set_cons_succ]
      refine take_at (i := 14) 28 (v := ?_) rfl rfl (by kernel_rfl) (by kernel_rfl) (by kernel_rfl) (fun _ _ _ h => h) (by rfl) ?_ hHeld ?_
      rotate_left
      · (intro w hSw; (try dsimp only at hSw); go_simp; try with_reducible rfl)
      simp only [Act.put, List.setIfInBounds_toArray, List.set_cons_zero, List.set_cons_succ]
      refine take_at (i := 15) 2 (v := ?_) rfl rfl (by kernel_rfl) (by kernel_rfl) (by kernel_rfl) (fun _ _ _ h => h) (by rfl) ?_ hHeld ?_
      rotate_left
      · (intro w hSw; (try dsimp only at hSw); go_simp; try with_reducible rfl)
      simp only [Act.put, List.setIfInBounds_toArray, List.set_cons_zero, List.set_cons_succ]
      refine take_at (i := 16) 3 (v := ?_) rfl rfl (by kernel_rfl) (by kernel_rfl) (by kernel_rfl) (fun _ _ _ h => h) (by rfl) ?_ hHeld ?_
      rotate_left
      · (intro w hSw; (try dsimp only at hSw); go_simp; try with_reducible rfl)
      simp only [Act.put, List.setIfInBounds_toArray, List.set_cons_zero, List.set_cons_succ]
      refine take_at (i := 17) 4 (v := ?_) rfl rfl (by kernel_rfl) (by kernel_rfl) (by kernel_rfl) (fun _ _ _ h => h) (by rfl) ?_ hHeld ?_
      rotate_left
      · (intro w hSw; (try dsimp only at hSw); go_simp; try with_reducible rfl)
      simp only [Act.put, List.setIfInBounds_toArray, List.set_cons_zero, List.set_cons_succ]
      refine wpAnyH_done (by kernel_rfl) ?_ _
      refine NoPanic.normal ?_
      all_goals go_wp2
      all_goals go_ret3
      all_goals exact ⟨by rw [HA.out]; rfl, below_next hbw3 (by first | exact (Below.refl _ _).drew | assumption)⟩
  · have HV : Hid (((f3 == 0) && zs.length == 0) = false) := by unfold Hid; simp [hf0]
    have hfb : (f3 == 0) = false := by simp [hf0]
    rw [HV.out] at HA
    go_wp2_with fail
    refine wp_region_noPanic ?_
    refine wp_region_held_drew (S := (fun u => Below w3.heap.size w3 u)) (by kernel_rfl) (by first | exact (Below.refl _ _).drew | assumption) (fun hHeld => ?_)
    refine take_at (i := 0) 14 (v := ?_) rfl rfl (by kernel_rfl) (by kernel_rfl) (by kernel_rfl) (fun _ _ _ h => h) (by rfl) ?_ hHeld ?_
    rotate_left
    · (intro w hSw; (try dsimp only at hSw); go_simp; try with_reducible rfl)
    simp only [Act.put, List.setIfInBounds_toArray, List.set_cons_zero, List.set_cons_succ]
    refine take_at (i := 1) 15 (v := ?_) rfl rfl (by kernel_rfl) (by kernel_rfl) (by kernel_rfl) (fun _ _ _ h => h) (by rfl) ?_ hHeld ?_
    rotate_left
    · (intro w hSw; (try dsimp only at hSw); go_simp; try with_reducible rfl)
    simp only [Act.put, List.setIfInBounds_toArray, List.set_cons_zero, List.set_cons_succ]
    refine take_at (i := 2) 16 (v := ?_) rfl rfl (by kernel_rfl) (by kernel_rfl) (by kernel_rfl) (fun _ _ _ h => h) (by rfl) ?_ hHeld ?_
    rotate_left
    · (intro w hSw; (try dsimp only at hSw); go_simp; try with_reducible rfl)
    simp only [Act.put, List.setIfInBounds_toArray, List.set_cons_zero, List.set_cons_succ]
    refine take_at (i := 3) 17 (v := ?_) rfl rfl (by kernel_rfl) (by kernel_rfl) (by kernel_rfl) (fun _ _ _ h => h) (by rfl) ?_ hHeld ?_
    rotate_left
    · (intro w hSw; (try dsimp only at hSw); go_simp; try with_reducible rfl)
    simp only [Act.put, List.setIfInBounds_toArray, List.set_cons_zero, List.set_cons_succ]
    refine take_at (i := 4) 18 (v := ?_) rfl rfl (by kernel_rfl) (by kernel_rfl) (by kernel_rfl) (fun _ _ _ h => h) (by rfl) ?_ hHeld ?_
    rotate_left
    · (intro w hSw; (try dsimp only at hSw); go_simp; try with_reducible rfl)
    simp only [Act.put, List.setIfInBounds_toArray, List.set_cons_zero, List.set_cons_succ]
    refine take_at (i := 5) 19 (v := ?_) rfl rfl (by kernel_rfl) (by kernel_rfl) (by kernel_rfl) (fun _ _ _ h => h) (by rfl) ?_ hHeld ?_
    rotate_left
    · (intro w hSw; (try dsimp only at hSw); go_simp; try with_reducible rfl)
    simp only [Act.put, List.setIfInBounds_toArray, List.set_cons_zero, List.set_cons_succ]
    refine take_at (i := 6) 20 (v := ?_) rfl rfl (by kernel_rfl) (by kernel_rfl) (by kernel_rfl) (fun _ _ _ h => h) (by rfl) ?_ hHeld ?_
    rotate_left
    · (intro w hSw; (try dsimp only at hSw); go_simp; try with_reducible rfl)
    simp only [Act.put, List.setIfInBounds_toArray, List.set_cons_zero, List.set_cons_succ]
    refine take_at (i := 7) 21 (v := ?_) rfl rfl (by kernel_rfl) (by kernel_rfl) (by kernel_rfl) (fun _ _ _ h => h) (by rfl) ?_ hHeld ?_
    rotate_left
    · (intro w hSw; (try dsimp only at hSw); go_simp; try with_reducible rfl)
    simp only [Act.put, List.setIfInBounds_toArray, List.set_cons_zero, List.set_cons_succ]
    refine skip_at (i := 8) 22 rfl rfl (by kernel_rfl) (by kernel_rfl) (by kernel_rfl) (fun _ _ _ h => h) (by rfl) hHeld ?_
    simp only [Act.put, List.setIfInBounds_toArray, List.set_cons_zero, List.set_cons_succ]
    refine skip_at (i := 9) 23 rfl rfl (by kernel_rfl) (by kernel_rfl) (by kernel_rfl) (fun _ _ _ h => h) (by rfl) hHeld ?_
    simp only [Act.put, List.setIfInBounds_toArray, List.set_cons_zero, List.set_cons_succ]
    refine skip_at (i := 10) 24 rfl rfl (by kernel_rfl) (by kernel_rfl) (by kernel_rfl) (fun _ _ _ h => h) (by rfl) hHeld ?_
    simp only [Act.put, List.setIfInBounds_toArray, List.set_cons_zero, List.set_cons_succ]
    refine skip_at (i := 11) 25 rfl rfl (by kernel_rfl) (by kernel_rfl) (by kernel_rfl) (fun _ _ _ h => h) (by rfl) hHeld ?_
    simp only [Act.put, List.setIfInBounds_toArray, List.set_cons_zero, List.set_cons_succ]
    refine skip_at (i := 12) 26 rfl rfl (by kernel_rfl) (by kernel_rfl) (by kernel_rfl) (fun _ _ _ h => h) (by rfl) hHeld ?_
    simp only [Act.put, List.setIfInBounds_toArray, List.set_cons_zero, List.set_cons_succ]
    refine skip_at (i := 13) 27 rfl rfl (by kernel_rfl) (by kernel_rfl) (by kernel_rfl) (fun _ _ _ h => h) (by rfl) hHeld ?_
    simp only [Act.put, List.setIfInBounds_toArray, List.set_cons_zero, List.set_cons_succ]
    refine take_at (i := 14) 28 (v := ?_) rfl rfl (by kernel_rfl) (by kernel_rfl) (by kernel_rfl) (fun _ _ _ h => h) (by rfl) ?_ hHeld ?_
    rotate_left
    · (intro w hSw; (try dsimp only at hSw); go_simp; try with_reducible rfl)
    simp only [Act.put, List.setIfInBounds_toArray, List.set_cons_zero, List.set_cons_succ]
    refine take_at (i := 15) 2 (v := ?_) rfl rfl (by kernel_rfl) (by kernel_rfl) (by kernel_rfl) (fun _ _ _ h => h) (by rfl) ?_ hHeld ?_
    rotate_left
    · (intro w hSw; (try dsimp only at hSw); go_simp; try with_reducible rfl)
    simp only [Act.put, List.setIfInBounds_toArray, List.set_cons_zero, List.set_cons_succ]
    refine take_at (i := 16) 3 (v := ?_) rfl rfl (by kernel_rfl) (by kernel_rfl) (by kernel_rfl) (fun _ _ _ h => h) (by rfl) ?_ hHeld ?_
    rotate_left
    · (intro w hSw; (try dsimp only at hSw); go_simp; try with_reducible rfl)
    simp only [Act.put, List.setIfInBounds_toArray, List.set_cons_zero, List.set_cons_succ]
    refine take_at (i := 17) 4 (v := ?_) rfl rfl (by kernel_rfl) (by kernel_rfl) (by kernel_rfl) (fun _ _ _ h => h) (by rfl) ?_ hHeld ?_
    rotate_left
    · (intro w hSw; (try dsimp only at hSw); go_simp; try with_reducible rfl)
    simp only [Act.put, List.setIfInBounds_toArray, List.set_cons_zero, List.set_cons_succ]
    refine wpAnyH_done (by kernel_rfl) ?_ _
    refine NoPanic.normal ?_
    all_goals go_wp2
    all_goals go_ret3
    all_goals exact ⟨by rw [HA.out]; rfl, below_next hbw3 (by first | exact (Below.refl _ _).drew | assumption)⟩
set_option maxRecDepth 20000 in
set_option maxHeartbeats 1600000 in
theorem one_d (ao : Option Addr) (cap : Nat) (xs : List UInt8) (w : World) (hx : Rd w ao xs) (hnil : ao = none → cap = 0) (hl : xs.length ≤ 140737488355328) :
    Calls Try.prog 81 #[.slice ao xs.length cap] w fun e w' => e = .returned (.tuple #[.int .u64 ((oneS xs).1 : Nat), .bool (oneS xs).2]) ∧ Below w.heap.size w w' := by
  have HN : Hid (ao = none → cap = 0) := hnil
  clear hnil
  go_enter Try.func81, Try.ntmps81
  go_wp2_with fail
  refine (newD_s ao cap xs w hx HN.out hl).mono ?_
  rintro e w1 ⟨q, rfl, hrs1, hb1⟩
  have hql := hrs1.ge
  go_wp2_with fail
  refine (numberD_s 281474976710655 w1 hrs1).mono ?_
  rintro e w2 ⟨rfl, hrs2, hg2⟩
  have hbw2 : Below w.heap.size w w2 := hb1.grown hg2 hb1.size (fun j hj => by cases hj; omega)
  obtain ⟨n, hn⟩ : ∃ n, n = (rNum 281474976710655 xs 0).1 := ⟨_, rfl⟩
  obtain ⟨k, hk⟩ : ∃ n, n = (rNum 281474976710655 xs 0).2.1 := ⟨_, rfl⟩
  obtain ⟨f, hf⟩ : ∃ n, n = (rNum 281474976710655 xs 0).2.2 := ⟨_, rfl⟩
  obtain ⟨ys, hys⟩ : ∃ ys, ys = xs.drop k := ⟨_, rfl⟩
  have HA : Hid (oneS xs = (n, f == 0 && ys.length == 0)) := by unfold Hid oneS; rw [hys, hk, hf, hn]
  rw [← hn]
  rw [← hk, ← hf, ← hys] at hrs2
  clear hn hk hf hys
  obtain ⟨D, ao', cap', hra, -, -⟩ := hrs2
  have c0u := fun (u : World) (hu : Below w2.heap.size w2 u) => cell_on hu hra.c0
  have c1u := fun (u : World) (hu : Below w2.heap.size w2 u) => cell_on hu hra.c1
  have hself := Below.refl w2.heap.size w2
  clear hra
  by_cases hf0 : f = 0
  · subst hf0
    by_cases hz : ys.length = 0
    · have HV : Hid ((((0 : Int) == 0) && ys.length == 0) = true) := by unfold Hid; simp [hz]
      rw [HV.out] at HA
      go_wp2_with fail
      refine wp_region_noPanic ?_
      refine wp_region_held_drew (S := (fun u => Below w2.heap.size w2 u)) (by kernel_rfl) (by first | exact (Below.refl _ _).drew | assumption) (fun hHeld => ?_)
      refine take_at (i := 0) 10 (v := ?_) rfl rfl (by kernel_rfl) (by kernel_rfl) (by kernel_rfl) (fun _ _ _ h => h) (by rfl) ?_ hHeld ?_
      rotate_left
      · (intro w hSw; (try dsimp only at hSw); go_simp; try with_reducible rfl)
      simp only [Act.put, List.setIfInBounds_toArray, List.set_cons_zero, List.set_cons_succ]
      refine take_at (i := 1) 11 (v := ?_) rfl rfl (by kernel_rfl) (by kernel_rfl) (by kernel_rfl) (fun _ _ _ h => h) (by rfl) ?_ hHeld ?_
      rotate_left
      · (intro w hSw; (try dsimp only at hSw); go_simp; try with_reducible rfl)
      simp only [Act.put, List.setIfInBounds_toArray, List.set_cons_zero, List.set_cons_succ]
      refine take_at (i := 2) 12 (v := ?_) rfl rfl (by kernel_rfl) (by kernel_rfl) (by kernel_rfl) (fun _ _ _ h => h) (by rfl) ?_ hHeld ?_
      rotate_left
      · (intro w hSw; (try dsimp only at hSw); go_simp; try with_reducible rfl)
      simp only [Act.put, List.setIfInBounds_toArray, List.set_cons_zero, List.set_cons_succ]
      refine take_at (i := 3) 13 (v := ?_) rfl rfl (by kernel_rfl) (by kernel_rfl) (by kernel_rfl) (fun _ _ _ h => h) (by rfl) ?_ hHeld ?_
      rotate_left
      · (intro w hSw; (try dsimp only at hSw); go_simp; try with_reducible rfl)
      simp only [Act.put, List.setIfInBounds_toArray, List.set_cons_zero, List.set_cons_succ]
      refine take_at (i := 4) 14 (v := ?_) rfl rfl (by kernel_rfl) (by kernel_rfl) (by kernel_rfl) (fun _ _ _ h => h) (by rfl) ?_ hHeld ?_
      rotate_left
      · (intro w hSw; (try dsimp only at hSw); go_simp; try with_reducible rfl)
      simp only [Act.put, List.setIfInBounds_toArray, List.set_cons_zero, List.set_cons_succ]
      refine take_at (i := 5) 15 (v := ?_) rfl rfl (by kernel_rfl) (by kernel_rfl) (by kernel_rfl) (fun _ _ _ h => h) (by rfl) ?_ hHeld ?_
      rotate_left
      · (intro w hSw; (try dsimp only at hSw); go_simp; try with_reducible rfl)
      simp only [Act.put, List.setIfInBounds_toArray, List.set_cons_zero, List.set_cons_succ]
      refine take_at (i := 6) 16 (v := ?_) rfl rfl (by kernel_rfl) (by kernel_rfl) (by kernel_rfl) (fun _ _ _ h => h) (by rfl) ?_ hHeld ?_
      rotate_left
      · (intro w hSw; (try dsimp only at hSw); go_simp; try with_reducible rfl)
      simp only [Act.put, List.setIfInBounds_toArray, List.set_cons_zero, List.set_cons_succ]
      refine take_at (i := 7) 17 (v := ?_) rfl rfl (by kernel_rfl) (by kernel_rfl) (by kernel_rfl) (fun _ _ _ h => h) (by rfl) ?_ hHeld ?_
      rotate_left
      · (intro w hSw; (try dsimp only at hSw); go_simp; try with_reducible rfl)
      simp only [Act.put, List.setIfInBounds_toArray, List.set_cons_zero, List.set_cons_succ]
      refine take_at (i := 8) 18 (v := ?_) rfl rfl (by kernel_rfl) (by kernel_rfl) (by kernel_rfl) (fun _ _ _ h => h) (by rfl) ?_ hHeld ?_
      rotate_left
      · (intro w hSw; (try dsimp only at hSw); go_simp; try with_reducible rfl)
      simp only [Act.put, List.setIfInBounds_toArray, List.set_cons_zero, List.set_cons_succ]
      refine take_at (i := 9) 19 (v := ?_) rfl rfl (by kernel_rfl) (by kernel_rfl) (by kernel_rfl) (fun _ _ _ h => h) (by rfl) ?_ hHeld ?_
      rotate_left
      · (intro w hSw; (try dsimp only at hSw); go_simp; try with_reducible rfl)
      simp only [Act.put, List.setIfInBounds_toArray, List.set_cons_zero, List.set_cons_succ]
      refine take_at (i := 10) 20 (v := ?_) rfl rfl (by kernel_rfl) (by kernel_rfl) (by kernel_rfl) (fun _ _ _ h => h) (by rfl) ?_ hHeld ?_
      rotate_left
      · (intro w hSw; (try dsimp only at hSw); go_simp; try with_reducible rfl)
      simp only [Act.put, List.setIfInBounds_toArray, List.set_cons_zero, List.set_cons_succ]
      refine take_at (i := 11) 21 (v := ?_) rfl rfl (by kernel_rfl) (by kernel_rfl) (by kernel_rfl) (fun _ _ _ h => h) (by rfl) ?_ hHeld ?_
      rotate_left
      · (intro w hSw; (try dsimp only at hSw); go_simp; try with_reducible rfl)
      simp only [Act.put, List.setIfInBounds_toArray, List.set_cons_zero, List.set_cons_succ]
      refine take_at (i := 12) 22 (v := ?_) rfl rfl (by kernel_rfl) (by kernel_rfl) (by kernel_rfl) (fun _ _ _ h => h) (by rfl) ?_ hHeld ?_
      rotate_left
      · (intro w hSw; (try dsimp only at hSw); go_simp; try with_reducible rfl)
      simp only [Act.put, List.setIfInBounds_toArray, List.set_cons_zero, List.set_cons_succ]
      refine take_at (i := 13) 23 (v := ?_) rfl rfl (by kernel_rfl) (by kernel_rfl) (by kernel_rfl) (fun _ _ _ h => h) (by rfl) ?_ hHeld ?_
      rotate_left
      · (intro w hSw; (try dsimp only at hSw); go_simp; try with_reducible rfl)
      simp only [Act.put, List.setIfInBounds_toArray, List.set_cons_zero, List.set_cons_succ]
      refine take_at (i := 14) 2 (v := ?_) rfl rfl (by kernel_rfl) (by kernel_rfl) (by kernel_rfl) (fun _ _ _ h => h) (by rfl) ?_ hHeld ?_
      rotate_left
      · (intro w hSw; (try dsimp only at hSw); go_simp; try with_reducible rfl)
      simp only [Act.put, List.setIfInBounds_toArray, List.set_cons_zero, List.set_cons_succ]
      refine take_at (i := 15) 3 (v := ?_) rfl rfl (by kernel_rfl) (by kernel_rfl) (by kernel_rfl) (fun _ _ _ h => h) (by rfl) ?_ hHeld ?_
      rotate_left
      · (intro w hSw; (try dsimp only at hSw); go_simp; try with_reducible rfl)
      simp only [Act.put, List.setIfInBounds_toArray, List.set_cons_zero, List.set_cons_succ]
      refine wpAnyH_done (by kernel_rfl) ?_ _
      refine NoPanic.normal ?_
      all_goals go_wp2
      all_goals go_ret2
      all_goals exact ⟨by rw [HA.out]; rfl, below_next hbw2 (by first | exact (Below.refl _ _).drew | assumption)⟩
    · have HV : Hid ((((0 : Int) == 0) && ys.length == 0) = false) := by unfold Hid; simp [hz]
      have hzb : (((ys.length : Nat) : Int) == 0) = false := by simp; intro e; exact hz (by rw [e]; rfl)
      rw [HV.out] at HA
      go_wp2_with fail
      refine wp_region_noPanic ?_
      refine wp_region_held_drew (S := (fun u => Below w2.heap.size w2 u)) (by kernel_rfl) (by first | exact (Below.refl _ _).drew | assumption) (fun hHeld => ?_)
      refine take_at (i := 0) 10 (v := ?_) rfl rfl (by kernel_rfl) (by kernel_rfl) (by kernel_rfl) (fun _ _ _ h => h) (by rfl) ?_ hHeld ?_
      rotate_left
      · (intro w hSw; (try dsimp only at hSw); go_simp; try with_reducible rfl)
      simp only [Act.put, List.setIfInBounds_toArray, List.set_cons_zero, List.set_cons_succ]
      refine take_at (i := 1) 11 (v := ?_) rfl rfl (by kernel_rfl) (by kernel_rfl) (by kernel_rfl) (fun _ _ _ h => h) (by rfl) ?_ hHeld ?_
      rotate_left
      · (intro w hSw; (try dsimp only at hSw); go_simp; try with_reducible rfl)
      simp only [Act.put, List.setIfInBounds_toArray, List.set_cons_zero, List.set_cons_succ]
      refine take_at (i := 2) 12 (v := ?_) rfl rfl (by kernel_rfl) (by kernel_rfl) (by kernel_rfl) (fun _ _ _ h => h) (by rfl) ?_ hHeld ?_
      rotate_left
      · (intro w hSw; (try dsimp only at hSw); go_simp; try with_reducible rfl)
      simp only [Act.put, List.setIfInBounds_toArray, List.set_cons_zero, List.set_cons_succ]
      refine take_at (i := 3) 13 (v := ?_) rfl rfl (by kernel_rfl) (by kernel_rfl) (by kernel_rfl) (fun _ _ _ h => h) (by rfl) ?_ hHeld ?_
      rotate_left
      · (intro w hSw; (try dsimp only at hSw); go_simp; try with_reducible rfl)
      simp only [Act.put, List.setIfInBounds_toArray, List.set_cons_zero, List.set_cons_succ]
      refine take_at (i := 4) 14 (v := ?_) rfl rfl (by kernel_rfl) (by kernel_rfl) (by kernel_rfl) (fun _ _ _ h => h) (by rfl) ?_ hHeld ?_
      rotate_left
      · (intro w hSw; (try dsimp only at hSw); go_simp; try with_reducible rfl)
      simp only [Act.put, List.setIfInBounds_toArray, List.set_cons_zero, List.set_cons_succ]
      refine take_at (i := 5) 15 (v := ?_) rfl rfl (by kernel_rfl) (by kernel_rfl) (by kernel_rfl) (fun _ _ _ h => h) (by rfl) ?_ hHeld ?_
      rotate_left
      · (intro w hSw; (try dsimp only at hSw); go_simp; try with_reducible rfl)
      simp only [Act.put, List.setIfInBounds_toArray, List.set_cons_zero, List.set_cons_succ]
      refine take_at (i := 6) 16 (v := ?_) rfl rfl (by kernel_rfl) (by kernel_rfl) (by kernel_rfl) (fun _ _ _ h => h) (by rfl) ?_ hHeld ?_
      rotate_left
      · (intro w hSw; (try dsimp only at hSw); go_simp; try with_reducible rfl)
      simp only [Act.put, List.setIfInBounds_toArray, List.set_cons_zero, List.set_cons_succ]
      refine take_at (i := 7) 17 (v := ?_) rfl rfl (by kernel_rfl) (by kernel_rfl) (by kernel_rfl) (fun _ _ _ h => h) (by rfl) ?_ hHeld ?_
      rotate_left
      · (intro w hSw; (try dsimp only at hSw); go_simp; try with_reducible rfl)
      simp only [Act.put, List.setIfInBounds_toArray, List.set_cons_zero, List.set_cons_succ]
      refine take_at (i := 8) 18 (v := ?_) rfl rfl (by kernel_rfl) (by kernel_rfl) (by kernel_rfl) (fun _ _ _ h => h) (by rfl) ?_ hHeld ?_
      rotate_left
      · (intro w hSw; (try dsimp only at hSw); go_simp; try with_reducible rfl)
      simp only [Act.put, List.setIfInBounds_toArray, List.set_cons_zero, List.set_cons_succ]
      refine take_at (i := 9) 19 (v := ?_) rfl rfl (by kernel_rfl) (by kernel_rfl) (by kernel_rfl) (fun _ _ _ h => h) (by rfl) ?_ hHeld ?_
      rotate_left
      · (intro w hSw; (try dsimp only at hSw); go_simp; try with_reducible rfl)
      simp only [Act.put, List.setIfInBounds_toArray, List.set_cons_zero, List.set_cons_succ]
      refine take_at (i := 10) 20 (v := ?_) rfl rfl (by kernel_rfl) (by kernel_rfl) (by kernel_rfl) (fun _ _ _ h => h) (by rfl) ?_ hHeld ?_
      rotate_left
      · (intro w hSw; (try dsimp only at hSw); go_simp; try with_reducible rfl)
      simp only [Act.put, List.setIfInBounds_toArray, List.set_cons_zero, List.set_cons_succ]
      refine take_at (i := 11) 21 (v := ?_) rfl rfl (by kernel_rfl) (by kernel_rfl) (by kernel_rfl) (fun _ _ _ h => h) (by rfl) ?_ hHeld ?_
      rotate_left
      · (intro w hSw; (try dsimp only at hSw); go_simp; try with_reducible rfl)
      simp only [Act.put, List.setIfInBounds_toArray, List.set_cons_zero, List.set_cons_succ]
      refine take_at (i := 12) 22 (v := ?_) rfl rfl (by kernel_rfl) (by kernel_rfl) (by kernel_rfl) (fun _ _ _ h => h) (by rfl) ?_ hHeld ?_
      rotate_left
      · (intro w hSw; (try dsimp only at hSw); go_simp; try with_reducible rfl)
      simp only [Act.put, List.setIfInBounds_toArray, List.set_cons_zero, List.set_cons_succ]
      refine take_at (i := 13) 23 (v := ?_) rfl rfl (by kernel_rfl) (by kernel_rfl) (by kernel_rfl) (fun _ _ _ h => h) (by rfl) ?_ hHeld ?_
      rotate_left
      · (intro w hSw; (try dsimp only at hSw); go_simp; try with_reducible rfl)
      simp only [Act.put, List.setIfInBounds_toArray, List.set_cons_zero, List.set_cons_succ]
      refine take_at (i := 14) 2 (v := ?_) rfl rfl (by kernel_rfl) (by kernel_rfl) (by kernel_rfl) (fun _ _ _ h => h) (by rfl) ?_ hHeld ?_
      rotate_left
      · (intro w hSw; (try dsimp only at hSw); go_simp; try with_reducible rfl)
      simp only [Act.put, List.setIfInBounds_toArray, List.set_cons_zero, List.set_cons_succ]
      refine take_at (i := 15) 3 (v := ?_) rfl rfl (by kernel_rfl) (by kernel_rfl) (by kernel_rfl) (fun _ _ _ h => h) (by rfl) ?_ hHeld ?_
      rotate_left
      · (intro w hSw; (try dsimp only at hSw); go_simp; try with_reducible rfl)
      simp only [Act.put, List.setIfInBounds_toArray, List.set_cons_zero, List.set_cons_succ]
      refine wpAnyH_done (by kernel_rfl) ?_ _
      refine NoPanic.normal ?_
      all_goals go_wp2
      all_goals go_ret2
      all_goals exact ⟨by rw [HA.out]; rfl, below_next hbw2 (by first | exact (Below.refl _ _).drew | assumption)⟩
  · have HV : Hid (((f == 0) && ys.length == 0) = false) := by unfold Hid; simp [hf0]
    have hfb : (f == 0) = false := by simp [hf0]
    rw [HV.out] at HA
    go_wp2_with fail
    refine wp_region_noPanic ?_
    refine wp_region_held_drew (S := (fun u => Below w2.heap.size w2 u)) (by kernel_rfl) (by first | exact (Below.refl _ _).drew | assumption) (fun hHeld => ?_)
    refine take_at (i := 0) 10 (v := ?_) rfl rfl (by kernel_rfl) (by kernel_rfl) (by kernel_rfl) (fun _ _ _ h => h) (by rfl) ?_ hHeld ?_
    rotate_left
    · (intro w hSw; (try dsimp only at hSw); go_simp; try with_reducible rfl)
    simp only [Act.put, List.setIfInBounds_toArray, List.set_cons_zero, List.set_cons_succ]
    refine take_at (i := 1) 11 (v := ?_) rfl rfl (by kernel_rfl) (by kernel_rfl) (by kernel_rfl) (fun _ _ _ h => h) (by rfl) ?_ hHeld ?_
    rotate_left
    · (intro w hSw; (try dsimp only at hSw); go_simp; try with_reducible rfl)
    simp only [Act.put, List.setIfInBounds_toArray, List.set_cons_zero, List.set_cons_succ]
    refine take_at (i := 2) 12 (v := ?_) rfl rfl (by kernel_rfl) (by kernel_rfl) (by kernel_rfl) (fun _ _ _ h => h) (by rfl) ?_ hHeld ?_
    rotate_left
    · (intro w hSw; (try dsimp only at hSw); go_simp; try with_reducible rfl)
    simp only [Act.put, List.setIfInBounds_toArray, List.set_cons_zero, List.set_cons_succ]
    refine take_at (i := 3) 13 (v := ?_) rfl rfl (by kernel_rfl) (by kernel_rfl) (by kernel_rfl) (fun _ _ _ h => h) (by rfl) ?_ hHeld ?_
    rotate_left
    · (intro w hSw; (try dsimp only at hSw); go_simp; try with_reducible rfl)
    simp only [Act.put, List.setIfInBounds_toArray, List.set_cons_zero, List.set_cons_succ]
    refine take_at (i := 4) 14 (v := ?_) rfl rfl (by kernel_rfl) (by kernel_rfl) (by kernel_rfl) (fun _ _ _ h => h) (by rfl) ?_ hHeld ?_
    rotate_left
    · (intro w hSw; (try dsimp only at hSw); go_simp; try with_reducible rfl)
    simp only [Act.put, List.setIfInBounds_toArray, List.set_cons_zero, List.set_cons_succ]
    refine take_at (i := 5) 15 (v := ?_) rfl rfl (by kernel_rfl) (by kernel_rfl) (by kernel_rfl) (fun _ _ _ h => h) (by rfl) ?_ hHeld ?_
    rotate_left
    · (intro w hSw; (try dsimp only at hSw); go_simp; try with_reducible rfl)
    simp only [Act.put, List.setIfInBounds_toArray, List.set_cons_zero, List.set_cons_succ]
    refine take_at (i := 6) 16 (v := ?_) rfl rfl (by kernel_rfl) (by kernel_rfl) (by kernel_rfl) (fun _ _ _ h => h) (by rfl) ?_ hHeld ?_
    rotate_left
    · (intro w hSw; (try dsimp only at hSw); go_simp; try with_reducible rfl)
    simp only [Act.put, List.setIfInBounds_toArray, List.set_cons_zero, List.set_cons_succ]
    refine skip_at (i := 7) 17 rfl rfl (by kernel_rfl) (by kernel_rfl) (by kernel_rfl) (fun _ _ _ h => h) (by rfl) hHeld ?_
    simp only [Act.put, List.setIfInBounds_toArray, List.set_cons_zero, List.set_cons_succ]
    refine skip_at (i := 8) 18 rfl rfl (by kernel_rfl) (by kernel_rfl) (by kernel_rfl) (fun _ _ _ h => h) (by rfl) hHeld ?_
    simp only [Act.put, List.setIfInBounds_toArray, List.set_cons_zero, List.set_cons_succ]
    refine skip_at (i := 9) 19 rfl rfl (by kernel_rfl) (by kernel_rfl) (by kernel_rfl) (fun _ _ _ h => h) (by rfl) hHeld ?_
    simp only [Act.put, List.setIfInBounds_toArray, List.set_cons_zero, List.set_cons_succ]
    refine skip_at (i := 10) 20 rfl rfl (by kernel_rfl) (by kernel_rfl) (by kernel_rfl) (fun _ _ _ h => h) (by rfl) hHeld ?_
    simp only [Act.put, List.setIfInBounds_toArray, List.set_cons_zero, List.set_cons_succ]
    refine skip_at (i := 11) 21 rfl rfl (by kernel_rfl) (by kernel_rfl) (by kernel_rfl) (fun _ _ _ h => h) (by rfl) hHeld ?_
    simp only [Act.put, List.setIfInBounds_toArray, List.set_cons_zero, List.set_cons_succ]
    refine skip_at (i := 12) 22 rfl rfl (by kernel_rfl) (by kernel_rfl) (by kernel_rfl) (fun _ _ _ h => h) (by rfl) hHeld ?_
    simp only [Act.put, List.setIfInBounds_toArray, List.set_cons_zero, List.set_cons_succ]
    refine take_at (i := 13) 23 (v := ?_) rfl rfl (by kernel_rfl) (by kernel_rfl) (by kernel_rfl) (fun _ _ _ h => h) (by rfl) ?_ hHeld ?_
    rotate_left
    · (intro w hSw; (try dsimp only at hSw); go_simp; try with_reducible rfl)
    simp only [Act.put, List.setIfInBounds_toArray, List.set_cons_zero, List.set_cons_succ]
    refine take_at (i := 14) 2 (v := ?_) rfl rfl (by kernel_rfl) (by kernel_rfl) (by kernel_rfl) (fun _ _ _ h => h) (by rfl) ?_ hHeld ?_
    rotate_left
    · (intro w hSw; (try dsimp only at hSw); go_simp; try with_reducible rfl)
    simp only [Act.put, List.setIfInBounds_toArray, List.set_cons_zero, List.set_cons_succ]
    refine take_at (i := 15) 3 (v := ?_) rfl rfl (by kernel_rfl) (by kernel_rfl) (by kernel_rfl) (fun _ _ _ h => h) (by rfl) ?_ hHeld ?_
    rotate_left
    · (intro w hSw; (try dsimp only at hSw); go_simp; try with_reducible rfl)
    simp only [Act.put, List.setIfInBounds_toArray, List.set_cons_zero, List.set_cons_succ]
    refine wpAnyH_done (by kernel_rfl) ?_ _
    refine NoPanic.normal ?_
    all_goals go_wp2
    all_goals go_ret2
    all_goals exact ⟨by rw [HA.out]; rfl, below_next hbw2 (by first | exact (Below.refl _ _).drew | assumption)⟩
end Go.Proofs.Ytdpkommmkcmifaa
namespace Go.Proofs.Ytdpkommmkcmifaa
set_option linter.unusedVariables false
set_option linter.unusedSimpArgs false
open Go.RowKit
theorem rEnd_zero (ys : List UInt8) (f : Int) : (rEnd ys f == 0) = (f == 0 && ys.length == 0) := by
  unfold rEnd
  by_cases hf : f = 0
  · subst hf
    by_cases hz : ys.length = 0
    · simp [hz]
    · have h0 : 0 < ys.length := by omega
      rw [if_pos rfl, if_pos h0]
      simp [hz]
  · simp [hf]
theorem rNum_ok {m : Nat} {ys : List UInt8} (he : (numS ys).2.2 = 0) (hm : (numS ys).1 ≤ m) : rNum m ys 0 = ((numS ys).1, (numS ys).2.1, 0) := by
  have ha : ahS m ys = numS ys := by unfold ahS; rw [if_neg (by omega)]
  unfold rNum
  rw [if_pos rfl, ha, if_pos he]
theorem rNum_big {m : Nat} {ys : List UInt8} (he : (numS ys).2.2 = 0) (hm : ¬ (numS ys).1 ≤ m) : rNum m ys 0 = (0, 0, 12) := by
  have ha : ahS m ys = (0, 0, 12) := by unfold ahS; rw [if_pos ⟨he, by omega⟩]
  unfold rNum
  rw [if_pos rfl, ha, if_neg (by simp)]
  rfl
theorem rNum_bad {m : Nat} {ys : List UInt8} (he : ¬ (numS ys).2.2 = 0) : rNum m ys 0 = (0, 0, (((numS ys).2.2 : Nat) : Int)) := by
  have ha : ahS m ys = numS ys := by unfold ahS; rw [if_neg (fun h => he h.1)]
  unfold rNum
  rw [if_pos rfl, ha, if_neg he]
theorem rNum_f {m : Nat} {ys : List UInt8} {f : Int} (hf : ¬ f = 0) : rNum m ys f = (0, 0, f) := by unfold rNum; rw [if_neg hf]
theorem prev_two (xs : List UInt8) : ((prevS xs).2.2 == 0) = (twoS xs).2.2 := by unfold prevS twoS; simp only; exact rEnd_zero _ _
theorem age_one (xs : List UInt8) : ((ageS xs).2 == 0) = (oneS xs).2 := by unfold ageS oneS; simp only; exact rEnd_zero _ _
theorem hop_two (xs : List UInt8) : ((hopS xs).2.2 == 0) = ((twoS xs).2.2 && (decide (1 ≤ (twoS xs).1) && (decide ((twoS xs).1 ≤ 255) && decide ((twoS xs).2.1 ≤ (twoS xs).1)))) := by
  unfold hopS twoS eidS
  simp only [rEnd_zero]
  by_cases he : (numS xs).2.2 = 0
  · by_cases hv : (numS xs).1 ≤ 255
    · rw [rNum_ok he hv, rNum_ok he (show (numS xs).1 ≤ 281474976710655 by omega)]
      simp only
      obtain ⟨v, hvv⟩ : ∃ v, v = (numS xs).1 := ⟨_, rfl⟩
      obtain ⟨ys, hys⟩ : ∃ ys, ys = xs.drop (numS xs).2.1 := ⟨_, rfl⟩
      rw [← List.drop_drop, ← hvv, ← hys]
      rw [← hvv] at hv
      by_cases h1 : 1 ≤ v
      · have hm : mustF (decide ((1 : Int) ≤ (v : Nat))) 0 = 0 := by unfold mustF; rw [if_pos (by simp; omega)]
        rw [hm]
        by_cases he2 : (numS ys).2.2 = 0
        · by_cases hc : (numS ys).1 ≤ v
          · rw [rNum_ok he2 hc, rNum_ok he2 (show (numS ys).1 ≤ 281474976710655 by omega)]
            simp [h1, hv, hc]
          · rw [rNum_big he2 hc]
            by_cases hc2 : (numS ys).1 ≤ 281474976710655
            · rw [rNum_ok he2 hc2]
              simp [hc]
            · rw [rNum_big he2 hc2]
              simp
        · rw [rNum_bad he2, rNum_bad he2]
          have : ¬ (((numS ys).2.2 : Nat) : Int) = 0 := by omega
          simp [this, he2]
      · have hm : mustF (decide ((1 : Int) ≤ (v : Nat))) 0 = 20 := by unfold mustF; rw [if_neg (by simp; omega), if_pos rfl]
        rw [hm, rNum_f (by decide)]
        simp [h1]
    · rw [rNum_big he hv]
      have hm : mustF (decide ((1 : Int) ≤ ((0 : Nat) : Int))) 12 = 12 := by decide
      simp only
      rw [hm, rNum_f (by decide)]
      by_cases hv2 : (numS xs).1 ≤ 281474976710655
      · rw [rNum_ok he hv2]
        simp [hv]
      · rw [rNum_big he hv2]
        simp only
        rw [rNum_f (by decide)]
        simp
  · have hne : ¬ (((numS xs).2.2 : Nat) : Int) = 0 := by omega
    rw [rNum_bad he, rNum_bad he]
    simp only
    have hm : mustF (decide ((1 : Int) ≤ ((0 : Nat) : Int))) (((numS xs).2.2 : Nat) : Int) = (((numS xs).2.2 : Nat) : Int) := by unfold mustF; rw [if_neg (by decide), if_neg hne]
    rw [hm, rNum_f hne, rNum_f hne]
    simp [hne, he]
set_option maxRecDepth 20000 in
theorem known_d (t : Nat) (w : World) : Calls Try.prog 79 #[.int .u64 t] w fun e w' => e = .returned (.bool (knownB t)) ∧ w' = w := by
  by_cases h6 : t = 6
  · subst h6
    go_enter Try.func79, Try.ntmps79
    go_wp2
    go_ret
    exact ⟨rfl, rfl⟩
  by_cases h7 : t = 7
  · subst h7
    go_enter Try.func79, Try.ntmps79
    go_wp2
    go_ret
    exact ⟨rfl, rfl⟩
  by_cases h10 : t = 10
  · subst h10
    go_enter Try.func79, Try.ntmps79
    go_wp2
    go_ret
    exact ⟨rfl, rfl⟩
  have HV : Hid (knownB t = false) := by unfold Hid knownB; simp [h6, h7, h10]
  go_enter Try.func79, Try.ntmps79
  go_wp2
  go_ret
  exact ⟨by rw [HV.out]; simp; omega, rfl⟩
set_option maxRecDepth 20000 in
set_option maxHeartbeats 1600000 in
theorem holds_d (kind : Nat) (ao : Option Addr) (cap : Nat) (xs : List UInt8) (w : World) (hx : Rd w ao xs) (hnil : ao = none → cap = 0) (hl : xs.length ≤ 140737488355328) :
    Calls Try.prog 68 #[.int .u64 kind, .slice ao xs.length cap] w fun e w' => e = .returned (.bool (holdsS kind xs)) ∧ Below w.heap.size w w' := by
  have HN : Hid (ao = none → cap = 0) := hnil
  clear hnil
  by_cases h6 : kind = 6
  · subst h6
    have HV : Hid (holdsS 6 xs = (twoS xs).2.2) := (show holdsS 6 xs = ((prevS xs).2.2 == 0) from rfl).trans (prev_two xs)
    go_enter Try.func68, Try.ntmps68
    go_wp2_with fail
    refine (two_d ao cap xs w hx HN.out hl).mono ?_
    rintro e w1 ⟨rfl, hb1⟩
    go_wp2
    go_ret
    exact ⟨by rw [HV.out]; rfl, hb1⟩
  by_cases h7 : kind = 7
  · subst h7
    have HV : Hid (holdsS 7 xs = (oneS xs).2) := (show holdsS 7 xs = ((ageS xs).2 == 0) from rfl).trans (age_one xs)
    go_enter Try.func68, Try.ntmps68
    go_wp2_with fail
    refine (one_d ao cap xs w hx HN.out hl).mono ?_
    rintro e w1 ⟨rfl, hb1⟩
    go_wp2
    go_ret
    exact ⟨by rw [HV.out]; rfl, hb1⟩
  by_cases h10 : kind = 10
  · subst h10
    have HV : Hid (holdsS 10 xs = ((twoS xs).2.2 && (decide (1 ≤ (twoS xs).1) && (decide ((twoS xs).1 ≤ 255) && decide ((twoS xs).2.1 ≤ (twoS xs).1))))) := (show holdsS 10 xs = ((hopS xs).2.2 == 0) from rfl).trans (hop_two xs)
    go_enter Try.func68, Try.ntmps68
    go_wp2_with fail
    refine (two_d ao cap xs w hx HN.out hl).mono ?_
    rintro e w1 ⟨rfl, hb1⟩
    obtain ⟨v, hv⟩ : ∃ v, v = (twoS xs).1 := ⟨_, rfl⟩
    obtain ⟨c, hc⟩ : ∃ v, v = (twoS xs).2.1 := ⟨_, rfl⟩
    obtain ⟨r, hr⟩ : ∃ v, v = (twoS xs).2.2 := ⟨_, rfl⟩
    rw [← hv, ← hc, ← hr] at HV ⊢
    clear hv hc hr
    rcases r with _ | _
    · go_wp2
      go_ret
      exact ⟨by rw [HV.out]; rfl, hb1⟩
    · by_cases h1 : 1 ≤ v
      · by_cases h2 : v ≤ 255
        · by_cases h3 : c ≤ v
          · go_wp2
            go_ret
            exact ⟨by rw [HV.out]; simp [h1, h2, h3] <;> omega, hb1⟩
          · go_wp2
            go_ret
            exact ⟨by rw [HV.out]; simp [h1, h2, h3] <;> omega, hb1⟩
        · go_wp2
          go_ret
          exact ⟨by rw [HV.out]; simp [h1, h2] <;> omega, hb1⟩
      · go_wp2
        go_ret
        exact ⟨by rw [HV.out]; simp [h1] <;> omega, hb1⟩
  have HV : Hid (holdsS kind xs = true) := holdsS_other h6 h7 h10
  go_enter Try.func68, Try.ntmps68
  go_wp2
  go_ret
  exact ⟨by rw [HV.out]; rfl, Below.refl _ _⟩
end Go.Proofs.Ytdpkommmkcmifaa
namespace Go.Proofs.Ytdpkommmkcmifaa
set_option linter.unusedVariables false
set_option linter.unusedSimpArgs false
open Go.RowKit
/-- a Reader's number: what it answers, what is ahead then, the fault then -/
def nmS (m : Nat) (s : List UInt8 × Int) : Nat × List UInt8 × Int := ((rNum m s.1 s.2).1, s.1.drop (rNum m s.1 s.2).2.1, (rNum m s.1 s.2).2.2)
def byS (n : Int) (s : List UInt8 × Int) : List UInt8 × List UInt8 × Int := ((rBytes n s.1 s.2).1, s.1.drop (rBytes n s.1 s.2).2.1, (rBytes n s.1 s.2).2.2)
def tkS (n : Int) (s : List UInt8 × Int) : List UInt8 × List UInt8 × Int := ((rTake n s.1 s.2).1, s.1.drop (rTake n s.1 s.2).2.1, (rTake n s.1 s.2).2.2)
def muS (r : Bool) (s : List UInt8 × Int) : List UInt8 × Int := (s.1, mustF r s.2)
/-- the block ahead, behind these -/
def blockS (l : List Blk) (s : List UInt8 × Int) : Blk × List UInt8 × Int :=
  let a := nmS 281474976710655 s
  let b := nmS 281474976710655 (muS (typeS l a.1) a.2)
  let c := nmS 281474976710655 (muS (numbS l b.1) b.2)
  let d := byS 64 (muS (decide (c.1 ≤ 255)) c.2)
  (⟨a.1, b.1, c.1, d.1⟩, muS (dataS a.1 d.1) d.2)
/-- so many blocks ahead, as long as there is no fault -/
def blocksS : Nat → List Blk → List UInt8 × Int → List Blk × List UInt8 × Int
  | 0, l, s => (l, s)
  | n + 1, l, s => if s.2 = 0 then blocksS n (l ++ [(blockS l s).1]) (blockS l s).2 else (l, s)
theorem blocksS_bad (n : Nat) (l : List Blk) (s : List UInt8 × Int) (h : ¬ s.2 = 0) : blocksS n l s = (l, s) := by
  cases n with
  | zero => rfl
  | succ n => unfold blocksS; rw [if_neg h]
theorem blocksS_step (n : Nat) (l : List Blk) (s : List UInt8 × Int) (h : s.2 = 0) : blocksS (n + 1) l s = blocksS n (l ++ [(blockS l s).1]) (blockS l s).2 := by
  rw [blocksS, if_pos h]
/-- the bundle ahead -/
def readS (s : List UInt8 × Int) : Bun × List UInt8 × Int :=
  let t := tkS 1 s
  let a := nmS 281474976710655 (muS (t.1 == [6]) t.2)
  let e0 := nmS 281474976710655 (muS (decide (a.1 < 8)) a.2)
  let e1 := nmS 281474976710655 e0.2
  let e2 := nmS 281474976710655 e1.2
  let e3 := nmS 281474976710655 e2.2
  let e4 := nmS 281474976710655 e3.2
  let e5 := nmS 281474976710655 e4.2
  let tm := nmS 281474976710655 e5.2
  let sq := nmS 281474976710655 tm.2
  let lf := nmS 281474976710655 sq.2
  let c := nmS 281474976710655 lf.2
  let bl := blocksS c.1 [] (muS (decide (c.1 ≤ 8)) c.2)
  let py := byS 512 bl.2
  (⟨a.1, e0.1, e1.1, e2.1, e3.1, e4.1, e5.1, tm.1, sq.1, lf.1, bl.1, py.1⟩, py.2)
theorem rNum_lem (m : Nat) (ys : List UInt8) (f : Int) : (rNum m ys f).1 ≤ m := by
  by_cases hf : f = 0
  · subst hf
    by_cases he : (numS ys).2.2 = 0
    · by_cases hm : (numS ys).1 ≤ m
      · rw [rNum_ok he hm]; exact hm
      · rw [rNum_big he hm]; exact Nat.zero_le _
    · rw [rNum_bad he]; exact Nat.zero_le _
  · rw [rNum_f hf]; exact Nat.zero_le _
theorem nmS_le {m : Nat} {s : List UInt8 × Int} {n : Nat} {t : List UInt8 × Int} (h : nmS m s = (n, t)) : n ≤ m := by
  unfold nmS at h
  simp only [Prod.mk.injEq] at h
  rw [← h.1]
  exact rNum_lem _ _ _
theorem rBytes_lem (n : Int) (ys : List UInt8) (f : Int) : (rBytes n ys f).1.length ≤ n.toNat := by
  unfold rBytes
  by_cases hf : f = 0
  · rw [if_pos hf]
    by_cases hn : n < 0
    · rw [if_pos hn]; simp
    · rw [if_neg hn]
      by_cases he : (ahS n.toNat ys).2.2 = 0
      · rw [if_pos he]
        split
        · simp
        · have h1 : (ahS n.toNat ys).1 ≤ n.toNat := by
            unfold ahS at he ⊢
            split
            · simp
            · rename_i hh
              rw [if_neg hh] at he
              omega
          simp only [List.length_take]
          omega
      · rw [if_neg he]; simp
  · rw [if_neg hf]; simp
theorem byS_le {n : Int} {s : List UInt8 × Int} {d : List UInt8} {t : List UInt8 × Int} (h : byS n s = (d, t)) : d.length ≤ n.toNat := by
  unfold byS at h
  simp only [Prod.mk.injEq] at h
  rw [← h.1]
  exact rBytes_lem _ _ _
theorem number_t {p B m n1 : Nat} {ys ys1 : List UInt8} {f f1 : Int} (w : World) (h : RS w p B ys f) (hn : nmS m (ys, f) = (n1, ys1, f1)) :
    Calls Try.prog 59 #[.pointer (some ⟨p, 0, none⟩), .int .u64 m] w fun e w' => e = .returned (.int .u64 (n1 : Nat)) ∧ RS w' p B ys1 f1 ∧ w.grownBy w' (some p) := by
  refine (number_s m w h).mono ?_
  rintro e w' ⟨rfl, h1, h2⟩
  unfold nmS at hn
  simp only [Prod.mk.injEq] at hn
  obtain ⟨rfl, rfl, rfl⟩ := hn
  exact ⟨rfl, h1, h2⟩
theorem eid_t {p B n1 n2 : Nat} {ys ys1 ys2 : List UInt8} {f f1 f2 : Int} (w : World) (h : RS w p B ys f) (hn : nmS 281474976710655 (ys, f) = (n1, ys1, f1)) (hn2 : nmS 281474976710655 (ys1, f1) = (n2, ys2, f2)) :
    Calls Try.prog 60 #[.pointer (some ⟨p, 0, none⟩)] w fun e w' => e = .returned (.agg #[.int .u64 (n1 : Nat), .int .u64 (n2 : Nat)]) ∧ RS w' p B ys2 f2 ∧ w.grownBy w' (some p) := by
  refine (readEID_s w h).mono ?_
  rintro e w' ⟨rfl, h1, h2⟩
  unfold nmS at hn hn2
  simp only [Prod.mk.injEq] at hn hn2
  obtain ⟨rfl, rfl, rfl⟩ := hn
  obtain ⟨rfl, rfl, rfl⟩ := hn2
  exact ⟨rfl, by rw [List.drop_drop]; exact h1, h2⟩
theorem must_t {p B : Nat} {ys : List UInt8} {f : Int} (r : Bool) (w : World) (h : RS w p B ys f) :
    Calls Try.prog 57 #[.pointer (some ⟨p, 0, none⟩), .bool r] w fun e w' => e = .returned (.tuple #[]) ∧ RS w' p B ys (mustF r f) ∧ w.grownBy w' (some p) := must_s r w h
theorem bytes_t {p B : Nat} {ys ys1 d : List UInt8} {f f1 : Int} (n : Int) (hn64 : n ≤ 9223372036854775807) (w : World) (h : RS w p B ys f) (hn : byS n (ys, f) = (d, ys1, f1)) :
    Calls Try.prog 63 #[.pointer (some ⟨p, 0, none⟩), .int .i64 n] w fun e w' => ∃ a c, e = .returned (.slice a d.length c) ∧ Own w' w.heap.size (.slice a d.length c) d ∧ RS w' p B ys1 f1 ∧ w.grownBy w' (some p) := by
  obtain ⟨ao, cap, xs, pl, h1, rfl, h3, h4⟩ := h
  refine (bytes_r n hn64 w h1).mono ?_
  rintro e w' ⟨v, rfl, k0, k1, k2⟩
  unfold byS at hn
  simp only [Prod.mk.injEq] at hn
  obtain ⟨rfl, rfl, rfl⟩ := hn
  obtain ⟨a, c, rfl, -⟩ := k0.val
  exact ⟨a, c, rfl, k0, ⟨ao, cap, xs, _, k1, by rw [List.drop_drop], h3, h4⟩, k2⟩
theorem take_t {p B : Nat} {ys ys1 d : List UInt8} {f f1 : Int} (n : Int) (w : World) (h : RS w p B ys f) (hn : tkS n (ys, f) = (d, ys1, f1)) :
    Calls Try.prog 56 #[.pointer (some ⟨p, 0, none⟩), .int .i64 n] w fun e w' => ∃ a c, e = .returned (.slice a d.length c) ∧ Own w' w.heap.size (.slice a d.length c) d ∧ RS w' p B ys1 f1 ∧ w.grownBy w' (some p) := by
  obtain ⟨ao, cap, xs, pl, h1, rfl, h3, h4⟩ := h
  refine (take_r n w h1).mono ?_
  rintro e w' ⟨v, rfl, k0, k1, k2⟩
  unfold tkS at hn
  simp only [Prod.mk.injEq] at hn
  obtain ⟨rfl, rfl, rfl⟩ := hn
  obtain ⟨a, c, rfl, -⟩ := k0.val
  exact ⟨a, c, rfl, k0, ⟨ao, cap, xs, _, k1, by rw [List.drop_drop], h3, h4⟩, k2⟩
theorem err_t {p B : Nat} {ys : List UInt8} {f : Int} (w : World) (h : RS w p B ys f) :
    Calls Try.prog 61 #[.pointer (some ⟨p, 0, none⟩)] w fun e w' => e = .returned (.int .i64 f) ∧ w' = w := by
  obtain ⟨ao, cap, xs, pl, h1, -⟩ := h
  exact err_r w h1
set_option maxRecDepth 20000 in
set_option maxHeartbeats 400000 in
theorem equal_b (ao : Option Addr) (n cap : Nat) (ys : List UInt8) (hn : n = ys.length) (bo : Option Addr) (m cap' : Nat) (xs : List UInt8) (hm : m = xs.length) (w : World) (hy : Rd w ao ys) (hx : Rd w bo xs) :
    Calls Try.prog 58 #[.slice ao n cap, .slice bo m cap'] w fun e w' => e = .returned (.bool (ys == xs)) ∧ w' = w := by
  subst hn hm
  have h1 := conv_rd' hy _ cap rfl
  have h2 := conv_rd' hx _ cap' rfl
  go_enter Try.func58, Try.ntmps58
  go_wp2
  go_ret
  exact ⟨rfl, rfl⟩
end Go.Proofs.Ytdpkommmkcmifaa
