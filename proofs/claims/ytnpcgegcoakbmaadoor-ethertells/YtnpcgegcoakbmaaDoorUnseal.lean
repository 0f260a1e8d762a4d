import Derived.Test.YtnpcgegcoakbmaaDoorUnsP
import Derived.Test.YtnpcgegcoakbmaaDoorClone
import Derived.Test.YtnpcgegcoakbmaaDoorRegn
namespace Go.Proofs.YtnpcgegcoakbmaaDoor
set_option linter.unusedVariables false
set_option linter.unusedSimpArgs false
open Go.RowKit
theorem Rd.dropU {w : World} {b o : Nat} {xs : List UInt8} (h : Rd w (some ⟨b, o, none⟩) xs) (k : Nat) : Rd w (some ⟨b, o + k, none⟩) (xs.drop k) := by
  intro hp
  obtain ⟨b', o', e, hc⟩ := h (by simp at hp; omega)
  cases e
  refine ⟨b, o + k, rfl, fun i hi => ?_⟩
  have h1 := hc (k + i) (by simp at hi; omega)
  rw [Nat.add_assoc, h1]
  simp
set_option maxRecDepth 20000 in
set_option maxHeartbeats 400000 in
theorem equal_any (ao : Option Addr) (n cap : Nat) (ys : List UInt8) (hn : n = ys.length) (bo : Option Addr) (m cap' : Nat) (xs : List UInt8) (hm : m = xs.length) (w : World) (hy : Rd w ao ys) (hx : Rd w bo xs) :
    Calls Tryd.prog 32 #[.slice ao n cap, .slice bo m cap'] w fun e w' => e = .returned (.bool (ys == xs)) ∧ w' = w := by
  subst hn hm
  have h1 := conv_rd' hy _ cap rfl
  have h2 := conv_rd' hx _ cap' rfl
  go_enter Tryd.func32, Tryd.ntmps32
  go_wp2
  go_ret
  exact ⟨rfl, rfl⟩
set_option maxRecDepth 20000 in
set_option maxHeartbeats 400000 in
theorem unseal_any (ao : Option Addr) (cap : Nat) (xs : List UInt8) (w : World) (hx : Rd w ao xs) (hlc : xs.length ≤ cap) (hcm : cap ≤ 9223372036854775807) (hl : xs.length ≤ 140737488355328) (ht : TabOk w) :
    Calls Tryd.prog 20 #[.slice ao xs.length cap] w fun e w' => ∃ v, e = .returned (.tuple #[v, .int .i64 ((unS xs).2 : Nat)]) ∧ Own w' w.heap.size v (unS xs).1 ∧ Below w.heap.size w w' := by
  by_cases h4 : xs.length < 4
  · have HU : Hid (unS xs = ([], 10)) := by unfold Hid unS; rw [if_pos h4]
    have h4I : (xs.length : Int) - 4 < 0 := by omega
    go_enter Tryd.func20, Tryd.ntmps20
    go_wp2
    go_ret2
    rw [HU.out]
    exact ⟨_, rfl, World.ownsRow_nil _ _ _ _, Below.refl _ _⟩
  · obtain ⟨b, o, rfl, -⟩ := hx (by omega)
    obtain ⟨m, hm⟩ : ∃ m : Nat, m = xs.length - 4 := ⟨_, rfl⟩
    have hmI : (xs.length : Int) - 4 = (m : Int) := by omega
    have hmc : m + 4 ≤ cap := by omega
    have hmx : m + 4 = xs.length := by omega
    have HU : Hid (unS xs = if xs.drop m = sealL (xs.take m) then (xs.take m, 0) else ([], 13)) := by
      unfold Hid unS; rw [if_neg h4, ← hm]
    have hrt := hx.take m
    have hrd := hx.dropU m
    have htl : m = (xs.take m).length := by simp; omega
    have hdl : 4 = (xs.drop m).length := by simp; omega
    have HMX : Hid (m + 4 = xs.length) := hmx
    have HTL : Hid (m = (xs.take m).length) := htl
    have HDL : Hid (4 = (xs.drop m).length) := hdl
    clear h4 hm hmx htl hdl
    have hcI : (m : Int) ≤ (xs.length : Int) := by omega
    have hcI2 : (xs.length : Int) ≤ (cap : Int) := by omega
    have hmk : m < cap := by omega
    have hmk1 : ¬ cap = m := by omega
    have hmk2 : m ≤ cap := by omega
    go_enter Tryd.func20, Tryd.ntmps20
    go_wp2_with fail
    refine wp_region_noPanic ?_
    refine wp_region_held_drew (S := (fun u => Below w.heap.size w u)) (by kernel_rfl) (by first | exact (Below.refl _ _).drew | assumption) (fun hHeld => ?_)
    refine take_at (i := 0) 10 (v := ?_) rfl rfl (by kernel_rfl) (by kernel_rfl) (by kernel_rfl) (fun _ _ _ h => h) (by rfl) ?_ hHeld ?_
    rotate_left
    · (intro w hSw; (try dsimp only at hSw); go_simp; try with_reducible rfl)
    simp only [Act.put, List.setIfInBounds_toArray, List.set_cons_zero, List.set_cons_succ]
    refine take_at (i := 1) 11 (v := ?_) rfl rfl (by kernel_rfl) (by kernel_rfl) (by kernel_rfl) (fun _ _ _ h => h) (by rfl) ?_ hHeld ?_
    rotate_left
    · (intro w hSw; (try dsimp only at hSw); go_simp; try with_reducible rfl)
    simp only [Act.put, List.setIfInBounds_toArray, List.set_cons_zero, List.set_cons_succ]
    refine take_at (i := 2) 12 (v := ?_) rfl rfl (by kernel_rfl) (by kernel_rfl) (by kernel_rfl) (fun _ _ _ h => h) (by rfl) ?_ hHeld ?_
    rotate_left
    · (intro w hSw; (try dsimp only at hSw); go_simp; try with_reducible rfl)
    simp only [Act.put, List.setIfInBounds_toArray, List.set_cons_zero, List.set_cons_succ]
    refine take_at (i := 3) 13 (v := ?_) rfl rfl (by kernel_rfl) (by kernel_rfl) (by kernel_rfl) (fun _ _ _ h => h) (by rfl) ?_ hHeld ?_
    rotate_left
    · (intro w hSw; (try dsimp only at hSw); go_simp; try with_reducible rfl)
    simp only [Act.put, List.setIfInBounds_toArray, List.set_cons_zero, List.set_cons_succ]
    refine take_at (i := 4) 14 (v := ?_) rfl rfl (by kernel_rfl) (by kernel_rfl) (by kernel_rfl) (fun _ _ _ h => h) (by rfl) ?_ hHeld ?_
    rotate_left
    · (intro w hSw; (try dsimp only at hSw); go_simp; try with_reducible rfl)
    simp only [Act.put, List.setIfInBounds_toArray, List.set_cons_zero, List.set_cons_succ]
    refine take_at (i := 5) 15 (v := ?_) rfl rfl (by kernel_rfl) (by kernel_rfl) (by kernel_rfl) (fun _ _ _ h => h) (by rfl) ?_ hHeld ?_
    rotate_left
    · (intro w hSw; (try dsimp only at hSw); go_simp; try with_reducible rfl)
    simp only [Act.put, List.setIfInBounds_toArray, List.set_cons_zero, List.set_cons_succ]
    refine run_at (i := 6) rfl (by kernel_rfl) (by rfl) (fun K hK => ?_)
    simp only [List.getElem_toArray, List.getElem_cons_zero, List.getElem_cons_succ]
    go_simp
    first | (go_at_call 31; refine (sealOf_n _ _ cap (xs.take m) HTL.out _ (hrt.below (by first | exact (Below.refl _ _).drew | assumption)) (by omega) (ht.below (by first | exact (Below.refl _ _).drew | assumption))).mono ?_; rintro e w1 ⟨rfl, hown1, hb1, hs1⟩; have hS1 := below_next (B := w) (by first | exact (Below.refl _ _).drew | assumption) hb1) | (go_at_call 32; refine (equal_any _ _ _ (xs.drop m) (by rw [List.length_drop]) _ 4 4 (sealL (xs.take m)) rfl w1 (hrd.below hS1) (Rd.of_own hown1)).mono ?_; rintro e w2 ⟨rfl, rfl⟩; obtain ⟨bb, hbb⟩ : ∃ bb : Bool, bb = (xs.drop m == sealL (xs.take m)) := ⟨_, rfl⟩; rw [← hbb]; have HBB : Hid (bb = (xs.drop m == sealL (xs.take m))) := hbb; clear hbb)
    go_wp2_with fail
    refine hK.out _ _ (by first | exact (Below.refl _ _).drew | assumption) ?_
    clear hK K
    intro hHeld2
    clear hHeld
    have hHeld := hHeld2
    clear hHeld2
    try simp only [Act.put, List.setIfInBounds_toArray, List.set_cons_zero, List.set_cons_succ]
    refine run_at (i := 7) rfl (by kernel_rfl) (by rfl) (fun K hK => ?_)
    simp only [List.getElem_toArray, List.getElem_cons_zero, List.getElem_cons_succ]
    go_simp
    first | (go_at_call 31; refine (sealOf_n _ _ cap (xs.take m) HTL.out _ (hrt.below (by first | exact (Below.refl _ _).drew | assumption)) (by omega) (ht.below (by first | exact (Below.refl _ _).drew | assumption))).mono ?_; rintro e w1 ⟨rfl, hown1, hb1, hs1⟩; have hS1 := below_next (B := w) (by first | exact (Below.refl _ _).drew | assumption) hb1) | (go_at_call 32; refine (equal_any _ _ _ (xs.drop m) (by rw [List.length_drop]) _ 4 4 (sealL (xs.take m)) rfl w1 (hrd.below hS1) (Rd.of_own hown1)).mono ?_; rintro e w2 ⟨rfl, rfl⟩; obtain ⟨bb, hbb⟩ : ∃ bb : Bool, bb = (xs.drop m == sealL (xs.take m)) := ⟨_, rfl⟩; rw [← hbb]; have HBB : Hid (bb = (xs.drop m == sealL (xs.take m))) := hbb; clear hbb)
    go_wp2_with fail
    refine hK.out _ _ (by first | exact (Below.refl _ _).drew | assumption) ?_
    clear hK K
    intro hHeld2
    clear hHeld
    have hHeld := hHeld2
    clear hHeld2
    try simp only [Act.put, List.setIfInBounds_toArray, List.set_cons_zero, List.set_cons_succ]
    refine take_at (i := 8) 18 (v := ?_) rfl rfl (by kernel_rfl) (by kernel_rfl) (by kernel_rfl) (fun _ _ _ h => h) (by rfl) ?_ hHeld ?_
    rotate_left
    · (intro w hSw; (try dsimp only at hSw); go_simp; try with_reducible rfl)
    simp only [Act.put, List.setIfInBounds_toArray, List.set_cons_zero, List.set_cons_succ]
    refine wpAnyH_done (by kernel_rfl) ?_ _
    refine NoPanic.normal ?_
    have hb2 : Below w.heap.size w w2 := hS1
    cases bb with
    | true =>
      have he : xs.drop m = sealL (xs.take m) := beq_iff_eq.1 HBB.out.symm
      have HU2 : Hid (unS xs = (xs.take m, 0)) := by unfold Hid; rw [HU.out, if_pos he]
      clear HU he
      go_wp2_with fail
      refine (clone_n _ _ cap (xs.take m) HTL.out w2 (hrt.below hb2) (fun h => by cases h) (by omega)).mono ?_
      rintro e w3 ⟨v3, rfl, hown3, hb3⟩
      go_wp2
      go_ret2
      rw [HU2.out]
      exact ⟨_, rfl, hown3.base hb2.size, hb2.trans (hb3.mono hb2.size)⟩
    | false =>
      have he : ¬ xs.drop m = sealL (xs.take m) := fun h => by have := HBB.out; rw [h, beq_self_eq_true] at this; cases this
      have HU2 : Hid (unS xs = ([], 13)) := by unfold Hid; rw [HU.out, if_neg he]
      clear HU he
      go_wp2
      go_ret2
      rw [HU2.out]
      exact ⟨_, rfl, World.ownsRow_nil _ _ _ _, hb2⟩
theorem unseal_n (ao : Option Addr) (n cap : Nat) (xs : List UInt8) (hn : n = xs.length) (r : List UInt8) (q : Nat) (hu : unS xs = (r, q)) (w : World) (hx : Rd w ao xs) (hlc : n ≤ cap) (hcm : cap ≤ 9223372036854775807) (hl : n ≤ 140737488355328) (ht : TabOk w) :
    Calls Tryd.prog 20 #[.slice ao n cap] w fun e w' => ∃ v, e = .returned (.tuple #[v, .int .i64 (q : Nat)]) ∧ Own w' w.heap.size v r ∧ Below w.heap.size w w' := by
  subst hn
  have h := unseal_any ao cap xs w hx hlc hcm hl ht
  rw [hu] at h
  exact h
theorem len_seal (xs ys : List UInt8) : (xs ++ sealL ys).length = xs.length + 4 := by simp [sealL]
end Go.Proofs.YtnpcgegcoakbmaaDoor
