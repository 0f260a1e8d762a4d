import Derived.Test.YtkbpdcjaimbioaaGRest
namespace Go.Proofs.Ytkbpdcjaimbioaa
set_option linter.unusedVariables false
set_option linter.unusedSimpArgs false
open Go.RowKit
theorem sumU_snoc : ∀ (l : List Rg) (s : Int) (x : Rg), sumU s (l ++ [x]) = (sumU s l + (x.2 - x.1)) % 18446744073709551616
  | [], s, x => rfl
  | y :: l, s, x => sumU_snoc l _ x
theorem sumU_in : ∀ (l : List Rg) (s : Int), 0 ≤ s ∧ s < 18446744073709551616 → 0 ≤ sumU s l ∧ sumU s l < 18446744073709551616
  | [], s, h => h
  | y :: l, s, h => sumU_in l _ (by omega)
def totI (s : Int) : Int := if s > 9223372036854775807 then 9223372036854775807 else s
def TotOut (xs : List Rg) (w : World) (e : Ending) (w' : World) : Prop := ∃ out : List Rg, Lst out ∧ (∀ i, hasR out i ↔ hasR xs i) ∧ e = .returned (.int .i64 (totI (sumU 0 out))) ∧ Below w.heap.size w w'
theorem wrap_sub1 (s x1 x2 : Int) : IntKind.u64.wrap (IntKind.u64.wrap (s + IntKind.u64.wrap x2) - IntKind.u64.wrap x1) = (s + (x2 - x1)) % 18446744073709551616 := by
  simp only [IntKind.wrap_u64]
  omega
theorem wrap_sub2 (s x1 x2 : Int) : IntKind.u64.wrap (s + IntKind.u64.wrap (IntKind.u64.wrap x2 - IntKind.u64.wrap x1)) = (s + (x2 - x1)) % 18446744073709551616 := by
  simp only [IntKind.wrap_u64]
  omega
section
set_option maxRecDepth 20000
set_option maxHeartbeats 1600000
theorem rtotal_t (ao : Option Addr) (n cap : Nat) (xs : List Rg) (w : World) (hn : n = xs.length) (hx : RdR w ao xs) (hl : n ≤ 1099511627776) (hri : RI xs) :
    Calls Try.prog 15 #[.slice ao n cap] w fun e w' => TotOut xs w e w' := by
  have HR : Hid _ := rleast_t ao n cap xs w hn hx hl hri
  have HN : Hid _ := hn
  clear hn hri
  go_enter Try.func15, Try.ntmps15
  go_wp2_with (go_at_call 7; refine Calls.mono HR.out ?_; rintro e w1 ⟨v1, out, rfl, hown, h2, h3, h4, h5⟩; obtain ⟨a, c, hv, hc1, hc2, hc3, hrd, hq⟩ := hown.val; obtain ⟨L, hL⟩ : ∃ L : Nat, L = out.length := ⟨_, rfl⟩; rw [← hL] at hv; subst hv; have HL : Hid _ := hL; have HO : Hid (Lst out ∧ (∀ i, hasR out i ↔ hasR xs i) ∧ Below w.heap.size w w1) := ⟨h2, h3, h5⟩; have hLL : L ≤ 1099511627776 := (by have := HN.out; omega); clear hown h2 h3 h4 h5 hc1 hc2 hc3 hq hL)
  go_loopw [4, 5] (fun sv j wr => ∃ k : Nat, k ≤ L ∧ j = .int .i64 (k : Int) ∧ sv = .int .u64 (sumU 0 (out.take k)) ∧ Below w1.heap.size w1 wr) (fun _ j _ => L - (intOf j).toNat)
  case atStart => exact ⟨0, Nat.zero_le _, rfl, rfl, Below.refl _ _⟩
  case round =>
    obtain ⟨k, hk, rfl, rfl, hbw⟩ := hrel
    have hkw : IntKind.i64.wrap ((k : Int) + 1) = ((k + 1 : Nat) : Int) := by rw [IntKind.wrap_i64]; omega
    obtain ⟨s, hs⟩ : ∃ s : Int, s = sumU 0 (out.take k) := ⟨_, rfl⟩
    have HSI : Hid _ := sumU_in (out.take k) 0 (by omega)
    rw [← hs] at HSI
    have HS : Hid _ := hs
    rw [← hs]
    clear hs
    have hbw9 := hbw
    by_cases hlt : k < L
    · have hk1 : k < out.length := by rw [← HL.out]; exact hlt
      have hlti : (k : Int) < (L : Int) := by omega
      have hk0 : (0 : Int) ≤ (k : Int) := by omega
      obtain ⟨b, o, rfl, -, -⟩ := hrd k hk1
      have hr : ∀ u, Below w1.heap.size w1 u → u.cell? ⟨b, o + k * 2, none⟩ = some (.int .i64 out[k].1) ∧ u.cell? ⟨b, o + k * 2 + 1, none⟩ = some (.int .i64 out[k].2) := fun u hu => by
        obtain ⟨b', o', e9, h1, h2⟩ := (hrd.below hu) k hk1
        cases e9
        exact ⟨h1, h2⟩
      obtain ⟨x, hx9⟩ : ∃ x : Rg, x = out[k] := ⟨_, rfl⟩
      rw [← hx9] at hr
      have HTK : Hid (out.take (k + 1) = out.take k ++ [x]) := by unfold Hid; rw [List.take_succ_eq_append_getElem hk1, hx9]
      obtain ⟨a1, a2⟩ := x
      have hc1 : ∀ u, Below w1.heap.size w1 u → u.cell? ⟨b, o + k * 2, none⟩ = some (.int .i64 a1) := fun u hu => (hr u hu).1
      have hc2 : ∀ u, Below w1.heap.size w1 u → u.cell? ⟨b, o + k * 2 + 1, none⟩ = some (.int .i64 a2) := fun u hu => (hr u hu).2
      have HW : Hid _ := wrap_sub1 s a1 a2
      have HNX : Hid ((s + (a2 - a1)) % 18446744073709551616 = sumU 0 (out.take (k + 1))) := by unfold Hid; rw [HTK.out, sumU_snoc, HS.out]
      clear hx9 hr
      go_wp2_with fail
      refine wp_region_noPanic ?_
      refine wp_region_held_drew (S := (fun u => Below w1.heap.size w1 u)) (by kernel_rfl) (by first | exact hbw.drew | assumption) (fun hHeld => ?_)
      refine take_at (i := 0) 14 (v := ?_) rfl rfl (by kernel_rfl) (by kernel_rfl) (by kernel_rfl) (fun _ _ _ h => h) (by rfl) ?_ hHeld ?_
      rotate_left
      · (intro w hSw; (try dsimp only at hSw); go_simp; try with_reducible rfl)
      simp only [Act.put, List.setIfInBounds_toArray, List.set_cons_zero, List.set_cons_succ]
      refine take_at (i := 1) 15 (v := ?_) rfl rfl (by kernel_rfl) (by kernel_rfl) (by kernel_rfl) (fun _ _ _ h => h) (by rfl) ?_ hHeld ?_
      rotate_left
      · (intro w hSw; (try dsimp only at hSw); go_simp; try with_reducible rfl)
      simp only [Act.put, List.setIfInBounds_toArray, List.set_cons_zero, List.set_cons_succ]
      refine take_at (i := 2) 16 (v := ?_) rfl rfl (by kernel_rfl) (by kernel_rfl) (by kernel_rfl) (fun _ _ _ h => h) (by rfl) ?_ hHeld ?_
      rotate_left
      · (intro w hSw; (try dsimp only at hSw); go_simp; try with_reducible rfl)
      simp only [Act.put, List.setIfInBounds_toArray, List.set_cons_zero, List.set_cons_succ]
      refine take_at (i := 3) 17 (v := ?_) rfl rfl (by kernel_rfl) (by kernel_rfl) (by kernel_rfl) (fun _ _ _ h => h) (by rfl) ?_ hHeld ?_
      rotate_left
      · (intro w hSw; (try dsimp only at hSw); go_simp; try with_reducible rfl)
      simp only [Act.put, List.setIfInBounds_toArray, List.set_cons_zero, List.set_cons_succ]
      refine take_at (i := 4) 18 (v := ?_) rfl rfl (by kernel_rfl) (by kernel_rfl) (by kernel_rfl) (fun _ _ _ h => h) (by rfl) ?_ hHeld ?_
      rotate_left
      · (intro w hSw; (try dsimp only at hSw); go_simp; try with_reducible rfl)
      simp only [Act.put, List.setIfInBounds_toArray, List.set_cons_zero, List.set_cons_succ]
      refine take_at (i := 5) 19 (v := ?_) rfl rfl (by kernel_rfl) (by kernel_rfl) (by kernel_rfl) (fun _ _ _ h => h) (by rfl) ?_ hHeld ?_
      rotate_left
      · (intro w hSw; (try dsimp only at hSw); go_simp; try with_reducible rfl)
      simp only [Act.put, List.setIfInBounds_toArray, List.set_cons_zero, List.set_cons_succ]
      refine take_at (i := 6) 20 (v := ?_) rfl rfl (by kernel_rfl) (by kernel_rfl) (by kernel_rfl) (fun _ _ _ h => h) (by rfl) ?_ hHeld ?_
      rotate_left
      · (intro w hSw; (try dsimp only at hSw); go_simp; try with_reducible rfl)
      simp only [Act.put, List.setIfInBounds_toArray, List.set_cons_zero, List.set_cons_succ]
      refine take_at (i := 7) 21 (v := ?_) rfl rfl (by kernel_rfl) (by kernel_rfl) (by kernel_rfl) (fun _ _ _ h => h) (by rfl) ?_ hHeld ?_
      rotate_left
      · (intro w hSw; (try dsimp only at hSw); go_simp; try with_reducible rfl)
      simp only [Act.put, List.setIfInBounds_toArray, List.set_cons_zero, List.set_cons_succ]
      refine take_at (i := 8) 22 (v := ?_) rfl rfl (by kernel_rfl) (by kernel_rfl) (by kernel_rfl) (fun _ _ _ h => h) (by rfl) ?_ hHeld ?_
      rotate_left
      · (intro w hSw; (try dsimp only at hSw); go_simp; try with_reducible rfl)
      simp only [Act.put, List.setIfInBounds_toArray, List.set_cons_zero, List.set_cons_succ]
      refine take_at (i := 9) 23 (v := ?_) rfl rfl (by kernel_rfl) (by kernel_rfl) (by kernel_rfl) (fun _ _ _ h => h) (by rfl) ?_ hHeld ?_
      rotate_left
      · (intro w hSw; (try dsimp only at hSw); go_simp; try with_reducible rfl)
      simp only [Act.put, List.setIfInBounds_toArray, List.set_cons_zero, List.set_cons_succ]
      refine take_at (i := 10) 24 (v := ?_) rfl rfl (by kernel_rfl) (by kernel_rfl) (by kernel_rfl) (fun _ _ _ h => h) (by rfl) ?_ hHeld ?_
      rotate_left
      · (intro w hSw; (try dsimp only at hSw); go_simp; try with_reducible rfl)
      simp only [Act.put, List.setIfInBounds_toArray, List.set_cons_zero, List.set_cons_succ]
      refine take_at (i := 11) 25 (v := ?_) rfl rfl (by kernel_rfl) (by kernel_rfl) (by kernel_rfl) (fun _ _ _ h => h) (by rfl) ?_ hHeld ?_
      rotate_left
      · (intro w hSw; (try dsimp only at hSw); go_simp; try with_reducible rfl)
      simp only [Act.put, List.setIfInBounds_toArray, List.set_cons_zero, List.set_cons_succ]
      refine take_at (i := 12) 26 (v := ?_) rfl rfl (by kernel_rfl) (by kernel_rfl) (by kernel_rfl) (fun _ _ _ h => h) (by rfl) ?_ hHeld ?_
      rotate_left
      · (intro w hSw; (try dsimp only at hSw); go_simp; try with_reducible rfl)
      simp only [Act.put, List.setIfInBounds_toArray, List.set_cons_zero, List.set_cons_succ]
      refine take_at (i := 13) 27 (v := ?_) rfl rfl (by kernel_rfl) (by kernel_rfl) (by kernel_rfl) (fun _ _ _ h => h) (by rfl) ?_ hHeld ?_
      rotate_left
      · (intro w hSw; (try dsimp only at hSw); go_simp; try with_reducible rfl)
      simp only [Act.put, List.setIfInBounds_toArray, List.set_cons_zero, List.set_cons_succ]
      refine take_at (i := 14) 28 (v := ?_) rfl rfl (by kernel_rfl) (by kernel_rfl) (by kernel_rfl) (fun _ _ _ h => h) (by rfl) ?_ hHeld ?_
      rotate_left
      · (intro w hSw; (try dsimp only at hSw); go_simp; try with_reducible rfl)
      simp only [Act.put, List.setIfInBounds_toArray, List.set_cons_zero, List.set_cons_succ]
      refine take_at (i := 15) 4 (v := ?_) rfl rfl (by kernel_rfl) (by kernel_rfl) (by kernel_rfl) (fun _ _ _ h => h) (by rfl) ?_ hHeld ?_
      rotate_left
      · (intro w hSw; (try dsimp only at hSw); go_simp; try with_reducible rfl)
      simp only [Act.put, List.setIfInBounds_toArray, List.set_cons_zero, List.set_cons_succ]
      refine wpAnyH_done (by kernel_rfl) ?_ _
      refine NoPanic.normal ?_
      go_wp2
      go_roundw
      case rel => exact ⟨k + 1, by omega, by go_num, by rw [← HNX.out, ← HW.out], hbw9.drew⟩
      case measure => simp [intOf]; omega
    · have hlti : ¬ (k : Int) < (L : Int) := by omega
      have HF : Hid (s = sumU 0 out) := by
        have h9 := HS.out
        rw [List.take_of_length_le (by rw [← HL.out]; omega)] at h9
        exact h9
      by_cases hgt : 9223372036854775807 < s
      · have HT : Hid (totI (sumU 0 out) = 9223372036854775807) := by unfold Hid totI; rw [← HF.out, if_pos hgt]
        go_wp2
        go_ret
        exact ⟨out, HO.out.1, HO.out.2.1, by rw [HT.out]; rfl, below_next HO.out.2.2 hbw9⟩
      · have HT : Hid (totI (sumU 0 out) = s) := by unfold Hid totI; rw [← HF.out, if_neg hgt]
        have hws : IntKind.i64.wrap s = s := by rw [IntKind.wrap_i64]; have := HSI.out; omega
        go_wp2
        go_ret
        exact ⟨out, HO.out.1, HO.out.2.1, by rw [HT.out]; rfl, below_next HO.out.2.2 hbw9⟩
end
end Go.Proofs.Ytkbpdcjaimbioaa
