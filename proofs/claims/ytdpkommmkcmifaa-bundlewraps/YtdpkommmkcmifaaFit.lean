import Derived.Test.YtdpkommmkcmifaaWrapP
namespace Go.Proofs.Ytdpkommmkcmifaa
set_option linter.unusedVariables false
set_option linter.unusedSimpArgs false
open Go.RowKit
set_option maxRecDepth 20000 in
set_option maxHeartbeats 1600000 in
theorem fits_d (st : Int) (tm sq lf : Nat) (d : List UInt8) (fa : Option Addr) (fc : Nat) (w : World) :
    Calls Try.prog 24 #[.agg #[.int .i64 st, .int .u64 (tm : Nat), .int .u64 (sq : Nat), .int .u64 (lf : Nat), .slice fa d.length fc]] w fun e w' => e = .returned (.bool (decide (fitF st tm sq lf))) ∧ Below w.heap.size w w' := by
  obtain ⟨v, hv⟩ : ∃ v : Bool, v = decide (fitF st tm sq lf) := ⟨_, rfl⟩
  rw [← hv]
  have HVV : Hid _ := hv
  clear hv
  by_cases h0 : 0 ≤ st
  rotate_left
  · have h0b : decide ((0 : Int) ≤ st) = false := decide_eq_false (by omega)
    have HV : Hid (v = false) := by unfold Hid; rw [HVV.out]; exact decide_eq_false (by unfold fitF; omega)
    go_enter Try.func24, Try.ntmps24
    go_wp2
    go_ret
    exact ⟨by first | (rw [HV.out]; done) | (rw [HV.out]; rfl), al (Below.refl _ _) _⟩
  have h0b : decide ((0 : Int) ≤ st) = true := decide_eq_true (by omega)
  by_cases h1 : st < 8
  rotate_left
  · have h1b : decide (st < (8 : Int)) = false := decide_eq_false (by omega)
    have HV : Hid (v = false) := by unfold Hid; rw [HVV.out]; exact decide_eq_false (by unfold fitF; omega)
    go_enter Try.func24, Try.ntmps24
    go_wp2
    go_ret
    exact ⟨by first | (rw [HV.out]; done) | (rw [HV.out]; rfl), al (Below.refl _ _) _⟩
  have h1b : decide (st < (8 : Int)) = true := decide_eq_true (by omega)
  by_cases h2 : tm ≤ 281474976710655
  rotate_left
  · have h2b : decide ((tm : Int) ≤ 281474976710655) = false := decide_eq_false (by omega)
    have HV : Hid (v = false) := by unfold Hid; rw [HVV.out]; exact decide_eq_false (by unfold fitF; omega)
    go_enter Try.func24, Try.ntmps24
    go_wp2
    go_ret
    exact ⟨by first | (rw [HV.out]; done) | (rw [HV.out]; rfl), al (Below.refl _ _) _⟩
  have h2b : decide ((tm : Int) ≤ 281474976710655) = true := decide_eq_true (by omega)
  by_cases h3 : sq ≤ 281474976710655
  rotate_left
  · have h3b : decide ((sq : Int) ≤ 281474976710655) = false := decide_eq_false (by omega)
    have HV : Hid (v = false) := by unfold Hid; rw [HVV.out]; exact decide_eq_false (by unfold fitF; omega)
    go_enter Try.func24, Try.ntmps24
    go_wp2
    go_ret
    exact ⟨by first | (rw [HV.out]; done) | (rw [HV.out]; rfl), al (Below.refl _ _) _⟩
  have h3b : decide ((sq : Int) ≤ 281474976710655) = true := decide_eq_true (by omega)
  by_cases h4 : lf ≤ 281474976710655
  rotate_left
  · have h4b : decide ((lf : Int) ≤ 281474976710655) = false := decide_eq_false (by omega)
    have HV : Hid (v = false) := by unfold Hid; rw [HVV.out]; exact decide_eq_false (by unfold fitF; omega)
    go_enter Try.func24, Try.ntmps24
    go_wp2
    go_ret
    exact ⟨by first | (rw [HV.out]; done) | (rw [HV.out]; rfl), al (Below.refl _ _) _⟩
  have h4b : decide ((lf : Int) ≤ 281474976710655) = true := decide_eq_true (by omega)
  have HV : Hid (v = true) := by unfold Hid; rw [HVV.out]; exact decide_eq_true (by unfold fitF; omega)
  go_enter Try.func24, Try.ntmps24
  go_wp2
  go_ret
  exact ⟨by first | (rw [HV.out]; done) | (rw [HV.out]; rfl), al (Below.refl _ _) _⟩
end Go.Proofs.Ytdpkommmkcmifaa
