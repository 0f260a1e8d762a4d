import Derived.Test.YtpakkpahcpgnnaaGreatDoorCuP
set_option linter.unusedVariables false
set_option linter.unusedSimpArgs false
namespace Go.Proofs.YtpakkpahcpgnnaaGreatDoor
open Go.RowKit
def hasB (l : List Rg) (i : Int) : Bool := l.any fun x => decide (x.1 ≤ i ∧ i < x.2)
theorem hasB_take {l : List Rg} {i : Int} {k : Nat} (hk : k < l.length) : hasB (l.take (k + 1)) i = (hasB (l.take k) i || decide (l[k].1 ≤ i ∧ i < l[k].2)) := by
 unfold hasB; rw [List.take_succ_eq_append_getElem hk, List.any_append]; simp
theorem hasB_all {l : List Rg} {i : Int} {k : Nat} (hk : l.length ≤ k) : hasB (l.take k) i = hasB l i := by rw [List.take_of_length_le hk]
theorem hasB_in {l : List Rg} {i : Int} {k : Nat} (hk : k < l.length) (h : l[k].1 ≤ i ∧ i < l[k].2) : hasB l i = true := by
 unfold hasB; rw [List.any_eq_true]; exact ⟨l[k], List.getElem_mem hk, by simpa using h⟩
section
set_option maxRecDepth 20000
set_option maxHeartbeats 800000
theorem empty_t (a b : Int) (w : World) : Calls Tryz.prog 84 #[.agg #[.int .i64 a, .int .i64 b]] w fun e w' => e = .returned (.bool (decide (b ≤ a))) ∧ Below w.heap.size w w' := by
 go_enter Tryz.func84, Tryz.ntmps84
 go_wp2; go_ret; exact ⟨rfl, al (bR _ _) _⟩
theorem rhas_t (ao : Option Addr) (n cap : Nat) (xs : List Rg) (i : Int) (w : World) (hn : n = xs.length) (hx : RdR w ao xs) (hl : n ≤ 1099511627776) :
 Calls Tryz.prog 120 #[.slice ao n cap, .int .i64 i] w fun e w' => e = .returned (.bool (hasB xs i)) ∧ w' = w := by
 have HN : Hid _ := hn; clear hn; go_enter Tryz.func120, Tryz.ntmps120
 go_wp2; go_loopw [5] (fun j wr => ∃ k : Nat, k ≤ n ∧ j = .int .i64 (k : Int) ∧ hasB (xs.take k) i = false ∧ wr = w) (fun j _ => n - (intOf j).toNat)
 case atStart => exact ⟨0, Nat.zero_le _, rfl, rfl, rfl⟩
 case round =>
  obtain ⟨k, hk, rfl, hall, hq⟩ := hrel; subst hq; have hkw : IntKind.i64.wrap ((k : Int) + 1) = ((k + 1 : Nat) : Int) := by rw [IntKind.wrap_i64]; omega
  have HA : Hid _ := hall; clear hall
  by_cases hlt : k < n
  · have hk1 : k < xs.length := by rw [← HN.out]; exact hlt
    have hlti : (k : Int) < (n : Int) := by omega
    have hk0 : (0 : Int) ≤ (k : Int) := by omega
    obtain ⟨b, o, rfl, hc1, hc2⟩ := hx k hk1; obtain ⟨x, hx9⟩ : ∃ x : Rg, x = xs[k] := ⟨_, rfl⟩; rw [← hx9] at hc1 hc2; obtain ⟨a1, a2⟩ := x; have HX : Hid (xs[k] = (a1, a2)) := hx9.symm; clear hx9; simp only at hc1 hc2
    by_cases h1 : a1 ≤ i
    · by_cases h2 : i < a2
      · have HF : Hid (hasB xs i = true) := hasB_in hk1 (by rw [HX.out]; exact ⟨h1, h2⟩); go_wp2; go_ret; rw [HF.out]; exact ⟨rfl, rfl⟩
      · have HT : Hid (hasB (xs.take (k + 1)) i = false) := by unfold Hid; rw [hasB_take hk1, HA.out, HX.out]; simp [h2]
        go_wp2; go_roundw
        case rel => exact ⟨k + 1, by omega, by go_num, HT.out, trivial⟩
        case measure => simp [intOf]; omega
    · have HT : Hid (hasB (xs.take (k + 1)) i = false) := by unfold Hid; rw [hasB_take hk1, HA.out, HX.out]; simp [h1]
      go_wp2; go_roundw
      case rel => exact ⟨k + 1, by omega, by go_num, HT.out, trivial⟩
      case measure => simp [intOf]; omega
  · have hlti : ¬ (k : Int) < (n : Int) := by omega
    have HF : Hid (hasB xs i = false) := by unfold Hid; rw [← hasB_all (k := k) (by rw [← HN.out]; omega)]; exact HA.out
    go_wp2; go_ret; rw [HF.out]; exact ⟨rfl, rfl⟩
end
open Go.RowKit
def I64 (n : Int) : Prop := -9223372036854775808 ≤ n ∧ n ≤ 9223372036854775807
def RI (l : List Rg) : Prop := ∀ x ∈ l, I64 x.1 ∧ I64 x.2
theorem max_if (a b : Int) : (if a < b then b else a) = max a b := by split <;> omega
def NextOut (xs : List Rg) (at_ : Int) (w : World) (e : Ending) (w' : World) : Prop := ∃ (f : Int) (ok : Bool), e = .returned (.tuple #[.int .i64 f, .bool ok]) ∧ NextS xs at_ f ok ∧ Below w.heap.size w w'
section
set_option maxRecDepth 20000
set_option maxHeartbeats 1600000
theorem next_t (ao : Option Addr) (n cap : Nat) (xs : List Rg) (at_ : Int) (w : World) (hn : n = xs.length) (hx : RdR w ao xs) (hl : n ≤ 1099511627776) :
 Calls Tryz.prog 156 #[.slice ao n cap, .int .i64 at_] w fun e w' => NextOut xs at_ w e w' := by
 have HN : Hid _ := hn; clear hn; go_enter Tryz.func156, Tryz.ntmps156
 go_wp2; go_loopw [6, 7, 8, 9] (fun fd le j _ wr => ∃ (k : Nat) (f : Int) (ok : Bool), k ≤ n ∧ fd = .bool ok ∧ le = .int .i64 f ∧ j = .int .i64 (k : Int) ∧ NextS (xs.take k) at_ f ok ∧ Below w.heap.size w wr) (fun _ _ j _ _ => n - (intOf j).toNat)
 case atStart => exact ⟨0, 0, false, Nat.zero_le _, rfl, rfl, rfl, NextS.nil _ _, bR _ _⟩
 case round =>
  obtain ⟨k, f, ok, hk, rfl, rfl, rfl, hns, hbw⟩ := hrel; have hkw : IntKind.i64.wrap ((k : Int) + 1) = ((k + 1 : Nat) : Int) := by rw [IntKind.wrap_i64]; omega
  have HNS : Hid _ := hns; have HBW : Hid _ := hbw; clear hns
  by_cases hlt : k < n
  · have hk1 : k < xs.length := by rw [← HN.out]; exact hlt
    have hlti : (k : Int) < (n : Int) := by omega
    have hk0 : (0 : Int) ≤ (k : Int) := by omega
    obtain ⟨b, o, rfl, -, -⟩ := hx k hk1
    have hr : ∀ u, Below w.heap.size w u → u.cell? ⟨b, o + k * 2, none⟩ = some (.int .i64 xs[k].1) ∧ u.cell? ⟨b, o + k * 2 + 1, none⟩ = some (.int .i64 xs[k].2) := fun u hu => by
     obtain ⟨b', o', e9, h1, h2⟩ := (hx.below hu) k hk1; cases e9; exact ⟨h1, h2⟩
    obtain ⟨x, hx9⟩ : ∃ x : Rg, x = xs[k] := ⟨_, rfl⟩; rw [← hx9] at hr; have HTK : Hid (xs.take (k + 1) = xs.take k ++ [x]) := by unfold Hid; rw [List.take_succ_eq_append_getElem hk1, hx9]
    obtain ⟨a1, a2⟩ := x; have hc1 : ∀ u, Below w.heap.size w u → u.cell? ⟨b, o + k * 2, none⟩ = some (.int .i64 a1) := fun u hu => (hr u hu).1
    have hc2 : ∀ u, Below w.heap.size w u → u.cell? ⟨b, o + k * 2 + 1, none⟩ = some (.int .i64 a2) := fun u hu => (hr u hu).2
    clear hx9 hr
    by_cases h1 : a2 ≤ a1
    · have HNX : Hid (NextS (xs.take (k + 1)) at_ f ok) := by unfold Hid; rw [HTK.out]; exact NextS.skip HNS.out (.inl h1)
      have h1b : decide (a1 ≥ a2) = true := by simpa using h1
      (go_wp2_with fail); refine wp_region_noPanic ?_; refine wp_region_held_drew (S := (fun u => Below w.heap.size w u)) (by kernel_rfl) (by first | exact hbw.drew | assumption) (fun hHeld => ?_); refine tz 0 16 hHeld ?_; simp only [pS]; refine tz 1 17 hHeld ?_; simp only [pS]; refine tz 2 18 hHeld ?_; simp only [pS]; refine tz 3 19 hHeld ?_; simp only [pS]; refine tz 4 20 hHeld ?_; simp only [pS]; refine tz 5 21 hHeld ?_; simp only [pS]; refine tz 6 22 hHeld ?_; simp only [pS]; refine tz 7 23 hHeld ?_; simp only [pS]; refine tz 8 24 hHeld ?_; simp only [pS]; refine tz 9 25 hHeld ?_; simp only [pS]; refine tz 10 26 hHeld ?_; simp only [pS]; refine tz 11 27 hHeld ?_; simp only [pS]; refine qS 12 28 hHeld ?_; simp only [pS]; refine qS 13 29 hHeld ?_; simp only [pS]; refine qS 14 30 hHeld ?_; simp only [pS]; refine qS 15 31 hHeld ?_; simp only [pS]; refine qS 16 32 hHeld ?_; simp only [pS]; refine qS 17 33 hHeld ?_; simp only [pS]; refine qS 18 34 hHeld ?_; simp only [pS]; refine tz 19 35 hHeld ?_; simp only [pS]; refine wpAnyH_done (by kernel_rfl) ?_ _; refine NoPanic.normal ?_; go_wp2; go_roundw
      case rel => exact ⟨k + 1, f, ok, by omega, rfl, rfl, by go_num, HNX.out, HBW.out.drew⟩
      case measure => simp [intOf]; omega
    · have hd : decide (a2 ≤ a1) = false := by simpa using h1
      by_cases h2 : a2 ≤ at_
      · have HNX : Hid (NextS (xs.take (k + 1)) at_ f ok) := by unfold Hid; rw [HTK.out]; exact NextS.skip HNS.out (.inr h2)
        have h1b : a1 < a2 := by omega
        (go_wp2_with fail); refine wp_region_noPanic ?_; refine wp_region_held_drew (S := (fun u => Below w.heap.size w u)) (by kernel_rfl) (by first | exact hbw.drew | assumption) (fun hHeld => ?_); refine tz 0 16 hHeld ?_; simp only [pS]; refine tz 1 17 hHeld ?_; simp only [pS]; refine tz 2 18 hHeld ?_; simp only [pS]; refine tz 3 19 hHeld ?_; simp only [pS]; refine tz 4 20 hHeld ?_; simp only [pS]; refine tz 5 21 hHeld ?_; simp only [pS]; refine tz 6 22 hHeld ?_; simp only [pS]; refine tz 7 23 hHeld ?_; simp only [pS]; refine tz 8 24 hHeld ?_; simp only [pS]; refine tz 9 25 hHeld ?_; simp only [pS]; refine tz 10 26 hHeld ?_; simp only [pS]; refine tz 11 27 hHeld ?_; simp only [pS]; refine tz 12 28 hHeld ?_; simp only [pS]; refine tz 13 29 hHeld ?_; simp only [pS]; refine tz 14 30 hHeld ?_; simp only [pS]; refine tz 15 31 hHeld ?_; simp only [pS]; refine tz 16 32 hHeld ?_; simp only [pS]; refine tz 17 33 hHeld ?_; simp only [pS]; refine tz 18 34 hHeld ?_; simp only [pS]; refine tz 19 35 hHeld ?_; simp only [pS]; refine wpAnyH_done (by kernel_rfl) ?_ _; refine NoPanic.normal ?_; go_wp2; go_roundw
        case rel => exact ⟨k + 1, f, ok, by omega, rfl, rfl, by go_num, HNX.out, HBW.out.drew⟩
        case measure => simp [intOf]; omega
      · have hd2 : decide (a2 ≤ at_) = false := by simpa using h2
        have h1b : a1 < a2 := by omega
        have h2b : at_ < a2 := by omega
        have hc1w : wr.drew.cell? ⟨b, o + k * 2, none⟩ = some (.int .i64 a1) := hc1 _ hbw.drew; cases ok
        · have HNX : Hid (NextS (xs.take (k + 1)) at_ (max a1 at_) true) := by unfold Hid; rw [HTK.out]; exact NextS.take HNS.out h1b h2b (.inl rfl)
          (go_wp2_with fail); refine wp_region_noPanic ?_; refine wp_region_held_drew (S := (fun u => Below w.heap.size w u)) (by kernel_rfl) (by first | exact hbw.drew | assumption) (fun hHeld => ?_); refine tz 0 16 hHeld ?_; simp only [pS]; refine tz 1 17 hHeld ?_; simp only [pS]; refine tz 2 18 hHeld ?_; simp only [pS]; refine tz 3 19 hHeld ?_; simp only [pS]; refine tz 4 20 hHeld ?_; simp only [pS]; refine tz 5 21 hHeld ?_; simp only [pS]; refine tz 6 22 hHeld ?_; simp only [pS]; refine tz 7 23 hHeld ?_; simp only [pS]; refine tz 8 24 hHeld ?_; simp only [pS]; refine tz 9 25 hHeld ?_; simp only [pS]; refine tz 10 26 hHeld ?_; simp only [pS]; refine tz 11 27 hHeld ?_; simp only [pS]; refine tz 12 28 hHeld ?_; simp only [pS]; refine tz 13 29 hHeld ?_; simp only [pS]; refine tz 14 30 hHeld ?_; simp only [pS]; refine tz 15 31 hHeld ?_; simp only [pS]; refine tz 16 32 hHeld ?_; simp only [pS]; refine tz 17 33 hHeld ?_; simp only [pS]; refine tz 18 34 hHeld ?_; simp only [pS]; refine tz 19 35 hHeld ?_; simp only [pS]; refine wpAnyH_done (by kernel_rfl) ?_ _; refine NoPanic.normal ?_; go_wp2; go_roundw
          case rel => exact ⟨k + 1, max a1 at_, true, by omega, rfl, by rw [← max_if], by go_num, HNX.out, HBW.out.drew⟩
          case measure => simp [intOf]; omega
        · by_cases h3 : max a1 at_ < f
          · have HNX : Hid (NextS (xs.take (k + 1)) at_ (max a1 at_) true) := by unfold Hid; rw [HTK.out]; exact NextS.take HNS.out h1b h2b (.inr h3)
            (go_wp2_with fail); refine wp_region_noPanic ?_; refine wp_region_held_drew (S := (fun u => Below w.heap.size w u)) (by kernel_rfl) (by first | exact hbw.drew | assumption) (fun hHeld => ?_); refine tz 0 16 hHeld ?_; simp only [pS]; refine tz 1 17 hHeld ?_; simp only [pS]; refine tz 2 18 hHeld ?_; simp only [pS]; refine tz 3 19 hHeld ?_; simp only [pS]; refine tz 4 20 hHeld ?_; simp only [pS]; refine tz 5 21 hHeld ?_; simp only [pS]; refine tz 6 22 hHeld ?_; simp only [pS]; refine tz 7 23 hHeld ?_; simp only [pS]; refine tz 8 24 hHeld ?_; simp only [pS]; refine tz 9 25 hHeld ?_; simp only [pS]; refine tz 10 26 hHeld ?_; simp only [pS]; refine tz 11 27 hHeld ?_; simp only [pS]; refine tz 12 28 hHeld ?_; simp only [pS]; refine tz 13 29 hHeld ?_; simp only [pS]; refine tz 14 30 hHeld ?_; simp only [pS]; refine tz 15 31 hHeld ?_; simp only [pS]; refine tz 16 32 hHeld ?_; simp only [pS]; refine tz 17 33 hHeld ?_; simp only [pS]; refine tz 18 34 hHeld ?_; simp only [pS]; refine tz 19 35 hHeld ?_; simp only [pS]; refine wpAnyH_done (by kernel_rfl) ?_ _; refine NoPanic.normal ?_; go_wp2; go_roundw
            case rel => exact ⟨k + 1, max a1 at_, true, by omega, rfl, by rw [← max_if], by go_num, HNX.out, HBW.out.drew⟩
            case measure => simp [intOf]; omega
          · have HNX : Hid (NextS (xs.take (k + 1)) at_ f true) := by unfold Hid; rw [HTK.out]; exact NextS.keep HNS.out h1b (by simp only; omega)
            (go_wp2_with fail); refine wp_region_noPanic ?_; refine wp_region_held_drew (S := (fun u => Below w.heap.size w u)) (by kernel_rfl) (by first | exact hbw.drew | assumption) (fun hHeld => ?_); refine tz 0 16 hHeld ?_; simp only [pS]; refine tz 1 17 hHeld ?_; simp only [pS]; refine tz 2 18 hHeld ?_; simp only [pS]; refine tz 3 19 hHeld ?_; simp only [pS]; refine tz 4 20 hHeld ?_; simp only [pS]; refine tz 5 21 hHeld ?_; simp only [pS]; refine tz 6 22 hHeld ?_; simp only [pS]; refine tz 7 23 hHeld ?_; simp only [pS]; refine tz 8 24 hHeld ?_; simp only [pS]; refine tz 9 25 hHeld ?_; simp only [pS]; refine tz 10 26 hHeld ?_; simp only [pS]; refine tz 11 27 hHeld ?_; simp only [pS]; refine tz 12 28 hHeld ?_; simp only [pS]; refine tz 13 29 hHeld ?_; simp only [pS]; refine tz 14 30 hHeld ?_; simp only [pS]; refine tz 15 31 hHeld ?_; simp only [pS]; refine tz 16 32 hHeld ?_; simp only [pS]; refine tz 17 33 hHeld ?_; simp only [pS]; refine tz 18 34 hHeld ?_; simp only [pS]; refine tz 19 35 hHeld ?_; simp only [pS]; refine wpAnyH_done (by kernel_rfl) ?_ _; refine NoPanic.normal ?_; go_wp2; go_roundw
            case rel => exact ⟨k + 1, f, true, by omega, rfl, rfl, by go_num, HNX.out, HBW.out.drew⟩
            case measure => simp [intOf]; omega
  · have hlti : ¬ (k : Int) < (n : Int) := by omega
    have HF : Hid (NextS xs at_ f ok) := by
     have h9 := HNS.out; rw [List.take_of_length_le (by rw [← HN.out]; omega)] at h9; exact h9
    go_wp2; go_ret2; exact ⟨f, ok, rfl, HF.out, hbw⟩
end
open Go.RowKit
def mvN : Value → Nat
 | .bool true => 1
 | _ => 0
section
set_option maxRecDepth 20000
set_option maxHeartbeats 1600000
theorem end_t (ao : Option Addr) (n cap : Nat) (xs : List Rg) (a0 : Int) (w : World) (hn : n = xs.length) (hx : RdR w ao xs) (hl : n ≤ 1099511627776) :
 Calls Tryz.prog 157 #[.slice ao n cap, .int .i64 a0] w fun e w' => ∃ f : Int, e = .returned (.int .i64 f) ∧ EndS xs a0 f ∧ Below w.heap.size w w' := by
 have HN : Hid _ := hn; clear hn; go_enter Tryz.func157, Tryz.ntmps157
 go_wp2; go_loopw [1, 5, 6] (fun av mv _ wr => ∃ (a : Int) (m : Bool), av = .int .i64 a ∧ mv = .bool m ∧ a0 ≤ a ∧ (∀ i, a0 ≤ i → i < a → hasR xs i) ∧ (m = false → ¬ hasR xs a) ∧ Below w.heap.size w wr) (fun av mv _ _ => 2 * cntR xs (intOf av) + mvN mv)
 case atStart => exact ⟨a0, true, rfl, rfl, Int.le_refl _, fun i h1 h2 => by omega, (fun h => by cases h), bR _ _⟩
 case round =>
  obtain ⟨a, m, rfl, rfl, ha, hin, hof, hbw⟩ := hrel; have HA : Hid (a0 ≤ a ∧ ∀ i, a0 ≤ i → i < a → hasR xs i) := ⟨ha, hin⟩; have HOF : Hid _ := hof; clear ha hin hof; cases m
  · go_wp2; go_ret; exact ⟨a, rfl, ⟨HA.out.1, HOF.out trivial, HA.out.2⟩, hbw⟩
  · clear HOF; (go_wp2_with fail); go_loopw [1, 5, 6] (fun av mv j wq => ∃ (k : Nat) (a' : Int) (m : Bool), k ≤ n ∧ j = .int .i64 (k : Int) ∧ av = .int .i64 a' ∧ mv = .bool m ∧ a ≤ a' ∧ (∀ i, a ≤ i → i < a' → hasR xs i) ∧ (m = false → a' = a ∧ ¬ hasR (xs.take k) a) ∧ (m = true → cntR xs a' < cntR xs a) ∧ Below w.heap.size w wq) (fun _ _ j _ => n - (intOf j).toNat)
    case atStart => exact ⟨0, a, false, Nat.zero_le _, rfl, rfl, rfl, Int.le_refl _, fun i h1 h2 => by omega, fun _ => ⟨rfl, hasR_nil a⟩, (fun h => by cases h), hbw⟩
    case round =>
     clear hbw; obtain ⟨k, a', m, hk, rfl, rfl, rfl, ha', hin, hno, hyes, hbq⟩ := hrel; have hkw : IntKind.i64.wrap ((k : Int) + 1) = ((k + 1 : Nat) : Int) := by rw [IntKind.wrap_i64]; omega
     have HB : Hid _ := hbq; have HI : Hid (a ≤ a' ∧ ∀ i, a ≤ i → i < a' → hasR xs i) := ⟨ha', hin⟩; have HM : Hid ((m = false → a' = a ∧ ¬ hasR (xs.take k) a) ∧ (m = true → cntR xs a' < cntR xs a)) := ⟨hno, hyes⟩; clear ha' hin hno hyes
     by_cases hlt : k < n
     · have hk1 : k < xs.length := by rw [← HN.out]; exact hlt
       have hlti : (k : Int) < (n : Int) := by omega
       have hk0 : (0 : Int) ≤ (k : Int) := by omega
       obtain ⟨b, o, rfl, hc1, hc2⟩ := (hx.below hbq) k hk1; obtain ⟨x, hx9⟩ : ∃ x : Rg, x = xs[k] := ⟨_, rfl⟩; rw [← hx9] at hc1 hc2; have HTK : Hid (xs.take (k + 1) = xs.take k ++ [x]) := by unfold Hid; rw [List.take_succ_eq_append_getElem hk1, hx9]
       have HIN : Hid (x ∈ xs) := by unfold Hid; rw [hx9]; exact List.getElem_mem hk1
       obtain ⟨a1, a2⟩ := x; simp only at hc1 hc2; clear hx9 hbq
       by_cases h1 : a1 ≤ a'
       · by_cases h2 : a' < a2
         · have HNX : Hid (a ≤ a2 ∧ (∀ i, a ≤ i → i < a2 → hasR xs i) ∧ cntR xs a2 < cntR xs a) := by
            refine ⟨by have := HI.out.1; omega, fun i g1 g2 => ?_, ?_⟩
            · by_cases g3 : i < a'
              · exact HI.out.2 i g1 g3
              · exact ⟨(a1, a2), HIN.out, by simp only; omega, g2⟩
            · have g1 := cntR_less xs (a := a') (b := a2) (by omega) ⟨(a1, a2), HIN.out, h2, Int.le_refl _⟩; have g2 := cntR_mono xs HI.out.1; omega
           go_wp2; go_roundw
           case rel => exact ⟨k + 1, a2, true, by omega, by go_num, rfl, rfl, HNX.out.1, HNX.out.2.1, (fun h => by cases h), fun _ => HNX.out.2.2, HB.out⟩
           case measure => simp [intOf]; omega
         · have HNX : Hid (m = false → a' = a ∧ ¬ hasR (xs.take (k + 1)) a) := fun e => by
            obtain ⟨e1, e2⟩ := HM.out.1 e; refine ⟨e1, fun h9 => ?_⟩; rw [HTK.out] at h9; rcases (hasR_snoc _ _ _).1 h9 with h9 | h9
            · exact e2 h9
            · simp only at h9; omega
           go_wp2; go_roundw
           case rel => exact ⟨k + 1, a', m, by omega, by go_num, rfl, rfl, HI.out.1, HI.out.2, HNX.out, HM.out.2, HB.out⟩
           case measure => simp [intOf]; omega
       · have HNX : Hid (m = false → a' = a ∧ ¬ hasR (xs.take (k + 1)) a) := fun e => by
          obtain ⟨e1, e2⟩ := HM.out.1 e; refine ⟨e1, fun h9 => ?_⟩; rw [HTK.out] at h9; rcases (hasR_snoc _ _ _).1 h9 with h9 | h9
          · exact e2 h9
          · simp only at h9; omega
         go_wp2; go_roundw
         case rel => exact ⟨k + 1, a', m, by omega, by go_num, rfl, rfl, HI.out.1, HI.out.2, HNX.out, HM.out.2, HB.out⟩
         case measure => simp [intOf]; omega
     · have hlti : ¬ (k : Int) < (n : Int) := by omega
       have HT : Hid (xs.take k = xs) := List.take_of_length_le (by rw [← HN.out]; omega); clear hbq; go_wp2; go_roundw
       case rel =>
        refine ⟨a', m, rfl, rfl, by have := HA.out.1; have := HI.out.1; omega, fun i g1 g2 => ?_, fun e => ?_, HB.out⟩
        · by_cases g3 : i < a
          · exact HA.out.2 i g1 g3
          · exact HI.out.2 i (by omega) g2
        · obtain ⟨e1, e2⟩ := HM.out.1 e; rw [HT.out] at e2; rw [e1]; exact e2
       case measure =>
        cases m
        · obtain ⟨e1, -⟩ := HM.out.1 rfl; rw [e1]; simp [intOf, mvN]
        · have := HM.out.2 rfl; simp [intOf, mvN]; omega
end
open Go.RowKit
theorem cntR_le (l : List Rg) (a : Int) : cntR l a ≤ l.length := List.countP_le_length
def LeastOut (xs : List Rg) (w : World) (e : Ending) (w' : World) : Prop := ∃ (v : Value) (out : List Rg), e = .returned v ∧ OwnR w' w.heap.size v out ∧ Lst out ∧ (∀ i, hasR out i ↔ hasR xs i) ∧ out.length ≤ xs.length ∧ Below w.heap.size w w'
def okN (l : List Rg) : Value → Value → Nat
 | f, .bool true => cntR l (intOf f) + 1
 | _, _ => 0
theorem okN_t (l : List Rg) (f : Int) : okN l (.int .i64 f) (.bool true) = cntR l f + 1 := rfl
theorem okN_f (l : List Rg) (f : Int) : okN l (.int .i64 f) (.bool false) = 0 := rfl
theorem LI.start {xs : List Rg} (h : RI xs) : LI xs [] (-9223372036854775808) := ⟨Lst.nil, by simp, (fun h => absurd rfl h), fun i hi => ⟨fun h9 => absurd h9 (hasR_nil i), fun ⟨x, hx, h1, _⟩ => by have := (h x hx).1.1; omega⟩⟩
section
set_option maxRecDepth 20000
set_option maxHeartbeats 1600000
theorem rleast_t (ao : Option Addr) (n cap : Nat) (xs : List Rg) (w : World) (hn : n = xs.length) (hx : RdR w ao xs) (hl : n ≤ 1099511627776) (hri : RI xs) :
 Calls Tryz.prog 119 #[.slice ao n cap] w fun e w' => LeastOut xs w e w' := by
 have hnx : ∀ (a : Int) (u : World), Below w.heap.size w u → Calls Tryz.prog 156 #[.slice ao n cap, .int .i64 a] u fun e w' => NextOut xs a u e w' := fun a u hu => next_t ao n cap xs a u hn (hx.below hu) hl
 have hen : ∀ (a : Int) (u : World), Below w.heap.size w u → Calls Tryz.prog 157 #[.slice ao n cap, .int .i64 a] u fun e w' => ∃ f : Int, e = .returned (.int .i64 f) ∧ EndS xs a f ∧ Below u.heap.size u w' := fun a u hu => end_t ao n cap xs a u hn (hx.below hu) hl
 have HNX : Hid _ := hnx; have HEN : Hid _ := hen; have HN : Hid _ := hn; have HRI : Hid _ := hri; clear hn hnx hen hri; go_enter Tryz.func119, Tryz.ntmps119
 go_wp2_with (go_at_call 156; refine (HNX.out _ _ (bR _ _)).mono ?_; rintro e w1 ⟨f1, ok1, rfl, hns1, hb1⟩; have HS1 : Hid _ := hns1; clear hns1)
 go_loopw [3, 4, 5] (fun ov fv kv wr => ∃ (out : List Rg) (f A : Int) (ok : Bool), fv = .int .i64 f ∧ kv = .bool ok ∧ OwnR wr w.heap.size ov out ∧ LI xs out A ∧ NextS xs A f ok ∧ out.length + cntR xs A ≤ n ∧ Below w.heap.size w wr) (fun _ fv kv _ => okN xs fv kv)
 case atStart => exact ⟨[], f1, _, ok1, rfl, rfl, OwnR.nil _ _, LI.start HRI.out, HS1.out, by have := cntR_le xs (-9223372036854775808); have := HN.out; simp; omega, hb1⟩
 case round =>
  clear hb1 HS1; obtain ⟨out, f, A, ok, rfl, rfl, hown, hli, hns, hct, hbw⟩ := hrel; have HLI : Hid _ := hli; have HNS : Hid _ := hns; have HCT : Hid _ := hct; have HO : Hid _ := hown; have HB : Hid _ := hbw; have hsz := hbw.size; have hol : out.length ≤ 1099511627776 := by omega
  clear hli hns hct hbw; cases ok
  · go_wp2; go_ret; obtain ⟨h1, h2⟩ := HLI.out.done HNS.out; exact ⟨_, out, rfl, hown, h1, h2, by have := HCT.out; have := HN.out; omega, HB.out⟩
  · go_wp2_with (first
      | (go_at_call 157; refine (HEN.out _ _ HB.out).mono ?_; rintro e w2 ⟨f2, rfl, hes, hb2⟩; have HES : Hid _ := hes; clear hes; have hs2 := hb2.size)
      | (at_builtin; refine wp_appR1 rfl _ _ rfl w.heap.size _ out out.length rfl (f, f2) w2.heap.size rfl (OwnR.below (OwnR.below HO.out hb2) (al (bR _ _) _)) rfl (heap_alloc_new w2 _) hol (by simp; omega) ?_; intro g3 c3 w3 hown3 hg3 hlies3; have HB3 : Hid (Below w.heap.size w w3) := (al (below_next HB.out hb2) _).grown hg3 (by simp; omega) (fun k hk => (World.ownsRow.lt HO.out k hk).1))
      | (go_at_call 156; refine (HNX.out _ _ HB3.out).mono ?_; rintro e w4 ⟨f4, ok4, rfl, hns4, hb4⟩; have HS4 : Hid _ := hns4; clear hns4))
    have HK : Hid _ := HLI.out.step HNS.out HES.out; have HCM : Hid _ := cntR_mono xs HNS.out.1; have HCN : Hid (ok4 = true → cntR xs f4 ≤ cntR xs f2) := fun e => by subst e; exact cntR_mono xs HS4.out.1
    go_roundw
    case rel =>
     refine ⟨out ++ [(f, f2)], f4, f2, ok4, rfl, rfl, ?_, HK.out.1, HS4.out, ?_, below_next HB3.out hb4⟩
     · have h9 := hown3.below hb4; exact h9
     · have h1 := HK.out.2; have h2 := HCT.out; have h3 := HCM.out; simp only [List.length_append, List.length_cons, List.length_nil]; omega
    case measure =>
     rw [okN_t]; cases ok4
     · rw [okN_f]; omega
     · rw [okN_t]; have h1 := HK.out.2; have h2 := HCN.out rfl; omega
end
open Go.RowKit
theorem RI.app {l m : List Rg} (h1 : RI l) (h2 : RI m) : RI (l ++ m) := fun x hx => by
 rcases List.mem_append.1 hx with h | h
 · exact h1 x h
 · exact h2 x h
theorem LeastOut.base {xs : List Rg} {w0 w : World} {e : Ending} {w' : World} (h : LeastOut xs w e w') (hb : Below w0.heap.size w0 w) : LeastOut xs w0 e w' := by
 obtain ⟨v, out, h1, h2, h3, h4, h5, h6⟩ := h; exact ⟨v, out, h1, h2.base hb.size, h3, h4, h5, below_next hb h6⟩
section
set_option maxRecDepth 20000
set_option maxHeartbeats 1600000
theorem runion_t (ao bo : Option Addr) (n m c1 c2 : Nat) (xs ys : List Rg) (w : World) (hn : n = xs.length) (hm : m = ys.length) (hx : RdR w ao xs) (hy : RdR w bo ys) (hl : n + m ≤ 1099511627776) (h1 : RI xs) (h2 : RI ys) (ha : ao = none → c1 = 0) (hb : bo = none → c2 = 0) :
 Calls Tryz.prog 96 #[.slice ao n c1, .slice bo m c2] w fun e w' => LeastOut (xs ++ ys) w e w' := by
 have HRI : Hid _ := RI.app h1 h2; have HN : Hid _ := hn; have HM : Hid _ := hm; have hl2 : xs.length + ys.length ≤ 1099511627776 := by omega
 have HL2 : Hid _ := hl2; clear h1 h2 hn hm hl2; go_enter Tryz.func96, Tryz.ntmps96
 go_wp2_with (first
   | (at_builtin; refine wp_appR rfl _ _ rfl w.heap.size _ [] xs n ao c1 HN.out rfl (OwnR.nil _ _) rfl hx ha (by simp; omega) (Nat.le_refl _) ?_; intro v1 w1 hown1 hg1; have hb1 : Below w.heap.size w w1 := (bR _ _).grown hg1 (Nat.le_refl _) (fun k hk => by cases hk); have hs1 := hb1.size; rw [List.nil_append] at hown1; have HO1 : Hid (OwnR w1 w.heap.size v1 xs) := hown1; clear hown1)
   | (at_builtin; refine wp_appR rfl _ _ rfl w.heap.size v1 xs ys m bo c2 HM.out rfl HO1.out rfl (hy.below hb1) hb (by have := HN.out; omega) hs1 ?_; intro v2 w2 hown2 hg2; have hb2 : Below w.heap.size w w2 := hb1.grown hg2 hs1 (fun k hk => (World.ownsRow.lt HO1.out k hk).1); obtain ⟨a, c, hv, hc1, hc2, hc3, hrd, hq⟩ := hown2.val; obtain ⟨L, hL⟩ : ∃ L : Nat, L = (xs ++ ys).length := ⟨_, rfl⟩; rw [← hL] at hv; subst hv; have HLL : Hid (L ≤ 1099511627776) := by unfold Hid; rw [hL, List.length_append]; exact HL2.out
      have HR : Hid _ := rleast_t a L c (xs ++ ys) w2 hL hrd HLL.out HRI.out
      have HB2 : Hid _ := hb2; clear hown2 hrd hq hL hc1 hc2 hc3 hg1 hg2)
   | (go_at_call 119; refine Calls.mono HR.out ?_; rintro e w3 ⟨v3, out, rfl, h1, h2, h3, h4, h5⟩))
 go_ret; exact LeastOut.base ⟨v3, out, rfl, h1, h2, h3, h4, h5⟩ HB2.out
end
open Go.RowKit
def MissOut (xs : List Rg) (m : Int) (w : World) (e : Ending) (w' : World) : Prop := ∃ (v : Value) (out : List Rg), e = .returned v ∧ OwnR w' w.heap.size v out ∧ MissS xs out m ∧ out.length ≤ xs.length + 1 ∧ Below w.heap.size w w'
theorem gapped_yes {out : List Rg} {a f : Int} (h : a < f) : gapped out a f = out ++ [(a, f)] := if_pos h
theorem gapped_no {out : List Rg} {a f : Int} (h : ¬ a < f) : gapped out a f = out := if_neg h
section
set_option maxRecDepth 20000
set_option maxHeartbeats 1600000
end
end Go.Proofs.YtpakkpahcpgnnaaGreatDoor
