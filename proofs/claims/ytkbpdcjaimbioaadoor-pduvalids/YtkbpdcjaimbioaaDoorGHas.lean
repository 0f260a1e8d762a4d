import Derived.Test.YtkbpdcjaimbioaaDoorGB
namespace Go.Proofs.YtkbpdcjaimbioaaDoor
set_option linter.unusedVariables false
set_option linter.unusedSimpArgs false
open Go.RowKit
/-- has it the number? -/
def hasB (l : List Rg) (i : Int) : Bool := l.any fun x => decide (x.1 ≤ i ∧ i < x.2)
theorem hasB_take {l : List Rg} {i : Int} {k : Nat} (hk : k < l.length) : hasB (l.take (k + 1)) i = (hasB (l.take k) i || decide (l[k].1 ≤ i ∧ i < l[k].2)) := by
  unfold hasB
  rw [List.take_succ_eq_append_getElem hk, List.any_append]
  simp
theorem hasB_all {l : List Rg} {i : Int} {k : Nat} (hk : l.length ≤ k) : hasB (l.take k) i = hasB l i := by rw [List.take_of_length_le hk]
theorem hasB_in {l : List Rg} {i : Int} {k : Nat} (hk : k < l.length) (h : l[k].1 ≤ i ∧ i < l[k].2) : hasB l i = true := by
  unfold hasB
  rw [List.any_eq_true]
  exact ⟨l[k], List.getElem_mem hk, by simpa using h⟩
section
set_option maxRecDepth 20000
set_option maxHeartbeats 800000
theorem mark_t (w : World) : Calls Tryd.prog 63 #[] w fun e w' => e = .returned (.agg #[.int .i64 (-99), .int .i64 99]) ∧ Below w.heap.size w w' := by
  go_enter Tryd.func63, Tryd.ntmps63
  go_wp2
  (try simp only [Exit.inBlock, Exit.then])
  refine bodyPost_ret (v := .agg #[.int .i64 (-99), .int .i64 99]) (results_cell_row Tryd.results63 _ _ w.heap.size 53 #[.int .i64 (-99), .int .i64 99] (0, 0) _ rfl (heap_alloc_new w _) Tryd.underlying53 rfl (by kernel_rfl)) rfl ⟨rfl, al (Below.refl _ _) _⟩
theorem empty_t (a b : Int) (w : World) : Calls Tryd.prog 59 #[.agg #[.int .i64 a, .int .i64 b]] w fun e w' => e = .returned (.bool (decide (b ≤ a))) ∧ Below w.heap.size w w' := by
  go_enter Tryd.func59, Tryd.ntmps59
  go_wp2
  go_ret
  exact ⟨rfl, al (Below.refl _ _) _⟩
theorem has_t (ao : Option Addr) (n cap : Nat) (xs : List Rg) (i : Int) (w : World) (hn : n = xs.length) (hx : RdR w ao xs) (hl : n ≤ 1099511627776) :
    Calls Tryd.prog 28 #[.slice ao n cap, .int .i64 i] w fun e w' => e = .returned (.bool (hasB xs i)) ∧ Below w.heap.size w w' := by
  have HN : Hid _ := hn
  clear hn
  go_enter Tryd.func28, Tryd.ntmps28
  go_wp2
  go_loopw [6, 9] (fun _ j wr => ∃ k : Nat, k ≤ n ∧ j = .int .i64 (k : Int) ∧ hasB (xs.take k) i = false ∧ Below w.heap.size w wr) (fun _ j _ => n - (intOf j).toNat)
  case atStart => exact ⟨0, Nat.zero_le _, rfl, rfl, Below.refl _ _⟩
  case round =>
    obtain ⟨k, hk, rfl, hall, hbw⟩ := hrel
    have hkw : IntKind.i64.wrap ((k : Int) + 1) = ((k + 1 : Nat) : Int) := by rw [IntKind.wrap_i64]; omega
    have HA : Hid _ := hall
    have HBW : Hid _ := hbw
    clear hall
    by_cases hlt : k < n
    · have hk1 : k < xs.length := by rw [← HN.out]; exact hlt
      have hlti : (k : Int) < (n : Int) := by omega
      have hk0 : (0 : Int) ≤ (k : Int) := by omega
      have hxr := hx.below hbw
      obtain ⟨b, o, rfl, hc1, hc2⟩ := hxr k hk1
      have HRG : Hid _ := hxr.range k hk1
      obtain ⟨x, hx9⟩ : ∃ x : Rg, x = xs[k] := ⟨_, rfl⟩
      rw [← hx9] at HRG
      obtain ⟨a1, a2⟩ := x
      have HX : Hid (xs[k] = (a1, a2)) := hx9.symm
      have hz := (zero_of_info info_rg).1
      clear hx9 hc1 hc2 hxr hbw
      by_cases h1 : a1 ≤ i
      · by_cases h2 : i < a2
        · have HF : Hid (hasB xs i = true) := hasB_in hk1 (by rw [HX.out]; exact ⟨h1, h2⟩)
          go_wp2_with (refine wpList_load_mid rfl 53 _ rfl b (o + k * 2) (by rfl) [.int .i64 a1, .int .i64 a2] _ HRG.out Tryd.underlying53 rfl (by rw [(zero_of_info info_rg).2]; rfl) ?_)
          go_ret
          rw [HF.out]
          exact ⟨rfl, al HBW.out _⟩
        · have HT : Hid (hasB (xs.take (k + 1)) i = false) := by unfold Hid; rw [hasB_take hk1, HA.out, HX.out]; simp [h2]
          go_wp2_with (refine wpList_load_mid rfl 53 _ rfl b (o + k * 2) (by rfl) [.int .i64 a1, .int .i64 a2] _ HRG.out Tryd.underlying53 rfl (by rw [(zero_of_info info_rg).2]; rfl) ?_)
          go_roundw
          case rel => exact ⟨k + 1, by omega, by go_num, HT.out, al HBW.out _⟩
          case measure => simp [intOf]; omega
      · have HT : Hid (hasB (xs.take (k + 1)) i = false) := by unfold Hid; rw [hasB_take hk1, HA.out, HX.out]; simp [h1]
        go_wp2_with (refine wpList_load_mid rfl 53 _ rfl b (o + k * 2) (by rfl) [.int .i64 a1, .int .i64 a2] _ HRG.out Tryd.underlying53 rfl (by rw [(zero_of_info info_rg).2]; rfl) ?_)
        go_roundw
        case rel => exact ⟨k + 1, by omega, by go_num, HT.out, al HBW.out _⟩
        case measure => simp [intOf]; omega
    · have hlti : ¬ (k : Int) < (n : Int) := by omega
      have HF : Hid (hasB xs i = false) := by unfold Hid; rw [← hasB_all (k := k) (by rw [← HN.out]; omega)]; exact HA.out
      clear hbw
      go_wp2
      go_ret
      rw [HF.out]
      exact ⟨rfl, HBW.out⟩
end
end Go.Proofs.YtkbpdcjaimbioaaDoor
