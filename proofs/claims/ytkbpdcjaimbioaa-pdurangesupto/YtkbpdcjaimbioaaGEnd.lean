import Derived.Test.YtkbpdcjaimbioaaGNext
namespace Go.Proofs.Ytkbpdcjaimbioaa
set_option linter.unusedVariables false
set_option linter.unusedSimpArgs false
open Go.RowKit
def mvN : Value → Nat
  | .bool true => 1
  | _ => 0
section
set_option maxRecDepth 20000
set_option maxHeartbeats 1600000
theorem end_t (ao : Option Addr) (n cap : Nat) (xs : List Rg) (a0 : Int) (w : World) (hn : n = xs.length) (hx : RdR w ao xs) (hl : n ≤ 1099511627776) :
    Calls Try.prog 26 #[.slice ao n cap, .int .i64 a0] w fun e w' => ∃ f : Int, e = .returned (.int .i64 f) ∧ EndS xs a0 f ∧ Below w.heap.size w w' := by
  have HN : Hid _ := hn
  clear hn
  go_enter Try.func26, Try.ntmps26
  go_wp2
  go_loopw [1, 5, 6] (fun av mv _ wr => ∃ (a : Int) (m : Bool), av = .int .i64 a ∧ mv = .bool m ∧ a0 ≤ a ∧ (∀ i, a0 ≤ i → i < a → hasR xs i) ∧ (m = false → ¬ hasR xs a) ∧ Below w.heap.size w wr) (fun av mv _ _ => 2 * cntR xs (intOf av) + mvN mv)
  case atStart => exact ⟨a0, true, rfl, rfl, Int.le_refl _, fun i h1 h2 => by omega, (fun h => by cases h), Below.refl _ _⟩
  case round =>
    obtain ⟨a, m, rfl, rfl, ha, hin, hof, hbw⟩ := hrel
    have HA : Hid (a0 ≤ a ∧ ∀ i, a0 ≤ i → i < a → hasR xs i) := ⟨ha, hin⟩
    have HOF : Hid _ := hof
    clear ha hin hof
    cases m
    · go_wp2
      go_ret
      exact ⟨a, rfl, ⟨HA.out.1, HOF.out trivial, HA.out.2⟩, hbw⟩
    · clear HOF
      go_wp2_with fail
      go_loopw [1, 5, 6] (fun av mv j wq => ∃ (k : Nat) (a' : Int) (m : Bool), k ≤ n ∧ j = .int .i64 (k : Int) ∧ av = .int .i64 a' ∧ mv = .bool m ∧ a ≤ a' ∧ (∀ i, a ≤ i → i < a' → hasR xs i) ∧ (m = false → a' = a ∧ ¬ hasR (xs.take k) a) ∧ (m = true → cntR xs a' < cntR xs a) ∧ Below w.heap.size w wq) (fun _ _ j _ => n - (intOf j).toNat)
      case atStart => exact ⟨0, a, false, Nat.zero_le _, rfl, rfl, rfl, Int.le_refl _, fun i h1 h2 => by omega, fun _ => ⟨rfl, hasR_nil a⟩, (fun h => by cases h), hbw⟩
      case round =>
        clear hbw
        obtain ⟨k, a', m, hk, rfl, rfl, rfl, ha', hin, hno, hyes, hbq⟩ := hrel
        have hkw : IntKind.i64.wrap ((k : Int) + 1) = ((k + 1 : Nat) : Int) := by rw [IntKind.wrap_i64]; omega
        have HB : Hid _ := hbq
        have HI : Hid (a ≤ a' ∧ ∀ i, a ≤ i → i < a' → hasR xs i) := ⟨ha', hin⟩
        have HM : Hid ((m = false → a' = a ∧ ¬ hasR (xs.take k) a) ∧ (m = true → cntR xs a' < cntR xs a)) := ⟨hno, hyes⟩
        clear ha' hin hno hyes
        by_cases hlt : k < n
        · have hk1 : k < xs.length := by rw [← HN.out]; exact hlt
          have hlti : (k : Int) < (n : Int) := by omega
          have hk0 : (0 : Int) ≤ (k : Int) := by omega
          obtain ⟨b, o, rfl, hc1, hc2⟩ := (hx.below hbq) k hk1
          obtain ⟨x, hx9⟩ : ∃ x : Rg, x = xs[k] := ⟨_, rfl⟩
          rw [← hx9] at hc1 hc2
          have HTK : Hid (xs.take (k + 1) = xs.take k ++ [x]) := by unfold Hid; rw [List.take_succ_eq_append_getElem hk1, hx9]
          have HIN : Hid (x ∈ xs) := by unfold Hid; rw [hx9]; exact List.getElem_mem hk1
          obtain ⟨a1, a2⟩ := x
          simp only at hc1 hc2
          clear hx9 hbq
          by_cases h1 : a1 ≤ a'
          · by_cases h2 : a' < a2
            · have HNX : Hid (a ≤ a2 ∧ (∀ i, a ≤ i → i < a2 → hasR xs i) ∧ cntR xs a2 < cntR xs a) := by
                refine ⟨by have := HI.out.1; omega, fun i g1 g2 => ?_, ?_⟩
                · by_cases g3 : i < a'
                  · exact HI.out.2 i g1 g3
                  · exact ⟨(a1, a2), HIN.out, by simp only; omega, g2⟩
                · have g1 := cntR_less xs (a := a') (b := a2) (by omega) ⟨(a1, a2), HIN.out, h2, Int.le_refl _⟩
                  have g2 := cntR_mono xs HI.out.1
                  omega
              go_wp2
              go_roundw
              case rel => exact ⟨k + 1, a2, true, by omega, by go_num, rfl, rfl, HNX.out.1, HNX.out.2.1, (fun h => by cases h), fun _ => HNX.out.2.2, HB.out⟩
              case measure => simp [intOf]; omega
            · have HNX : Hid (m = false → a' = a ∧ ¬ hasR (xs.take (k + 1)) a) := fun e => by
                obtain ⟨e1, e2⟩ := HM.out.1 e
                refine ⟨e1, fun h9 => ?_⟩
                rw [HTK.out] at h9
                rcases (hasR_snoc _ _ _).1 h9 with h9 | h9
                · exact e2 h9
                · simp only at h9; omega
              go_wp2
              go_roundw
              case rel => exact ⟨k + 1, a', m, by omega, by go_num, rfl, rfl, HI.out.1, HI.out.2, HNX.out, HM.out.2, HB.out⟩
              case measure => simp [intOf]; omega
          · have HNX : Hid (m = false → a' = a ∧ ¬ hasR (xs.take (k + 1)) a) := fun e => by
              obtain ⟨e1, e2⟩ := HM.out.1 e
              refine ⟨e1, fun h9 => ?_⟩
              rw [HTK.out] at h9
              rcases (hasR_snoc _ _ _).1 h9 with h9 | h9
              · exact e2 h9
              · simp only at h9; omega
            go_wp2
            go_roundw
            case rel => exact ⟨k + 1, a', m, by omega, by go_num, rfl, rfl, HI.out.1, HI.out.2, HNX.out, HM.out.2, HB.out⟩
            case measure => simp [intOf]; omega
        · have hlti : ¬ (k : Int) < (n : Int) := by omega
          have HT : Hid (xs.take k = xs) := List.take_of_length_le (by rw [← HN.out]; omega)
          clear hbq
          go_wp2
          go_roundw
          case rel =>
            refine ⟨a', m, rfl, rfl, by have := HA.out.1; have := HI.out.1; omega, fun i g1 g2 => ?_, fun e => ?_, HB.out⟩
            · by_cases g3 : i < a
              · exact HA.out.2 i g1 g3
              · exact HI.out.2 i (by omega) g2
            · obtain ⟨e1, e2⟩ := HM.out.1 e
              rw [HT.out] at e2
              rw [e1]
              exact e2
          case measure =>
            cases m
            · obtain ⟨e1, -⟩ := HM.out.1 rfl
              rw [e1]
              simp [intOf, mvN]
            · have := HM.out.2 rfl
              simp [intOf, mvN]
              omega
end
end Go.Proofs.Ytkbpdcjaimbioaa
