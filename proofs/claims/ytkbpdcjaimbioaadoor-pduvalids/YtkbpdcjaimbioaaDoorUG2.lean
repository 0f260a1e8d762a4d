import Derived.Test.YtkbpdcjaimbioaaDoorUG
import Derived.Test.YtkbpdcjaimbioaaDoorGSame
namespace Go.Proofs.YtkbpdcjaimbioaaDoor
set_option linter.unusedVariables false
set_option linter.unusedSimpArgs false
open Go.RowKit
def endR (l : List Rg) : Int := match l.getLast? with
  | none => 0
  | some y => y.2
theorem endR_nil : endR [] = 0 := rfl
theorem endR_snoc (l : List Rg) (y : Rg) : endR (l ++ [y]) = y.2 := by simp [endR]
theorem freeR_nil : freeR [] = 0 := rfl
theorem freeR_snoc (l : List Rg) (y : Rg) : freeR (l ++ [y]) = y.2 + 1 := by simp [freeR]
theorem gotF_end : ∀ (l : List Rg) (f : Int), 0 ≤ f → gotF f l → 0 ≤ endR l ∧ endR l ≤ 64
  | [], f, _, _ => by simp [endR]
  | [y], f, hf, h => by
    have h1 := h.1
    simp only [endR, List.getLast?_singleton]
    omega
  | y :: z :: l, f, hf, h => by
    have h1 := h.1
    have h2 := gotF_end (z :: l) (y.2 + 1) (by omega) h.2
    have e : endR (y :: z :: l) = endR (z :: l) := by unfold endR; rw [List.getLast?_cons_cons]
    rw [e]
    exact h2
theorem gotOk_end {l : List Rg} (h : gotOk l) : 0 ≤ endR l ∧ endR l ≤ 64 := gotF_end l 0 (Int.le_refl _) h
theorem freeR_eq {l : List Rg} (h : 0 < l.length) : freeR l = endR l + 1 := by
  rcases List.eq_nil_or_concat l with h0 | ⟨q, z, h0⟩
  · subst h0; cases h
  · rw [List.concat_eq_append] at h0; subst h0; rw [freeR_snoc, endR_snoc]
section
set_option maxRecDepth 20000
set_option maxHeartbeats 1600000
theorem pend_t (ao : Option Addr) (n cap : Nat) (l : List Rg) (w : World) (hn : n = l.length) (hx : RdR w ao l) (hl : n ≤ 8796093022208) :
    Calls Tryd.prog 111 #[.slice ao n cap] w fun e w' => e = .returned (.int .i64 (endR l)) ∧ w' = w := by
  rcases List.eq_nil_or_concat l with h0 | ⟨q, y, h0⟩
  · subst h0
    rw [endR_nil]
    obtain rfl : n = 0 := hn
    clear hx
    go_enter Tryd.func111, Tryd.ntmps111
    go_wp2
    go_ret
    exact ⟨rfl, rfl⟩
  · rw [List.concat_eq_append] at h0
    subst h0
    rw [endR_snoc]
    obtain ⟨m, hm⟩ : ∃ m : Nat, m = q.length := ⟨_, rfl⟩
    have hnm : n = m + 1 := by rw [hn, hm]; simp
    obtain ⟨b, o, rfl, -, hc2⟩ := hx m (by simp; omega)
    have hc : w.cell? ⟨b, o + m * 2 + 1, none⟩ = some (.int .i64 y.2) := by rw [hc2]; subst hm; simp
    have hw : IntKind.i64.wrap ((n : Int) - 1) = (m : Int) := by rw [IntKind.wrap_i64]; omega
    have h0 : ¬ n = 0 := by omega
    have hlt : (m : Int) < (n : Int) := by omega
    have hm0 : (0 : Int) ≤ (m : Int) := by omega
    clear hn hx hnm hm hc2
    go_enter Tryd.func111, Tryd.ntmps111
    go_wp2
    go_ret
    exact ⟨rfl, rfl⟩
theorem goodRange_b (ao : Option Addr) (n cap : Nat) (l : List Rg) (a1 a2 : Int) (b : Bool) (hb : b = true ↔ (freeR l ≤ a1 ∧ a1 < a2 ∧ a2 ≤ 64)) (w : World) (hn : n = l.length) (hx : RdR w ao l) (hl : n ≤ 8796093022208) (he : 0 ≤ endR l ∧ endR l ≤ 64) :
    Calls Tryd.prog 120 #[.slice ao n cap, .agg #[.int .i64 a1, .int .i64 a2]] w fun e w' => e = .returned (.bool b) ∧ Below w.heap.size w w' := by
  have HE : Hid _ := fun (u : World) (hu : Below w.heap.size w u) => pend_t ao n cap l u hn (hx.below hu) hl
  obtain ⟨E, hE⟩ : ∃ E : Int, E = endR l := ⟨_, rfl⟩
  rw [← hE] at HE he
  obtain ⟨F, hF⟩ : ∃ F : Int, F = freeR l := ⟨_, rfl⟩
  rw [← hF] at hb
  have hw : IntKind.i64.wrap (E + 1) = E + 1 := by rw [IntKind.wrap_i64]; omega
  have hFF : (n = 0 ∧ F = 0) ∨ (0 < n ∧ F = E + 1) := by
    by_cases h : 0 < l.length
    · exact .inr ⟨by omega, by rw [hF, hE, freeR_eq h]⟩
    · refine .inl ⟨by omega, ?_⟩
      obtain rfl : l = [] := List.eq_nil_of_length_eq_zero (by omega)
      rw [hF]; rfl
  have HW : Hid _ := hw
  clear hn hx hE hF he hw
  have GO : ∀ (r : Bool), r = b → True := fun _ _ => trivial
  clear GO

  rcases hFF with ⟨rfl, rfl⟩ | ⟨hn0, rfl⟩
  · clear HE HW
    by_cases h0 : 0 ≤ a1
    · skip
      by_cases h1 : a1 < a2
      · skip
        by_cases h2 : a2 ≤ 64
        · skip
          obtain rfl : b = true := bT hb ⟨h0, h1, h2⟩
          clear hb
          go_enter Tryd.func120, Tryd.ntmps120
          go_wp2
          go_ret
          exact ⟨by first | rfl | (simp; done) | (simp; omega) | simp_all, al (Below.refl _ _) _⟩
        · obtain rfl : b = false := bF hb (fun h => h2 h.2.2)
          clear hb
          go_enter Tryd.func120, Tryd.ntmps120
          go_wp2
          go_ret
          exact ⟨by first | rfl | (simp; done) | (simp; omega) | simp_all, al (Below.refl _ _) _⟩
      · obtain rfl : b = false := bF hb (fun h => h1 h.2.1)
        clear hb
        go_enter Tryd.func120, Tryd.ntmps120
        go_wp2
        go_ret
        exact ⟨by first | rfl | (simp; done) | (simp; omega) | simp_all, al (Below.refl _ _) _⟩
    · obtain rfl : b = false := bF hb (fun h => h0 h.1)
      clear hb
      go_enter Tryd.func120, Tryd.ntmps120
      go_wp2
      go_ret
      exact ⟨by first | rfl | (simp; done) | (simp; omega) | simp_all, al (Below.refl _ _) _⟩
  · have hn1 : ¬ n = 0 := by omega
    have hn2 : (0 : Int) < (n : Int) := by omega
    by_cases h0 : E + 1 ≤ a1
    · skip
      by_cases h1 : a1 < a2
      · skip
        by_cases h2 : a2 ≤ 64
        · skip
          obtain rfl : b = true := bT hb ⟨h0, h1, h2⟩
          clear hb
          go_enter Tryd.func120, Tryd.ntmps120
          go_wp2_with (go_at_call 111; refine Calls.mono (HE.out _ (al (Below.refl _ _) _)) ?_; rintro e w1 ⟨rfl, rfl⟩; have hw := HW.out)
          go_ret
          exact ⟨by first | rfl | (simp; done) | (simp; omega) | simp_all, al (Below.refl _ _) _⟩
        · obtain rfl : b = false := bF hb (fun h => h2 h.2.2)
          clear hb
          go_enter Tryd.func120, Tryd.ntmps120
          go_wp2_with (go_at_call 111; refine Calls.mono (HE.out _ (al (Below.refl _ _) _)) ?_; rintro e w1 ⟨rfl, rfl⟩; have hw := HW.out)
          go_ret
          exact ⟨by first | rfl | (simp; done) | (simp; omega) | simp_all, al (Below.refl _ _) _⟩
      · obtain rfl : b = false := bF hb (fun h => h1 h.2.1)
        clear hb
        go_enter Tryd.func120, Tryd.ntmps120
        go_wp2_with (go_at_call 111; refine Calls.mono (HE.out _ (al (Below.refl _ _) _)) ?_; rintro e w1 ⟨rfl, rfl⟩; have hw := HW.out)
        go_ret
        exact ⟨by first | rfl | (simp; done) | (simp; omega) | simp_all, al (Below.refl _ _) _⟩
    · obtain rfl : b = false := bF hb (fun h => h0 h.1)
      clear hb
      go_enter Tryd.func120, Tryd.ntmps120
      go_wp2_with (go_at_call 111; refine Calls.mono (HE.out _ (al (Below.refl _ _) _)) ?_; rintro e w1 ⟨rfl, rfl⟩; have hw := HW.out)
      go_ret
      exact ⟨by first | rfl | (simp; done) | (simp; omega) | simp_all, al (Below.refl _ _) _⟩
end
end Go.Proofs.YtkbpdcjaimbioaaDoor
