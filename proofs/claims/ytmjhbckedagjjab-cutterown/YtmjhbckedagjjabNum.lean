import Derived.Test.YtmjhbckedagjjabBase
namespace Go.Proofs.Ytmjhbckedagjjab
set_option linter.unusedVariables false
set_option linter.unusedSimpArgs false
open Go.RowKit

/-- the digits above the last one -/
def hiF : Nat → Nat → List UInt8
  | 0, _ => []
  | f + 1, n => if n = 0 then [] else hiF f (n / 128) ++ [UInt8.ofNat (n % 128 + 128)]
def hiD (n : Nat) : List UInt8 := hiF n n
/-- the bytes of a number -/
def dg (n : Nat) : List UInt8 := hiD (n / 128) ++ [UInt8.ofNat (n % 128)]
theorem hiF_zero (f : Nat) : hiF f 0 = [] := by cases f <;> simp [hiF]
theorem hiF_same : ∀ (f g n : Nat), n ≤ f → n ≤ g → hiF f n = hiF g n
  | 0, g, n, hf, _ => by obtain rfl : n = 0 := by omega
                         rw [hiF_zero, hiF_zero]
  | f + 1, 0, n, _, hg => by obtain rfl : n = 0 := by omega
                             rw [hiF_zero, hiF_zero]
  | f + 1, g + 1, n, hf, hg => by
    simp only [hiF]
    by_cases h : n = 0
    · rw [if_pos h, if_pos h]
    · rw [if_neg h, if_neg h, hiF_same f g (n / 128) (by omega) (by omega)]
theorem hiD_zero : hiD 0 = [] := hiF_zero 0
theorem hiD_pos (n : Nat) (h : n ≠ 0) : hiD n = hiD (n / 128) ++ [UInt8.ofNat (n % 128 + 128)] := by
  obtain ⟨m, rfl⟩ : ∃ m, n = m + 1 := ⟨n - 1, by omega⟩
  unfold hiD
  rw [hiF, if_neg h, hiF_same m ((m + 1) / 128) _ (by omega) (Nat.le_refl _)]
theorem hiD_len (k : Nat) : ∀ n, n < 128 ^ k → (hiD n).length ≤ k := by
  induction k with
  | zero => intro n h; have : n = 0 := by simp at h; exact h
            subst this; simp [hiD_zero]
  | succ k ih =>
    intro n h
    by_cases h0 : n = 0
    · subst h0; simp [hiD_zero]
    · rw [hiD_pos n h0, List.length_append]
      have := ih (n / 128) (by rw [Nat.pow_succ] at h; omega)
      simp only [List.length_cons, List.length_nil]; omega
theorem dg_len (n : Nat) (h : n < 18446744073709551616) : 1 ≤ (dg n).length ∧ (dg n).length ≤ 10 := by
  unfold dg
  have := hiD_len 9 (n / 128) (by omega)
  simp only [List.length_append, List.length_cons, List.length_nil]; omega

theorem pow_lim (m k : Nat) (h : m < 128 ^ (k + 1)) (h' : 128 ≤ m) : 1 ≤ k ∧ m / 128 < 128 ^ k := by
  rw [Nat.pow_succ] at h
  refine ⟨?_, by omega⟩
  rcases k with _ | k
  · simp at h; omega
  · omega
theorem u8_lo (m : Nat) : ((UInt8.ofNat (m % 128)).toNat : Int) = ((m % 128 : Nat) : Int) := by
  rw [UInt8.toNat_ofNat']; omega
theorem u8_hi (m : Nat) : ((UInt8.ofNat (m % 128 + 128)).toNat : Int) = ((m % 128 + 128 : Nat) : Int) := by
  rw [UInt8.toNat_ofNat']; omega

end Go.Proofs.Ytmjhbckedagjjab
