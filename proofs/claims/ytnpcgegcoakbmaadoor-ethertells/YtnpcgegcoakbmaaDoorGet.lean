import Derived.Test.YtnpcgegcoakbmaaDoorApp
namespace Go.Proofs.YtnpcgegcoakbmaaDoor
set_option linter.unusedVariables false
set_option linter.unusedSimpArgs false
open Go.RowKit

/-- how many bytes the number at the front has; 0: no end among the first ten -/
def nszF : Nat → List UInt8 → Nat → Nat
  | 0, _, _ => 0
  | _ + 1, [], _ => 0
  | f + 1, x :: xs, k => if x < 128 then k + 1 else nszF f xs (k + 1)
def nsz (xs : List UInt8) : Nat := nszF 10 xs 0
theorem nszF_drop (xs : List UInt8) (f k j : Nat) (h : f + j = 10) (hk : k = j) (hall : ∀ i (hi : i < xs.length), i < j → 128 ≤ xs[i].toNat) (hj : j ≤ xs.length) : nszF f (xs.drop j) k = nsz xs := by
  subst hk
  induction k generalizing f with
  | zero => obtain rfl : f = 10 := by omega
            rfl
  | succ k ih =>
    have hx := hall k (by omega) (by omega)
    rw [← ih (f + 1) (by omega) (fun i hi hik => hall i hi (by omega)) (by omega)]
    rw [show xs.drop k = xs[k] :: xs.drop (k + 1) from List.drop_eq_getElem_cons (by omega)]
    simp only [nszF]
    rw [if_neg (by rw [UInt8.lt_iff_toNat_lt]; simp; omega)]
theorem nsz_hit (xs : List UInt8) (k : Nat) (hk : k < xs.length) (h10 : k < 10) (hall : ∀ i (hi : i < xs.length), i < k → 128 ≤ xs[i].toNat) (hx : xs[k].toNat < 128) : nsz xs = k + 1 := by
  rw [← nszF_drop xs (10 - k) k k (by omega) rfl hall (by omega), show xs.drop k = xs[k] :: xs.drop (k + 1) from List.drop_eq_getElem_cons (by omega), show 10 - k = (9 - k) + 1 from by omega]
  simp only [nszF]
  rw [if_pos (by rw [UInt8.lt_iff_toNat_lt]; simpa using hx)]
theorem nsz_miss (xs : List UInt8) (k : Nat) (hk : k = min xs.length 10) (hall : ∀ i (hi : i < xs.length), i < k → 128 ≤ xs[i].toNat) : nsz xs = 0 := by
  rw [← nszF_drop xs (10 - k) k k (by omega) rfl hall (by omega)]
  by_cases h : xs.length ≤ 10
  · rw [List.drop_of_length_le (by omega)]
    cases 10 - k <;> rfl
  · rw [show 10 - k = 0 from by omega]; rfl
theorem nszF_le (f : Nat) : ∀ (xs : List UInt8) (k : Nat), nszF f xs k = 0 ∨ (k < nszF f xs k ∧ nszF f xs k ≤ k + min xs.length f ∧ ∃ h : nszF f xs k - 1 - k < xs.length, xs[nszF f xs k - 1 - k].toNat < 128 ∧ ∀ i (hi : i < xs.length), i < nszF f xs k - 1 - k → 128 ≤ xs[i].toNat) := by
  induction f with
  | zero => intro xs k; left; cases xs <;> rfl
  | succ f ih =>
    intro xs k
    cases xs with
    | nil => left; rfl
    | cons x xs =>
      simp only [nszF]
      split
      · right
        rename_i h
        rw [UInt8.lt_iff_toNat_lt] at h
        refine ⟨by omega, by simp only [List.length_cons]; omega, by simp, ?_, ?_⟩
        · simpa using h
        · intro i hi h2; omega
      · rename_i h
        rw [UInt8.lt_iff_toNat_lt] at h
        rcases ih xs (k + 1) with h0 | ⟨h1, h2, h3, h4, h5⟩
        · left; exact h0
        · right
          have e : nszF f xs (k + 1) - 1 - k = (nszF f xs (k + 1) - 1 - (k + 1)) + 1 := by omega
          refine ⟨by omega, by simp only [List.length_cons]; omega, by rw [e]; simpa using h3, ?_, ?_⟩
          · simp only [e, List.getElem_cons_succ]; exact h4
          · intro i hi hlt
            rcases i with _ | i
            · simp at h ⊢; omega
            · simp only [List.getElem_cons_succ]
              exact h5 i (by simpa using hi) (by omega)
theorem nsz_le (xs : List UInt8) : nsz xs = 0 ∨ (0 < nsz xs ∧ nsz xs ≤ min xs.length 10 ∧ ∃ h : nsz xs - 1 < xs.length, xs[nsz xs - 1].toNat < 128 ∧ ∀ i (hi : i < xs.length), i < nsz xs - 1 → 128 ≤ xs[i].toNat) := by
  have := nszF_le 10 xs 0
  simpa [nsz] using this

end Go.Proofs.YtnpcgegcoakbmaaDoor
