import Derived.Test.YtnpcgegcoakbmaaDoorBurst
namespace Go.Proofs.YtnpcgegcoakbmaaDoor
set_option linter.unusedVariables false
set_option linter.unusedSimpArgs false
open Go.RowKit
theorem turnB_get (xs : List UInt8) (k i : Nat) (h : i < xs.length) : (turnB xs k)[i]'(by rw [turnB_len]; exact h) = if k / 8 = i then xs[i] ^^^ UInt8.ofNat (2 ^ (k % 8)) else xs[i] := by
  unfold turnB
  rw [List.getElem_set]
  split
  · rename_i e; subst e; simp [List.getD, h]
  · rfl
theorem turnB_comm (xs : List UInt8) (a b : Nat) : turnB (turnB xs a) b = turnB (turnB xs b) a := by
  apply List.ext_getElem
  · simp [turnB_len]
  · intro i h1 h2
    have h : i < xs.length := by simpa [turnB_len] using h1
    rw [turnB_get (turnB xs a) b i (by rw [turnB_len]; exact h), turnB_get (turnB xs b) a i (by rw [turnB_len]; exact h), turnB_get xs a i h, turnB_get xs b i h]
    split <;> split <;> first | rfl | (rw [UInt8.xor_assoc, UInt8.xor_assoc, UInt8.xor_comm (UInt8.ofNat (2 ^ (a % 8)))])
theorem turnB_twice (xs : List UInt8) (a : Nat) : turnB (turnB xs a) a = xs := by
  apply List.ext_getElem
  · simp [turnB_len]
  · intro i h1 h
    rw [turnB_get (turnB xs a) a i (by rw [turnB_len]; exact h), turnB_get xs a i h]
    split
    · rw [UInt8.xor_assoc, UInt8.xor_self, UInt8.xor_zero]
    · rfl
theorem bstep_comm (at_ : Int) (mask : Nat) (xs : List UInt8) (i j : Nat) : bstep at_ mask (bstep at_ mask xs i) j = bstep at_ mask (bstep at_ mask xs j) i := by
  by_cases hi : mask / 2 ^ i % 2 = 1 ∧ 0 ≤ at_ + i ∧ at_ + i < 8 * xs.length
  · by_cases hj : mask / 2 ^ j % 2 = 1 ∧ 0 ≤ at_ + j ∧ at_ + j < 8 * xs.length
    · simp only [bstep, if_pos hi, if_pos hj, turnB_len]
      exact turnB_comm _ _ _
    · simp only [bstep, if_pos hi, if_neg hj, turnB_len]
  · by_cases hj : mask / 2 ^ j % 2 = 1 ∧ 0 ≤ at_ + j ∧ at_ + j < 8 * xs.length
    · simp only [bstep, if_neg hi, if_pos hj, turnB_len]
    · simp only [bstep, if_neg hi, if_neg hj]
theorem bstep_twice (at_ : Int) (mask : Nat) (xs : List UInt8) (i : Nat) : bstep at_ mask (bstep at_ mask xs i) i = xs := by
  by_cases hi : mask / 2 ^ i % 2 = 1 ∧ 0 ≤ at_ + i ∧ at_ + i < 8 * xs.length
  · simp only [bstep, if_pos hi, turnB_len]
    exact turnB_twice _ _
  · simp only [bstep, if_neg hi]
theorem bst_bstep (at_ : Int) (mask : Nat) (xs : List UInt8) (i k : Nat) : bst at_ mask (bstep at_ mask xs i) k = bstep at_ mask (bst at_ mask xs k) i := by
  induction k with
  | zero => rfl
  | succ k ih => rw [bst, bst, ih, bstep_comm]
theorem bst_twice (at_ : Int) (mask : Nat) (xs : List UInt8) (k : Nat) : bst at_ mask (bst at_ mask xs k) k = xs := by
  induction k with
  | zero => rfl
  | succ k ih => rw [bst, bst, bst_bstep, ih, bstep_twice]
end Go.Proofs.YtnpcgegcoakbmaaDoor
