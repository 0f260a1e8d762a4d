import Derived.Test.YtpakkpahcpgnnaaGreatDoorXK
set_option linter.unusedVariables false
set_option linter.unusedSimpArgs false
namespace Go.Proofs.YtpakkpahcpgnnaaGreatDoor.Wh
open Go.RowKit
def D64 (k : Nat) : Nat := 2 ^ (6 * k)
theorem D64_add (i j : Nat) : D64 (i + j) = D64 i * D64 j := by unfold D64; rw [← Nat.pow_add]; congr 1; omega
theorem D64_succ (k : Nat) : D64 (k + 1) = D64 k * 64 := D64_add k 1
abbrev mxN : Nat := 281474976710655
def lev (a n : Nat) : Nat := (a ^^^ n).log2 / 6
def slt (a k : Nat) : Nat := a / D64 k % 64
theorem slt_lt (a k : Nat) : slt a k < 64 := Nat.mod_lt _ (by decide)
structure PosA (a n k : Nat) : Prop where
 up : a / D64 (k + 1) = n / D64 (k + 1)
 lo : n / D64 k < a / D64 k
theorem xor_div (a n i : Nat) : (a ^^^ n) / 2 ^ i = (a / 2 ^ i) ^^^ (n / 2 ^ i) := by
 rw [← Nat.shiftRight_eq_div_pow, ← Nat.shiftRight_eq_div_pow, ← Nat.shiftRight_eq_div_pow, Nat.shiftRight_xor_distrib]
theorem xor_zero {a b : Nat} (h : a ^^^ b = 0) : a = b := by
 apply Nat.eq_of_testBit_eq; intro i; have h1 := congrArg (fun x => x.testBit i) h; simp only [Nat.testBit_xor, Nat.zero_testBit] at h1; cases h2 : a.testBit i <;> cases h3 : b.testBit i <;> simp_all
theorem lev_pos {a n : Nat} (h : n < a) : PosA a n (lev a n) := by
 have hx : a ^^^ n ≠ 0 := fun e => by have := xor_zero e; omega
 have h1 : 2 ^ (a ^^^ n).log2 ≤ a ^^^ n := Nat.log2_self_le hx; have h2 : a ^^^ n < 2 ^ ((a ^^^ n).log2 + 1) := Nat.lt_log2_self; refine ⟨?_, ?_⟩
 · unfold D64; apply xor_zero; rw [← xor_div]; apply Nat.div_eq_of_lt; refine Nat.lt_of_lt_of_le h2 (Nat.pow_le_pow_right (by decide) ?_); unfold lev; omega
 · have h3 : a / D64 (lev a n) ≠ n / D64 (lev a n) := by
    intro e; unfold D64 at e; have h4 : (a ^^^ n) / 2 ^ (6 * lev a n) = 0 := by rw [xor_div, e, Nat.xor_self]
    have h5 : 2 ^ (6 * lev a n) ≤ a ^^^ n := Nat.le_trans (Nat.pow_le_pow_right (by decide) (by unfold lev; omega)) h1; have h6 := Nat.div_pos h5 (Nat.pow_pos (by decide)); omega
   have h4 := Nat.div_le_div_right (c := D64 (lev a n)) (Nat.le_of_lt h); omega
theorem div_up {a b i : Nat} (h : a / D64 i = b / D64 i) {j : Nat} (hj : i ≤ j) : a / D64 j = b / D64 j := by
 obtain ⟨d, rfl⟩ := Nat.exists_eq_add_of_le hj; rw [D64_add, ← Nat.div_div_eq_div_mul, ← Nat.div_div_eq_div_mul, h]
theorem lt_of_div {a b i : Nat} (h : a / D64 i < b / D64 i) : a < b := by
 apply Classical.byContradiction; intro h1; have := Nat.div_le_div_right (c := D64 i) (Nat.le_of_not_lt h1); omega
theorem PosA.uniq {a n k : Nat} (h : PosA a n k) : lev a n = k := by
 have hn : n < a := lt_of_div h.lo; have h' := lev_pos hn; rcases Nat.lt_trichotomy (lev a n) k with h1 | h1 | h1
 · have := div_up h'.up h1; have := h.lo; omega
 · exact h1
 · have := div_up h.up h1; have := h'.lo; omega
theorem lev_lt8 {a n : Nat} (h : n < a) (ha : a ≤ mxN) : lev a n < 8 := by
 apply Classical.byContradiction; intro h1; have h2 := (lev_pos h).lo; have h3 : D64 8 = 281474976710656 := by decide
 have ha' : a ≤ 281474976710655 := ha; have h4 : a / D64 8 = n / D64 8 := by rw [h3, Nat.div_eq_of_lt (by omega), Nat.div_eq_of_lt (by omega)]
 have := div_up h4 (Nat.le_of_not_lt h1); omega
theorem lev_never : lev (mxN + 1) mxN = 8 := by
 apply PosA.uniq; refine ⟨?_, ?_⟩ <;> decide
theorem digits (a k : Nat) : a / D64 k = a / D64 (k + 1) * 64 + slt a k := by
 unfold slt; rw [D64_succ, ← Nat.div_div_eq_div_mul]; omega
theorem lev_less {a b n : Nat} (ha : n < a) (hb : n < b) (h : lev a n < lev b n) : a < b := by
 apply lt_of_div (i := lev b n); have h1 := div_up (lev_pos ha).up h; have h2 := (lev_pos hb).lo; omega
theorem turn_below {a n n' : Nat} (ha : n < a) (hn : n < n') (h : lev a n < lev n' n) : a < n' := lev_less ha hn h
theorem turn_behind {a n n' : Nat} (ha : n < a) (hn : n < n') (h : lev a n = lev n' n) (hs : slt n' (lev n' n) < slt a (lev n' n)) : n' < a ∧ lev a n' = lev a n := by
 have h1 := (lev_pos ha).up; have h2 := (lev_pos hn).up; rw [h] at h1; have h3 : n' / D64 (lev n' n) < a / D64 (lev n' n) := by rw [digits a, digits n']; omega
 refine ⟨lt_of_div h3, ?_⟩; rw [h]; exact PosA.uniq ⟨by omega, h3⟩
theorem turn_above {a n n' : Nat} (ha : n < a) (hn : n < n') (h : lev n' n < lev a n) : n' < a ∧ lev a n' = lev a n := by
 have h1 := lev_pos ha; have h2 := div_up (lev_pos hn).up h; refine ⟨lev_less hn ha h, PosA.uniq ⟨?_, ?_⟩⟩
 · rw [h1.up]; exact (div_up (lev_pos hn).up (Nat.le_succ_of_le h)).symm
 · rw [h2]; exact h1.lo
end Go.Proofs.YtpakkpahcpgnnaaGreatDoor.Wh
