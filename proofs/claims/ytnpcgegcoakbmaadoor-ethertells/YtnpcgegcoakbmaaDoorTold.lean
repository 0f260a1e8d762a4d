import Derived.Test.YtnpcgegcoakbmaaDoorUnsP
import Derived.Test.YtnpcgegcoakbmaaDoorTurnO
namespace Go.Proofs.YtnpcgegcoakbmaaDoor
set_option linter.unusedVariables false
set_option linter.unusedSimpArgs false
open Go.RowKit
/-- the string as one number, the first byte lowest -/
def numN : List UInt8 → Nat
  | [] => 0
  | x :: xs => x.toNat + 256 * numN xs
def regR (c : Nat) (xs : List UInt8) : Nat := xs.foldl crcB c
theorem xor_256 (x y : Nat) (h : x < 256) : x + 256 * y = x ^^^ (256 * y) := by
  apply Nat.eq_of_testBit_eq
  intro i
  have e : (256 : Nat) = 2 ^ 8 := by decide
  have h1 : (x + 256 * y) = (256 * y) ||| x := by
    rw [Nat.add_comm, e]
    exact Nat.two_pow_add_eq_or_of_lt (by omega) _
  rw [h1, Nat.testBit_or, Nat.testBit_xor, e, Nat.testBit_two_pow_mul]
  by_cases hi : i < 8
  · simp [show ¬ 8 ≤ i from by omega]
  · have hx : x.testBit i = false := Nat.testBit_lt_two_pow (Nat.lt_of_lt_of_le h (by rw [e]; exact Nat.pow_le_pow_right (by decide) (by omega)))
    simp [hx]
theorem stpN_pow (p : Nat) : ∀ y, stpN p (2 ^ p * y) = y := by
  induction p with
  | zero => intro y; simp [stpN]
  | succ p ih =>
    intro y
    have e : 2 ^ (p + 1) * y = 2 ^ p * (2 * y) := by rw [Nat.pow_succ, Nat.mul_assoc]
    simp only [stpN]
    rw [e, ih, stp_double]
theorem regR_num : ∀ (xs : List UInt8) (c : Nat), regR c xs = stpN (8 * xs.length) (c ^^^ numN xs)
  | [], c => by simp [regR, numN, stpN]
  | x :: xs, c => by
    have hx := x.toNat_lt
    have h := regR_num xs (crcB c x)
    simp only [regR, List.foldl_cons] at h ⊢
    rw [h]
    simp only [numN, List.length_cons, crcB]
    rw [xor_256 _ _ (by omega), ← Nat.xor_assoc, show 8 * (xs.length + 1) = 8 * xs.length + 8 from by omega, stpN_add, stpN_xor 8 (_ ^^^ _)]
    have e : stpN 8 (256 * numN xs) = numN xs := stpN_pow 8 (numN xs)
    rw [e]
/-- the register never comes to 0 from anything else -/
theorem stp_ne {c : Nat} (h : c < 4294967296) (h0 : c ≠ 0) : stp c ≠ 0 := by
  unfold stp
  split
  · intro e
    have h2 : (c / 2 ^^^ poly).testBit 31 = true := by
      rw [Nat.testBit_xor, Nat.testBit_lt_two_pow (show c / 2 < 2 ^ 31 by omega)]
      decide
    rw [e] at h2
    simp at h2
  · omega
theorem stpN_ne (k : Nat) {c : Nat} (h : c < 4294967296) (h0 : c ≠ 0) : stpN k c ≠ 0 := by
  induction k with
  | zero => exact h0
  | succ k ih => exact stp_ne (stpN_lt k h) ih
theorem numN_lt (xs : List UInt8) : numN xs < 2 ^ (8 * xs.length) := by
  induction xs with
  | nil => simp [numN]
  | cons x xs ih =>
    have hx := x.toNat_lt
    simp only [numN, List.length_cons]
    rw [show 8 * (xs.length + 1) = 8 * xs.length + 8 from by omega, Nat.pow_add]
    omega
theorem numN_inj : ∀ (xs ys : List UInt8), xs.length = ys.length → numN xs = numN ys → xs = ys
  | [], [], _, _ => rfl
  | [], y :: ys, h, _ => by simp at h
  | x :: xs, [], h, _ => by simp at h
  | x :: xs, y :: ys, h, e => by
    have hx := x.toNat_lt
    have hy := y.toNat_lt
    simp only [numN] at e
    rw [show x = y from UInt8.toNat_inj.1 (by omega), numN_inj xs ys (by simpa using h) (by omega)]
theorem pow_xor (p a b : Nat) : 2 ^ p * (a ^^^ b) = (2 ^ p * a) ^^^ (2 ^ p * b) := by
  apply Nat.eq_of_testBit_eq
  intro i
  rw [Nat.testBit_xor, Nat.testBit_two_pow_mul, Nat.testBit_two_pow_mul, Nat.testBit_two_pow_mul, Nat.testBit_xor]
  by_cases h : p ≤ i <;> simp [h]
/-- a turned bit -/
theorem numN_turn : ∀ (xs : List UInt8) (k : Nat), k < 8 * xs.length → numN (turnB xs k) = numN xs ^^^ 2 ^ k
  | [], k, h => by simp at h
  | x :: xs, k, h => by
    have hx := x.toNat_lt
    by_cases h8 : k < 8
    · have e : turnB (x :: xs) k = (x ^^^ UInt8.ofNat (2 ^ (k % 8))) :: xs := by
        unfold turnB
        rw [show k / 8 = 0 from by omega]
        rfl
      have hp : 2 ^ k < 256 := Nat.lt_of_lt_of_le (Nat.pow_lt_pow_right (by decide) h8) (by decide)
      have hb : (x ^^^ UInt8.ofNat (2 ^ (k % 8))).toNat = x.toNat ^^^ 2 ^ k := by
        rw [UInt8.toNat_xor, UInt8.toNat_ofNat', show k % 8 = k from by omega, Nat.mod_eq_of_lt hp]
      rw [e]
      simp only [numN]
      have hlt : x.toNat ^^^ 2 ^ k < 256 := Nat.xor_lt_two_pow (n := 8) (by omega) hp
      rw [hb, xor_256 _ _ hlt, xor_256 _ _ (by omega), Nat.xor_assoc, Nat.xor_assoc, Nat.xor_comm (2 ^ k)]
    · have e : turnB (x :: xs) k = x :: turnB xs (k - 8) := by
        unfold turnB
        rw [show k / 8 = (k - 8) / 8 + 1 from by omega, show (k - 8) % 8 = k % 8 from by omega]
        rfl
      rw [e]
      simp only [numN]
      have hk : 256 * 2 ^ (k - 8) = 2 ^ k := by
        rw [show (256 : Nat) = 2 ^ 8 from by decide, ← Nat.pow_add]
        congr 1
        omega
      rw [numN_turn xs (k - 8) (by simp at h; omega), xor_256 _ _ (by omega), xor_256 _ _ (by omega)]
      have e2 : 256 * (numN xs ^^^ 2 ^ (k - 8)) = (256 * numN xs) ^^^ 2 ^ k := by rw [← hk]; exact pow_xor 8 _ _
      rw [e2, Nat.xor_assoc]
/-- what is turned, from bit p on -/
def wnd (at_ : Int) (mask n p : Nat) : Nat → Nat
  | 0 => 0
  | k + 1 => if mask / 2 ^ k % 2 = 1 ∧ 0 ≤ at_ + k ∧ at_ + k < 8 * n then wnd at_ mask n p k ^^^ 2 ^ ((at_ + k).toNat - p) else wnd at_ mask n p k
theorem wnd_num (at_ : Int) (mask : Nat) (xs : List UInt8) (p : Nat) (hp : p = at_.toNat) (k : Nat) : numN (bst at_ mask xs k) = numN xs ^^^ 2 ^ p * wnd at_ mask xs.length p k := by
  induction k with
  | zero => simp [bst, wnd]
  | succ k ih =>
    simp only [bst, bstep, wnd]
    rw [bst_len]
    split
    · rename_i h
      rw [numN_turn _ _ (by rw [bst_len]; omega), ih, pow_xor, Nat.xor_assoc, ← Nat.pow_add, show p + ((at_ + k).toNat - p) = (at_ + k).toNat from by omega]
    · exact ih
theorem wnd_lt (at_ : Int) (mask n p : Nat) (hp : p = at_.toNat) (k : Nat) (hk : k ≤ 32) : wnd at_ mask n p k < 4294967296 := by
  induction k with
  | zero => simp [wnd]
  | succ k ih =>
    simp only [wnd]
    split
    · rename_i h
      exact xor_lt32 (ih (by omega)) (Nat.lt_of_lt_of_le (Nat.pow_lt_pow_right (by decide) (show (at_ + k).toNat - p < 32 by omega)) (by decide))
    · exact ih (by omega)
theorem wnd_bit (at_ : Int) (mask n p : Nat) (hp : p = at_.toNat) (k j : Nat) (hj : 0 ≤ at_ + j) : (wnd at_ mask n p k).testBit ((at_ + j).toNat - p) = decide (j < k ∧ mask / 2 ^ j % 2 = 1 ∧ 0 ≤ at_ + j ∧ at_ + j < 8 * n) := by
  induction k with
  | zero => simp [wnd]
  | succ k ih =>
    simp only [wnd]
    by_cases hjk : j = k
    · subst hjk
      split
      · rename_i h
        rw [Nat.testBit_xor, ih, Nat.testBit_two_pow_self]
        simp [h]
      · rename_i h
        rw [ih]
        simp [h]
    · split
      · rename_i h
        rw [Nat.testBit_xor, ih, Nat.testBit_two_pow_of_ne (by omega), Bool.xor_false]
        congr 1
        simp only [eq_iff_iff]
        constructor
        · rintro ⟨a, b⟩; exact ⟨by omega, b⟩
        · rintro ⟨a, b⟩; exact ⟨by omega, b⟩
      · rw [ih]
        congr 1
        simp only [eq_iff_iff]
        constructor
        · rintro ⟨a, b⟩; exact ⟨by omega, b⟩
        · rintro ⟨a, b⟩; exact ⟨by omega, b⟩
/-- some bit is turned -/
def tch (at_ : Int) (mask n : Nat) : Prop := ∃ j : Nat, j < 32 ∧ mask / 2 ^ j % 2 = 1 ∧ 0 ≤ at_ + j ∧ at_ + j < 8 * n
theorem wnd_zero (at_ : Int) (mask n p : Nat) (hp : p = at_.toNat) : wnd at_ mask n p 32 = 0 ↔ ¬ tch at_ mask n := by
  constructor
  · rintro h ⟨j, hj, hc⟩
    have := wnd_bit at_ mask n p hp 32 j hc.2.1
    rw [h] at this
    simp at this
    have h2 := this hj hc.1 hc.2.1
    have h3 := hc.2.2
    omega
  · intro h
    have : ∀ k, k ≤ 32 → wnd at_ mask n p k = 0 := by
      intro k hk
      induction k with
      | zero => rfl
      | succ k ih =>
        simp only [wnd]
        rw [if_neg (fun hc => h ⟨k, by omega, hc⟩)]
        exact ih (by omega)
    exact this 32 (Nat.le_refl _)
/-- turned into itself just where nothing is turned -/
theorem bst_same (at_ : Int) (mask : Nat) (xs : List UInt8) : bst at_ mask xs 32 = xs ↔ ¬ tch at_ mask xs.length := by
  have h := wnd_num at_ mask xs at_.toNat rfl 32
  rw [← wnd_zero at_ mask xs.length at_.toNat rfl]
  constructor
  · intro e
    rw [e] at h
    have h2 : 2 ^ at_.toNat * wnd at_ mask xs.length at_.toNat 32 = 0 := by
      have := congrArg (numN xs ^^^ ·) h
      simp only [← Nat.xor_assoc, Nat.xor_self, Nat.zero_xor] at this
      exact this.symm
    rcases Nat.mul_eq_zero.1 h2 with h3 | h3
    · exact absurd h3 (by have := Nat.pow_pos (n := at_.toNat) (show 0 < 2 by decide); omega)
    · exact h3
  · intro e
    rw [e] at h
    simp only [Nat.mul_zero, Nat.xor_zero] at h
    exact numN_inj _ _ (bst_len _ _ _ _) h
theorem seal_num (xs : List UInt8) : numN (sealL xs) = crcS xs := by
  have h := crcS_lt xs
  unfold sealL
  simp only [numN]
  rw [UInt8.toNat_ofNat', UInt8.toNat_ofNat', UInt8.toNat_ofNat', UInt8.toNat_ofNat']
  omega
/-- a string whose last four bytes are its seal, by the register -/
theorem sealed_iff (xs ys : List UInt8) (h4 : ys.length = 4) : ys = sealL xs ↔ regR 4294967295 (xs ++ ys) = stpN 32 4294967295 := by
  have e1 : regR 4294967295 (xs ++ ys) = stpN 32 (crcN xs ^^^ numN ys) := by
    have : regR 4294967295 (xs ++ ys) = regR (crcN xs) ys := by unfold regR crcN; rw [List.foldl_append]
    rw [this, regR_num, h4]
  have hl : numN ys < 4294967296 := by have := numN_lt ys; rw [h4] at this; exact this
  rw [e1]
  constructor
  · intro e
    rw [e, seal_num]
    unfold crcS
    rw [Nat.xor_comm 4294967295, ← Nat.xor_assoc, Nat.xor_self, Nat.zero_xor]
  · intro e
    have h1 : stpN 32 ((crcN xs ^^^ numN ys) ^^^ 4294967295) = 0 := by rw [stpN_xor, e, Nat.xor_self]
    have h2 : (crcN xs ^^^ numN ys) ^^^ 4294967295 = 0 := by
      apply Classical.byContradiction
      intro h0
      exact stpN_ne 32 (xor_lt32 (xor_lt32 (crcN_lt xs) hl) (by decide)) h0 h1
    apply numN_inj _ _ (by rw [h4]; rfl)
    rw [seal_num]
    unfold crcS
    have h3 := congrArg (· ^^^ 4294967295 ^^^ crcN xs) h2
    simp only [Nat.xor_assoc, Nat.xor_self, Nat.xor_zero, Nat.zero_xor] at h3
    rw [← h3, Nat.xor_comm (numN ys), ← Nat.xor_assoc, Nat.xor_self, Nat.zero_xor]
theorem unS_seal (xs : List UInt8) : unS (xs ++ sealL xs) = (xs, 0) := by
  have hl : (xs ++ sealL xs).length = xs.length + 4 := by simp [sealL]
  unfold unS
  rw [hl, if_neg (by omega), show xs.length + 4 - 4 = xs.length from by omega, List.drop_left, List.take_left, if_pos rfl]
theorem unS_reg (zs : List UInt8) (h4 : 4 ≤ zs.length) : (unS zs).2 = 0 ↔ regR 4294967295 zs = stpN 32 4294967295 := by
  have h := sealed_iff (zs.take (zs.length - 4)) (zs.drop (zs.length - 4)) (by simp; omega)
  rw [List.take_append_drop] at h
  unfold unS
  rw [if_neg (by omega), ← h]
  split
  · rename_i e; simp [e]
  · rename_i e; simp [e]
/-- ANY BITS OF 32 NEIGHBOURING ONES TURNED IN A SEALED STRING ARE TOLD -/
theorem burst_told (xs : List UInt8) (at_ : Int) (mask : Nat) (ht : tch at_ mask (xs ++ sealL xs).length) : unS (bst at_ mask (xs ++ sealL xs) 32) = ([], 13) := by
  have hl : (xs ++ sealL xs).length = xs.length + 4 := by simp [sealL]
  generalize hs : xs ++ sealL xs = s at *
  have h0 : regR 4294967295 s = stpN 32 4294967295 := (unS_reg s (by omega)).1 (by rw [← hs, unS_seal])
  have hb := bst_len at_ mask s 32
  have hne : ¬ (unS (bst at_ mask s 32)).2 = 0 := by
    rw [unS_reg _ (by omega)]
    intro e
    have h1 := regR_num (bst at_ mask s 32) 4294967295
    rw [e, wnd_num at_ mask s at_.toNat rfl 32, ← Nat.xor_assoc, stpN_xor, hb, ← regR_num s, h0] at h1
    have h2 : stpN (8 * s.length) (2 ^ at_.toNat * wnd at_ mask s.length at_.toNat 32) = 0 := by
      have := congrArg (stpN 32 4294967295 ^^^ ·) h1
      simp only [← Nat.xor_assoc, Nat.xor_self, Nat.zero_xor] at this
      exact this.symm
    have hp : at_.toNat ≤ 8 * s.length := by obtain ⟨j, hj, h3, h4, h5⟩ := ht; omega
    rw [show 8 * s.length = (8 * s.length - at_.toNat) + at_.toNat from by omega, stpN_add, stpN_pow] at h2
    refine stpN_ne _ (wnd_lt at_ mask s.length at_.toNat rfl 32 (Nat.le_refl _)) ?_ h2
    intro e0
    exact (wnd_zero at_ mask s.length at_.toNat rfl).1 e0 ht
  unfold unS at hne ⊢
  rw [if_neg (by omega)] at hne ⊢
  split at hne
  · simp at hne
  · rename_i h; rw [if_neg h]
end Go.Proofs.YtnpcgegcoakbmaaDoor
