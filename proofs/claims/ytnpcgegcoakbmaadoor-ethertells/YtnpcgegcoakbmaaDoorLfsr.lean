import Derived.Test.YtnpcgegcoakbmaaDoorCrc
namespace Go.Proofs.YtnpcgegcoakbmaaDoor
set_option linter.unusedVariables false
set_option linter.unusedSimpArgs false
open Go.RowKit
def poly : Nat := 3988292384
/-- one bit moved out of the register -/
def stp (c : Nat) : Nat := if c % 2 = 1 then c / 2 ^^^ poly else c / 2
def stpN : Nat → Nat → Nat
  | 0, c => c
  | k + 1, c => stp (stpN k c)
theorem xor_odd (a b : Nat) : (a ^^^ b) % 2 = (a + b) % 2 := by
  have h := Nat.testBit_xor a b 0
  rw [Nat.testBit_zero, Nat.testBit_zero, Nat.testBit_zero] at h
  rcases Nat.mod_two_eq_zero_or_one a with ha | ha <;> rcases Nat.mod_two_eq_zero_or_one b with hb | hb <;> rcases Nat.mod_two_eq_zero_or_one (a ^^^ b) with hc | hc <;> simp [ha, hb, hc] at h <;> omega
theorem xor_half (a b : Nat) : (a ^^^ b) / 2 = a / 2 ^^^ b / 2 := Nat.xor_div_two
theorem xor4 (a b p : Nat) : (a ^^^ p) ^^^ (b ^^^ p) = a ^^^ b := by
  rw [Nat.xor_assoc, Nat.xor_comm p, Nat.xor_assoc, Nat.xor_self, Nat.xor_zero]
theorem stp_xor (a b : Nat) : stp (a ^^^ b) = stp a ^^^ stp b := by
  unfold stp
  rw [xor_odd, xor_half]
  rcases Nat.mod_two_eq_zero_or_one a with ha | ha <;> rcases Nat.mod_two_eq_zero_or_one b with hb | hb
  · rw [if_neg (by omega), if_neg (by omega), if_neg (by omega)]
  · rw [if_pos (by omega), if_neg (by omega), if_pos hb, Nat.xor_assoc]
  · rw [if_pos (by omega), if_pos ha, if_neg (by omega), Nat.xor_assoc, Nat.xor_assoc, Nat.xor_comm (b / 2)]
  · rw [if_neg (by omega), if_pos ha, if_pos hb, xor4]
theorem stpN_xor (k : Nat) (a b : Nat) : stpN k (a ^^^ b) = stpN k a ^^^ stpN k b := by
  induction k with
  | zero => rfl
  | succ k ih => simp only [stpN]; rw [ih, stp_xor]
theorem stp_double (y : Nat) : stp (2 * y) = y := by unfold stp; rw [if_neg (by omega)]; omega
theorem stp_zero : stp 0 = 0 := rfl
theorem stpN_zero (k : Nat) : stpN k 0 = 0 := by induction k with | zero => rfl | succ k ih => simp only [stpN]; rw [ih, stp_zero]
theorem stpN_add (j k c : Nat) : stpN (j + k) c = stpN j (stpN k c) := by
  induction j with
  | zero => rw [Nat.zero_add]; rfl
  | succ j ih => rw [Nat.succ_add]; simp only [stpN]; rw [ih]
theorem xor_lt32 {a b : Nat} (ha : a < 4294967296) (hb : b < 4294967296) : a ^^^ b < 4294967296 := Nat.xor_lt_two_pow (n := 32) ha hb
theorem stp_lt {c : Nat} (h : c < 4294967296) : stp c < 4294967296 := by
  unfold stp
  split
  · exact xor_lt32 (by omega) (by decide)
  · omega
theorem stpN_lt (k : Nat) {c : Nat} (h : c < 4294967296) : stpN k c < 4294967296 := by
  induction k with
  | zero => exact h
  | succ k ih => exact stp_lt ih
/-- a multiple of 16: four steps only shift -/
theorem stp4_high (h : Nat) : stpN 4 (16 * h) = h := by
  have e : 16 * h = 2 * (2 * (2 * (2 * h))) := by omega
  rw [e]
  simp only [stpN, stp_double]
theorem xor_16 (c : Nat) : c = (16 * (c / 16)) ^^^ (c % 16) := by
  have h : (2 ^ 4 * (c / 16)) ||| (c % 16) = 2 ^ 4 * (c / 16) + c % 16 := Nat.two_pow_add_eq_or_of_lt (by omega) _ |>.symm
  apply Nat.eq_of_testBit_eq
  intro i
  rw [Nat.testBit_xor]
  have e16 : (16 : Nat) = 2 ^ 4 := by decide
  rw [e16, Nat.testBit_two_pow_mul, Nat.testBit_mod_two_pow, Nat.testBit_div_two_pow]
  by_cases hi : i < 4
  · simp [hi, show ¬ 4 ≤ i from by omega]
  · simp [hi, show 4 ≤ i from by omega, show i - 4 + 4 = i from by omega]
/-- the table's words -/
theorem tab_stp (l : Nat) (h : l < 16) : tab.getD l 0 = ((stpN 4 l : Nat) : Int) := by
  have : ∀ l : Fin 16, tab.getD l.1 0 = ((stpN 4 l.1 : Nat) : Int) := by decide +kernel
  exact this ⟨l, h⟩
theorem crcHalf_stp (c : Nat) (h : c < 4294967296) : crcHalf (c : Int) = ((stpN 4 c : Nat) : Int) := by
  unfold crcHalf tabAt
  have e1 : ((c : Int) % 16).toNat = c % 16 := by omega
  rw [e1, tab_stp _ (by omega), show (c : Int) / 16 = ((c / 16 : Nat) : Int) from by omega, u32_xor_nat _ _ (by omega) (stpN_lt 4 (by omega))]
  congr 1
  conv => rhs; rw [xor_16 c, stpN_xor, stp4_high]
/-- the register behind a byte -/
def crcB (c : Nat) (x : UInt8) : Nat := stpN 8 (c ^^^ x.toNat)
def crcN (xs : List UInt8) : Nat := xs.foldl crcB 4294967295
theorem crcB_lt {c : Nat} (h : c < 4294967296) (x : UInt8) : crcB c x < 4294967296 := stpN_lt 8 (xor_lt32 h (by have := x.toNat_lt; omega))
theorem crcStep_B (c : Nat) (h : c < 4294967296) (x : UInt8) : crcStep (c : Int) (x.toNat : Int) = ((crcB c x : Nat) : Int) := by
  have hx := x.toNat_lt
  unfold crcStep crcB
  rw [show ((x.toNat : Int)) % 4294967296 = (x.toNat : Int) from by omega, u32_xor_nat _ _ h (by omega)]
  have h1 : c ^^^ x.toNat < 4294967296 := xor_lt32 h (by omega)
  rw [crcHalf_stp _ h1, crcHalf_stp _ (stpN_lt 4 h1), ← stpN_add 4 4]
theorem foldB_lt (xs : List UInt8) : ∀ c, c < 4294967296 → xs.foldl crcB c < 4294967296 := by
  induction xs with
  | nil => intro c h; exact h
  | cons x xs ih => intro c h; exact ih _ (crcB_lt h x)
theorem crcN_lt (xs : List UInt8) : crcN xs < 4294967296 := foldB_lt xs _ (by decide)
theorem crcI_N (xs : List UInt8) : crcI xs = ((crcN xs : Nat) : Int) := by
  unfold crcI crcN
  suffices h : ∀ c : Nat, c < 4294967296 → xs.foldl (fun z x => crcStep z x.toNat) (c : Int) = ((xs.foldl crcB c : Nat) : Int) from h _ (by decide)
  induction xs with
  | nil => intro c _; rfl
  | cons x xs ih => intro c h; simp only [List.foldl_cons]; rw [crcStep_B c h x]; exact ih _ (crcB_lt h x)
/-- the sum -/
def crcS (xs : List UInt8) : Nat := 4294967295 ^^^ crcN xs
theorem crcS_lt (xs : List UInt8) : crcS xs < 4294967296 := xor_lt32 (by decide) (crcN_lt xs)
theorem crcS_eq (xs : List UInt8) : bits .xor .u32 4294967295 (crcI xs) = ((crcS xs : Nat) : Int) := by
  rw [crcI_N]
  exact u32_xor_nat 4294967295 _ (by decide) (crcN_lt xs)
/-- bit by bit, each bit changed into the register's low end as it comes -/
theorem bit_at (x k : Nat) : x / 2 ^ k = (x / 2 ^ k % 2) ^^^ (2 * (x / 2 ^ (k + 1))) := by
  have e : x / 2 ^ (k + 1) = x / 2 ^ k / 2 := by rw [Nat.pow_succ, Nat.div_div_eq_div_mul]
  rw [e]
  generalize x / 2 ^ k = y
  apply Nat.eq_of_testBit_eq
  intro i
  rw [Nat.testBit_xor]
  rcases i with _ | i
  · rw [Nat.testBit_zero, Nat.testBit_zero, Nat.testBit_zero]; simp
  · rw [Nat.testBit_succ, Nat.testBit_succ, Nat.testBit_succ]
    rw [show y % 2 / 2 = 0 from by omega, show 2 * (y / 2) / 2 = y / 2 from by omega]
    simp
def bitB (x : Nat) (c : Nat) : Nat → Nat
  | 0 => c
  | k + 1 => stp (bitB x c k ^^^ (x / 2 ^ k % 2))
theorem bitB_stp (x c k : Nat) : bitB x c k ^^^ (x / 2 ^ k) = stpN k (c ^^^ x) := by
  induction k with
  | zero => simp [bitB, stpN]
  | succ k ih =>
    simp only [bitB, stpN]
    rw [← ih]
    conv => rhs; rw [bit_at x k]
    rw [← Nat.xor_assoc, stp_xor (_ ^^^ _), stp_double]
theorem bitB_8 (x : UInt8) (c : Nat) : bitB x.toNat c 8 = crcB c x := by
  have h := bitB_stp x.toNat c 8
  have hx := x.toNat_lt
  rw [show x.toNat / 2 ^ 8 = 0 from by omega, Nat.xor_zero] at h
  exact h
theorem bitB_lt (x c : Nat) (h : c < 4294967296) (k : Nat) : bitB x c k < 4294967296 := by
  induction k with
  | zero => exact h
  | succ k ih => exact stp_lt (xor_lt32 ih (by omega))
end Go.Proofs.YtnpcgegcoakbmaaDoor
