import Derived.Test.YtplncfahpdmcoaaGreatDoorUnseal
import Derived.Test.YtplncfahpdmcoaaGreatDoorTurnO
import Derived.Test.YtplncfahpdmcoaaGreatDoorNumb
namespace Go.Proofs.YtplncfahpdmcoaaGreatDoor
set_option linter.unusedVariables false
set_option linter.unusedSimpArgs false
open Go.RowKit
/-- the string as one number, the first byte lowest -/
def numN : List UInt8 → Nat
  | [] => 0
  | x :: xs => x.toNat + 256 * numN xs
def regR (c : Nat) (xs : List UInt8) : Nat := xs.foldl crcB c
theorem xor_256 (x y : Nat) (h : x < 256) : x + 256 * y = x ^^^ (256 * y) := by
  apply Nat.eq_of_testBit_eq
  intro i
  have e : (256 : Nat) = 2 ^ 8 := by decide
  have h1 : (x + 256 * y) = (256 * y) ||| x := by
    rw [Nat.add_comm, e]
    exact Nat.two_pow_add_eq_or_of_lt (by omega) _
  rw [h1, Nat.testBit_or, Nat.testBit_xor, e, Nat.testBit_two_pow_mul]
  by_cases hi : i < 8
  · simp [show ¬ 8 ≤ i from by omega]
  · have hx : x.testBit i = false := Nat.testBit_lt_two_pow (Nat.lt_of_lt_of_le h (by rw [e]; exact Nat.pow_le_pow_right (by decide) (by omega)))
    simp [hx]
theorem stpN_pow (p : Nat) : ∀ y, stpN p (2 ^ p * y) = y := by
  induction p with
  | zero => intro y; simp [stpN]
  | succ p ih =>
    intro y
    have e : 2 ^ (p + 1) * y = 2 ^ p * (2 * y) := by rw [Nat.pow_succ, Nat.mul_assoc]
    simp only [stpN]
    rw [e, ih, stp_double]
theorem regR_num : ∀ (xs : List UInt8) (c : Nat), regR c xs = stpN (8 * xs.length) (c ^^^ numN xs)
  | [], c => by simp [regR, numN, stpN]
  | x :: xs, c => by
    have hx := x.toNat_lt
    have h := regR_num xs (crcB c x)
    simp only [regR, List.foldl_cons] at h ⊢
    rw [h]
    simp only [numN, List.length_cons, crcB]
    rw [xor_256 _ _ (by omega), ← Nat.xor_assoc, show 8 * (xs.length + 1) = 8 * xs.length + 8 from by omega, stpN_add, stpN_xor 8 (_ ^^^ _)]
    have e : stpN 8 (256 * numN xs) = numN xs := stpN_pow 8 (numN xs)
    rw [e]
/-- the register never comes to 0 from anything else -/
theorem stp_ne {c : Nat} (h : c < 4294967296) (h0 : c ≠ 0) : stp c ≠ 0 := by
  unfold stp
  split
  · intro e
    have h2 : (c / 2 ^^^ poly).testBit 31 = true := by
      rw [Nat.testBit_xor, Nat.testBit_lt_two_pow (show c / 2 < 2 ^ 31 by omega)]
      decide
    rw [e] at h2
    simp at h2
  · omega
theorem stpN_ne (k : Nat) {c : Nat} (h : c < 4294967296) (h0 : c ≠ 0) : stpN k c ≠ 0 := by
  induction k with
  | zero => exact h0
  | succ k ih => exact stp_ne (stpN_lt k h) ih
theorem numN_lt (xs : List UInt8) : numN xs < 2 ^ (8 * xs.length) := by
  induction xs with
  | nil => simp [numN]
  | cons x xs ih =>
    have hx := x.toNat_lt
    simp only [numN, List.length_cons]
    rw [show 8 * (xs.length + 1) = 8 * xs.length + 8 from by omega, Nat.pow_add]
    omega
theorem numN_inj : ∀ (xs ys : List UInt8), xs.length = ys.length → numN xs = numN ys → xs = ys
  | [], [], _, _ => rfl
  | [], y :: ys, h, _ => by simp at h
  | x :: xs, [], h, _ => by simp at h
  | x :: xs, y :: ys, h, e => by
    have hx := x.toNat_lt
    have hy := y.toNat_lt
    simp only [numN] at e
    rw [show x = y from UInt8.toNat_inj.1 (by omega), numN_inj xs ys (by simpa using h) (by omega)]
theorem pow_xor (p a b : Nat) : 2 ^ p * (a ^^^ b) = (2 ^ p * a) ^^^ (2 ^ p * b) := by
  apply Nat.eq_of_testBit_eq
  intro i
  rw [Nat.testBit_xor, Nat.testBit_two_pow_mul, Nat.testBit_two_pow_mul, Nat.testBit_two_pow_mul, Nat.testBit_xor]
  by_cases h : p ≤ i <;> simp [h]
/-- a turned bit -/
theorem numN_turn : ∀ (xs : List UInt8) (k : Nat), k < 8 * xs.length → numN (turnB xs k) = numN xs ^^^ 2 ^ k
  | [], k, h => by simp at h
  | x :: xs, k, h => by
    have hx := x.toNat_lt
    by_cases h8 : k < 8
    · have e : turnB (x :: xs) k = (x ^^^ UInt8.ofNat (2 ^ (k % 8))) :: xs := by
        unfold turnB
        rw [show k / 8 = 0 from by omega]
        rfl
      have hp : 2 ^ k < 256 := Nat.lt_of_lt_of_le (Nat.pow_lt_pow_right (by decide) h8) (by decide)
      have hb : (x ^^^ UInt8.ofNat (2 ^ (k % 8))).toNat = x.toNat ^^^ 2 ^ k := by
        rw [UInt8.toNat_xor, UInt8.toNat_ofNat', show k % 8 = k from by omega, Nat.mod_eq_of_lt hp]
      rw [e]
      simp only [numN]
      have hlt : x.toNat ^^^ 2 ^ k < 256 := Nat.xor_lt_two_pow (n := 8) (by omega) hp
      rw [hb, xor_256 _ _ hlt, xor_256 _ _ (by omega), Nat.xor_assoc, Nat.xor_assoc, Nat.xor_comm (2 ^ k)]
    · have e : turnB (x :: xs) k = x :: turnB xs (k - 8) := by
        unfold turnB
        rw [show k / 8 = (k - 8) / 8 + 1 from by omega, show (k - 8) % 8 = k % 8 from by omega]
        rfl
      rw [e]
      simp only [numN]
      have hk : 256 * 2 ^ (k - 8) = 2 ^ k := by
        rw [show (256 : Nat) = 2 ^ 8 from by decide, ← Nat.pow_add]
        congr 1
        omega
      rw [numN_turn xs (k - 8) (by simp at h; omega), xor_256 _ _ (by omega), xor_256 _ _ (by omega)]
      have e2 : 256 * (numN xs ^^^ 2 ^ (k - 8)) = (256 * numN xs) ^^^ 2 ^ k := by rw [← hk]; exact pow_xor 8 _ _
      rw [e2, Nat.xor_assoc]
/-- what is turned, from bit p on -/
def wnd (at_ : Int) (mask n p : Nat) : Nat → Nat
  | 0 => 0
  | k + 1 => if mask / 2 ^ k % 2 = 1 ∧ 0 ≤ at_ + k ∧ at_ + k < 8 * n then wnd at_ mask n p k ^^^ 2 ^ ((at_ + k).toNat - p) else wnd at_ mask n p k
theorem wnd_num (at_ : Int) (mask : Nat) (xs : List UInt8) (p : Nat) (hp : p = at_.toNat) (k : Nat) : numN (bst at_ mask xs k) = numN xs ^^^ 2 ^ p * wnd at_ mask xs.length p k := by
  induction k with
  | zero => simp [bst, wnd]
  | succ k ih =>
    simp only [bst, bstep, wnd]
    rw [bst_len]
    split
    · rename_i h
      rw [numN_turn _ _ (by rw [bst_len]; omega), ih, pow_xor, Nat.xor_assoc, ← Nat.pow_add, show p + ((at_ + k).toNat - p) = (at_ + k).toNat from by omega]
    · exact ih
theorem wnd_lt (at_ : Int) (mask n p : Nat) (hp : p = at_.toNat) (k : Nat) (hk : k ≤ 32) : wnd at_ mask n p k < 4294967296 := by
  induction k with
  | zero => simp [wnd]
  | succ k ih =>
    simp only [wnd]
    split
    · rename_i h
      exact xor_lt32 (ih (by omega)) (Nat.lt_of_lt_of_le (Nat.pow_lt_pow_right (by decide) (show (at_ + k).toNat - p < 32 by omega)) (by decide))
    · exact ih (by omega)
theorem wnd_bit (at_ : Int) (mask n p : Nat) (hp : p = at_.toNat) (k j : Nat) (hj : 0 ≤ at_ + j) : (wnd at_ mask n p k).testBit ((at_ + j).toNat - p) = decide (j < k ∧ mask / 2 ^ j % 2 = 1 ∧ 0 ≤ at_ + j ∧ at_ + j < 8 * n) := by
  induction k with
  | zero => simp [wnd]
  | succ k ih =>
    simp only [wnd]
    by_cases hjk : j = k
    · subst hjk
      split
      · rename_i h
        rw [Nat.testBit_xor, ih, Nat.testBit_two_pow_self]
        simp [h]
      · rename_i h
        rw [ih]
        simp [h]
    · split
      · rename_i h
        rw [Nat.testBit_xor, ih, Nat.testBit_two_pow_of_ne (by omega), Bool.xor_false]
        congr 1
        simp only [eq_iff_iff]
        constructor
        · rintro ⟨a, b⟩; exact ⟨by omega, b⟩
        · rintro ⟨a, b⟩; exact ⟨by omega, b⟩
      · rw [ih]
        congr 1
        simp only [eq_iff_iff]
        constructor
        · rintro ⟨a, b⟩; exact ⟨by omega, b⟩
        · rintro ⟨a, b⟩; exact ⟨by omega, b⟩
/-- some bit is turned -/
def tch (at_ : Int) (mask n : Nat) : Prop := ∃ j : Nat, j < 32 ∧ mask / 2 ^ j % 2 = 1 ∧ 0 ≤ at_ + j ∧ at_ + j < 8 * n
theorem wnd_zero (at_ : Int) (mask n p : Nat) (hp : p = at_.toNat) : wnd at_ mask n p 32 = 0 ↔ ¬ tch at_ mask n := by
  constructor
  · rintro h ⟨j, hj, hc⟩
    have := wnd_bit at_ mask n p hp 32 j hc.2.1
    rw [h] at this
    simp at this
    have h2 := this hj hc.1 hc.2.1
    have h3 := hc.2.2
    omega
  · intro h
    have : ∀ k, k ≤ 32 → wnd at_ mask n p k = 0 := by
      intro k hk
      induction k with
      | zero => rfl
      | succ k ih =>
        simp only [wnd]
        rw [if_neg (fun hc => h ⟨k, by omega, hc⟩)]
        exact ih (by omega)
    exact this 32 (Nat.le_refl _)
/-- turned into itself just where nothing is turned -/
theorem bst_same (at_ : Int) (mask : Nat) (xs : List UInt8) : bst at_ mask xs 32 = xs ↔ ¬ tch at_ mask xs.length := by
  have h := wnd_num at_ mask xs at_.toNat rfl 32
  rw [← wnd_zero at_ mask xs.length at_.toNat rfl]
  constructor
  · intro e
    rw [e] at h
    have h2 : 2 ^ at_.toNat * wnd at_ mask xs.length at_.toNat 32 = 0 := by
      have := congrArg (numN xs ^^^ ·) h
      simp only [← Nat.xor_assoc, Nat.xor_self, Nat.zero_xor] at this
      exact this.symm
    rcases Nat.mul_eq_zero.1 h2 with h3 | h3
    · exact absurd h3 (by have := Nat.pow_pos (n := at_.toNat) (show 0 < 2 by decide); omega)
    · exact h3
  · intro e
    rw [e] at h
    simp only [Nat.mul_zero, Nat.xor_zero] at h
    exact numN_inj _ _ (bst_len _ _ _ _) h
theorem seal_num (xs : List UInt8) : numN (sealL xs) = crcS xs := by
  have h := crcS_lt xs
  unfold sealL
  simp only [numN]
  rw [UInt8.toNat_ofNat', UInt8.toNat_ofNat', UInt8.toNat_ofNat', UInt8.toNat_ofNat']
  omega
/-- a string whose last four bytes are its seal, by the register -/
theorem sealed_iff (xs ys : List UInt8) (h4 : ys.length = 4) : ys = sealL xs ↔ regR 4294967295 (xs ++ ys) = stpN 32 4294967295 := by
  have e1 : regR 4294967295 (xs ++ ys) = stpN 32 (crcN xs ^^^ numN ys) := by
    have : regR 4294967295 (xs ++ ys) = regR (crcN xs) ys := by unfold regR crcN; rw [List.foldl_append]
    rw [this, regR_num, h4]
  have hl : numN ys < 4294967296 := by have := numN_lt ys; rw [h4] at this; exact this
  rw [e1]
  constructor
  · intro e
    rw [e, seal_num]
    unfold crcS
    rw [Nat.xor_comm 4294967295, ← Nat.xor_assoc, Nat.xor_self, Nat.zero_xor]
  · intro e
    have h1 : stpN 32 ((crcN xs ^^^ numN ys) ^^^ 4294967295) = 0 := by rw [stpN_xor, e, Nat.xor_self]
    have h2 : (crcN xs ^^^ numN ys) ^^^ 4294967295 = 0 := by
      apply Classical.byContradiction
      intro h0
      exact stpN_ne 32 (xor_lt32 (xor_lt32 (crcN_lt xs) hl) (by decide)) h0 h1
    apply numN_inj _ _ (by rw [h4]; rfl)
    rw [seal_num]
    unfold crcS
    have h3 := congrArg (· ^^^ 4294967295 ^^^ crcN xs) h2
    simp only [Nat.xor_assoc, Nat.xor_self, Nat.xor_zero, Nat.zero_xor] at h3
    rw [← h3, Nat.xor_comm (numN ys), ← Nat.xor_assoc, Nat.xor_self, Nat.zero_xor]
theorem unS_seal (xs : List UInt8) : unS (xs ++ sealL xs) = (xs, 0) := by
  have hl : (xs ++ sealL xs).length = xs.length + 4 := by simp [sealL]
  unfold unS
  rw [hl, if_neg (by omega), show xs.length + 4 - 4 = xs.length from by omega, List.drop_left, List.take_left, if_pos rfl]
theorem unS_reg (zs : List UInt8) (h4 : 4 ≤ zs.length) : (unS zs).2 = 0 ↔ regR 4294967295 zs = stpN 32 4294967295 := by
  have h := sealed_iff (zs.take (zs.length - 4)) (zs.drop (zs.length - 4)) (by simp; omega)
  rw [List.take_append_drop] at h
  unfold unS
  rw [if_neg (by omega), ← h]
  split
  · rename_i e; simp [e]
  · rename_i e; simp [e]
/-- ANY BITS OF 32 NEIGHBOURING ONES TURNED IN A SEALED STRING ARE TOLD -/
theorem burst_told (xs : List UInt8) (at_ : Int) (mask : Nat) (ht : tch at_ mask (xs ++ sealL xs).length) : unS (bst at_ mask (xs ++ sealL xs) 32) = ([], 13) := by
  have hl : (xs ++ sealL xs).length = xs.length + 4 := by simp [sealL]
  generalize hs : xs ++ sealL xs = s at *
  have h0 : regR 4294967295 s = stpN 32 4294967295 := (unS_reg s (by omega)).1 (by rw [← hs, unS_seal])
  have hb := bst_len at_ mask s 32
  have hne : ¬ (unS (bst at_ mask s 32)).2 = 0 := by
    rw [unS_reg _ (by omega)]
    intro e
    have h1 := regR_num (bst at_ mask s 32) 4294967295
    rw [e, wnd_num at_ mask s at_.toNat rfl 32, ← Nat.xor_assoc, stpN_xor, hb, ← regR_num s, h0] at h1
    have h2 : stpN (8 * s.length) (2 ^ at_.toNat * wnd at_ mask s.length at_.toNat 32) = 0 := by
      have := congrArg (stpN 32 4294967295 ^^^ ·) h1
      simp only [← Nat.xor_assoc, Nat.xor_self, Nat.zero_xor] at this
      exact this.symm
    have hp : at_.toNat ≤ 8 * s.length := by obtain ⟨j, hj, h3, h4, h5⟩ := ht; omega
    rw [show 8 * s.length = (8 * s.length - at_.toNat) + at_.toNat from by omega, stpN_add, stpN_pow] at h2
    refine stpN_ne _ (wnd_lt at_ mask s.length at_.toNat rfl 32 (Nat.le_refl _)) ?_ h2
    intro e0
    exact (wnd_zero at_ mask s.length at_.toNat rfl).1 e0 ht
  unfold unS at hne ⊢
  rw [if_neg (by omega)] at hne ⊢
  split at hne
  · simp at hne
  · rename_i h; rw [if_neg h]
end Go.Proofs.YtplncfahpdmcoaaGreatDoor
namespace Go.Proofs.YtplncfahpdmcoaaGreatDoor
set_option linter.unusedVariables false
set_option linter.unusedSimpArgs false
open Go.RowKit

theorem head_app {xs ys : List UInt8} (h : xs ≠ []) : (xs ++ ys).head? = xs.head? := by cases xs with | nil => exact absurd rfl h | cons x xs => rfl
theorem vl_append : ∀ (xs ys : List UInt8) (n : Nat), vl n (xs ++ ys) = (vl n xs).bind (fun m => vl m ys)
  | [], ys, n => by simp [vl]
  | c :: r, ys, n => by
    simp only [List.cons_append, vl]
    split
    · rfl
    · exact vl_append r ys _
theorem hiD_ge (f : Nat) : ∀ n, n ≤ f → ∀ c ∈ hiD n, 128 ≤ c.toNat := by
  induction f with
  | zero => intro n hn c hc; obtain rfl : n = 0 := by omega
            rw [hiD_zero] at hc; cases hc
  | succ f ih =>
    intro n hn c hc
    by_cases h0 : n = 0
    · subst h0; rw [hiD_zero] at hc; cases hc
    · rw [hiD_pos n h0, List.mem_append] at hc
      rcases hc with hc | hc
      · exact ih (n / 128) (by omega) c hc
      · simp only [List.mem_cons, List.not_mem_nil, or_false] at hc
        subst hc
        rw [UInt8.toNat_ofNat']; omega
theorem hiD_head (f : Nat) : ∀ n, n ≤ f → (hiD n).head? ≠ some 128 := by
  induction f with
  | zero => intro n hn; obtain rfl : n = 0 := by omega
            rw [hiD_zero]; simp
  | succ f ih =>
    intro n hn
    by_cases h0 : n = 0
    · subst h0; rw [hiD_zero]; simp
    · rw [hiD_pos n h0]
      by_cases h1 : n / 128 = 0
      · rw [h1, hiD_zero]
        simp only [List.nil_append, List.head?_cons, ne_eq, Option.some.injEq]
        intro e
        have := congrArg UInt8.toNat e
        rw [UInt8.toNat_ofNat'] at this
        simp at this
        omega
      · have h2 := ih (n / 128) (by omega)
        have h3 : hiD (n / 128) ≠ [] := by
          rw [hiD_pos _ h1]; simp
        rw [head_app h3]
        exact h2
theorem hiD_vl (f : Nat) : ∀ n, n ≤ f → n < 18446744073709551616 → vl 0 (hiD n) = some n := by
  induction f with
  | zero => intro n hn _; obtain rfl : n = 0 := by omega
            rw [hiD_zero]; rfl
  | succ f ih =>
    intro n hn hlt
    by_cases h0 : n = 0
    · subst h0; rw [hiD_zero]; rfl
    · rw [hiD_pos n h0, vl_append, ih (n / 128) (by omega) (by omega)]
      simp only [Option.bind_some, vl]
      rw [if_neg (by omega), UInt8.toNat_ofNat']
      congr 1
      omega
theorem dg_vl (n : Nat) (h : n < 18446744073709551616) : vl 0 (dg n) = some n := by
  unfold dg
  rw [vl_append, hiD_vl _ (n / 128) (Nat.le_refl _) (by omega)]
  simp only [Option.bind_some, vl]
  rw [if_neg (by omega), UInt8.toNat_ofNat']
  congr 1
  omega
theorem nsz_dg (n : Nat) (h : n < 18446744073709551616) (ys : List UInt8) : nsz (dg n ++ ys) = (dg n).length := by
  have hl := dg_len n h
  have hlen : (dg n).length = (hiD (n / 128)).length + 1 := by simp [dg]
  rw [hlen]
  refine nsz_hit (dg n ++ ys) (hiD (n / 128)).length (by simp [dg]) (by omega) ?_ ?_
  · intro i hi hlt
    have e : (dg n ++ ys)[i] = (hiD (n / 128))[i] := by simp [dg, List.getElem_append_left, hlt]
    rw [e]
    exact hiD_ge _ _ (Nat.le_refl _) _ (List.getElem_mem _)
  · have e : (dg n ++ ys)[(hiD (n / 128)).length]'(by simp [dg]) = UInt8.ofNat (n % 128) := by simp [dg]
    rw [e, UInt8.toNat_ofNat']
    omega
theorem dg_head (n : Nat) (ys : List UInt8) : (dg n ++ ys).head? ≠ some 128 := by
  unfold dg
  by_cases h : n / 128 = 0
  · rw [h, hiD_zero]
    simp only [List.nil_append, List.cons_append, List.head?_cons, ne_eq, Option.some.injEq]
    intro e
    have := congrArg UInt8.toNat e
    rw [UInt8.toNat_ofNat'] at this
    simp at this
    omega
  · have h3 : hiD (n / 128) ≠ [] := by rw [hiD_pos _ h]; simp
    rw [List.append_assoc, head_app h3]
    exact hiD_head _ _ (Nat.le_refl _)
/-- a number's bytes are read back -/
theorem numS_dg (n : Nat) (h : n < 18446744073709551616) (ys : List UInt8) : numS (dg n ++ ys) = (n, (dg n).length, 0) := by
  have hl := dg_len n h
  unfold numS
  rw [nsz_dg n h ys, if_neg (by omega), if_neg (dg_head n ys), List.take_left' rfl, dg_vl n h]

def vv : Nat → List UInt8 → Nat
  | n, [] => n
  | n, c :: r => vv (n * 128 + c.toNat % 128) r
theorem vv_append : ∀ (xs ys : List UInt8) (n : Nat), vv n (xs ++ ys) = vv (vv n xs) ys
  | [], ys, n => by simp [vv]
  | c :: r, ys, n => by simp only [List.cons_append, vv]; exact vv_append r ys _
theorem vl_vv : ∀ (xs : List UInt8) (n m : Nat), vl n xs = some m → m = vv n xs
  | [], n, m, h => by simp [vl] at h; simp [vv, h]
  | c :: r, n, m, h => by
    simp only [vl] at h
    split at h
    · cases h
    · exact vl_vv r _ m h
theorem hiD_vv : ∀ (k : Nat) (zs : List UInt8), zs.length = k → (∀ c ∈ zs, 128 ≤ c.toNat) → zs.head? ≠ some 128 → hiD (vv 0 zs) = zs
  | 0, zs, hk, _, _ => by obtain rfl : zs = [] := List.eq_nil_of_length_eq_zero hk
                          simp [vv, hiD_zero]
  | k + 1, zs, hk, hall, hh => by
    have hne : zs ≠ [] := by intro e; subst e; simp at hk
    obtain ⟨ys, c, rfl⟩ : ∃ ys c, zs = ys ++ [c] := ⟨zs.dropLast, zs.getLast hne, (List.dropLast_concat_getLast hne).symm⟩
    have hc := hall c (by simp)
    have hc2 := c.toNat_lt
    have hyl : ys.length = k := by simpa using hk
    rw [vv_append]
    simp only [vv]
    by_cases hy : ys = []
    · subst hy
      have hc3 : c.toNat ≠ 128 := by
        intro e; apply hh; simp; apply UInt8.toNat_inj.1; simpa using e
      simp only [vv]
      rw [hiD_pos _ (by omega), show (0 * 128 + c.toNat % 128) / 128 = 0 from by omega, hiD_zero]
      simp only [List.nil_append]
      congr 1
      apply UInt8.toNat_inj.1
      rw [UInt8.toNat_ofNat']
      omega
    · have ih := hiD_vv k ys hyl (fun x hx => hall x (by simp [hx])) (by rw [head_app hy] at hh; exact hh)
      have hv : vv 0 ys ≠ 0 := by intro e; rw [e, hiD_zero] at ih; exact hy ih.symm
      rw [hiD_pos _ (by omega), show (vv 0 ys * 128 + c.toNat % 128) / 128 = vv 0 ys from by omega, ih]
      congr 2
      apply UInt8.toNat_inj.1
      rw [UInt8.toNat_ofNat']
      omega
/-- a number that is found stands there in the one way in which it is written -/
theorem numS_one (xs : List UInt8) (n k : Nat) (h : numS xs = (n, k, 0)) : 1 ≤ k ∧ k ≤ xs.length ∧ xs.take k = dg n := by
  unfold numS at h
  split at h
  · split at h <;> simp at h
  · rename_i h0
    rcases nsz_le xs with h1 | ⟨h1, h2, h3, h4, h5⟩
    · exact absurd h1 h0
    · split at h
      · simp at h
      · rename_i hh
        split at h
        · simp at h
        · rename_i m hv
          simp only [Prod.mk.injEq, and_true] at h
          obtain ⟨rfl, rfl⟩ := h
          refine ⟨h1, by omega, ?_⟩
          have hm := vl_vv _ _ _ hv
          generalize nsz xs = s at *
          obtain ⟨s, rfl⟩ : ∃ t, s = t + 1 := ⟨s - 1, by omega⟩
          simp only [Nat.add_sub_cancel] at h3 h4 h5
          rw [List.take_succ_eq_append_getElem h3] at hm ⊢
          have hlt := xs[s].toNat_lt
          rw [vv_append] at hm
          simp only [vv] at hm
          have hz := hiD_vv s (xs.take s) (by simp; omega) (by
            intro c hc
            obtain ⟨i, hi, rfl⟩ := List.getElem_of_mem hc
            have hi' : i < s := by simp at hi; omega
            rw [List.getElem_take]
            exact h5 i (by omega) hi') (by
            intro e
            apply hh
            cases xs with
            | nil => simp at e
            | cons x xs => cases s with
              | zero => simp at e
              | succ s => simpa using e)
          unfold dg
          rw [show m / 128 = vv 0 (xs.take s) from by omega, hz]
          congr 2
          apply UInt8.toNat_inj.1
          rw [UInt8.toNat_ofNat']
          omega
/-- neither's bytes begin with the other's -/
theorem dg_prefix (n m : Nat) (hn : n < 18446744073709551616) (hm : m < 18446744073709551616) : (dg n).take (dg m).length = dg m ↔ n = m := by
  constructor
  · intro h
    have h1 := numS_dg n hn []
    rw [List.append_nil, ← List.take_append_drop (dg m).length (dg n), h, numS_dg m hm] at h1
    simp at h1
    exact h1.1.symm
  · rintro rfl
    simp
end Go.Proofs.YtplncfahpdmcoaaGreatDoor
