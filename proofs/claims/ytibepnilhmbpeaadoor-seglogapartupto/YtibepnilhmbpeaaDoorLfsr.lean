import Derived.Test.YtibepnilhmbpeaaDoorHelp
namespace Go.Proofs.YtibepnilhmbpeaaDoor
set_option linter.unusedVariables false
set_option linter.unusedSimpArgs false
open Go.RowKit
def tab : List Int := [0, 498536548, 997073096, 651767980, 1994146192, 1802195444, 1303535960, 1342533948, 3988292384, 4027552580, 3604390888, 3412177804, 2607071920, 2262029012, 2685067896, 3183342108]
def tabAt (m : Int) : Int := tab.getD (m % 16).toNat 0
def TabOk (w : World) : Prop := ∀ m : Int, w.cell? ⟨0, (m % 16).toNat, none⟩ = some (.int .u32 (tabAt m))
theorem xor_bd (a b : Int) : 0 ≤ bits .xor .u32 a b ∧ bits .xor .u32 a b ≤ 4294967295 := by
  unfold bits
  rw [IntKind.wrap_u32']
  omega
def crcHalf (c : Int) : Int := bits .xor .u32 (c / 16) (tabAt c)
def crcStep (z x : Int) : Int := crcHalf (crcHalf (bits .xor .u32 z (x % 4294967296)))
def crcI (xs : List UInt8) : Int := xs.foldl (fun z x => crcStep z x.toNat) 4294967295
theorem crcHalf_bd (c : Int) : 0 ≤ crcHalf c ∧ crcHalf c ≤ 4294967295 := xor_bd _ _
theorem crcI_bd (xs : List UInt8) : 0 ≤ crcI xs ∧ crcI xs ≤ 4294967295 := by
  unfold crcI
  suffices h : ∀ z : Int, 0 ≤ z ∧ z ≤ 4294967295 → 0 ≤ xs.foldl (fun z x => crcStep z x.toNat) z ∧ xs.foldl (fun z x => crcStep z x.toNat) z ≤ 4294967295 from h _ (by omega)
  induction xs with
  | nil => intro z h; exact h
  | cons x xs ih => intro z _; exact ih _ (crcHalf_bd _)
theorem take_snoc (xs : List UInt8) (k : Nat) (h : k < xs.length) : xs.take (k + 1) = xs.take k ++ [xs[k]] := by
  rw [List.take_succ_eq_append_getElem h]
theorem crcI_snoc (xs : List UInt8) (x : UInt8) : crcI (xs ++ [x]) = crcStep (crcI xs) x.toNat := by
  simp [crcI, List.foldl_append]
set_option maxHeartbeats 400000 in
theorem crc_any (ao : Option Addr) (cap : Nat) (xs : List UInt8) (w : World) (hx : Rd w ao xs) (hl : xs.length ≤ 140737488355328) (ht : TabOk w) :
    Calls Tryd.prog 84 #[.slice ao xs.length cap] w fun e w' => e = .returned (.int .u32 (bits .xor .u32 4294967295 (crcI xs))) ∧ w' = w := by
  go_enter Tryd.func84, Tryd.ntmps84
  go_wp2
  go_loop [3, 8] (fun c i => ∃ k : Nat, k ≤ xs.length ∧ i = .int .i64 k ∧ c = .int .u32 (crcI (xs.take k))) (fun _ i => xs.length - (intOf i).toNat)
  case atStart => exact ⟨0, Nat.zero_le _, rfl, rfl⟩
  case round =>
    obtain ⟨k, hk, rfl, rfl⟩ := hrel
    have hz := crcI_bd (xs.take k)
    by_cases hlt : k < xs.length
    · obtain ⟨b, o, rfl, hc⟩ := hx (by omega)
      have hc1 := hc k hlt
      have HS : Hid (crcI (xs.take (k + 1)) = crcStep (crcI (xs.take k)) xs[k].toNat) := by
        rw [take_snoc xs k hlt]; exact crcI_snoc _ _
      clear hc hx
      generalize hzz : crcI (xs.take k) = z at *
      clear hzz
      unfold TabOk at ht
      obtain ⟨h1, h2⟩ := xor_bd z (↑xs[k].toNat % 4294967296)
      obtain ⟨h3, h4⟩ := xor_bd (bits BinOp.xor IntKind.u32 z (↑xs[k].toNat % 4294967296) / 16) (tabAt (bits BinOp.xor IntKind.u32 z (↑xs[k].toNat % 4294967296)))
      go_wp2
      go_round
      case rel => exact ⟨k + 1, by omega, by go_num, by rw [HS.out]; rfl⟩
      case measure => simp [intOf]; omega
    · go_wp2
      go_ret
      exact ⟨by rw [List.take_of_length_le (by omega)]; rfl, rfl⟩
theorem TabOk.below {w w' : World} (h : TabOk w) (hb : Below w.heap.size w w') : TabOk w' := by
  intro m
  have h1 := h m
  exact (hb.cell (World.block_lt_of_cell? w _ h1)).trans h1
theorem TabOk.alloc {w : World} (h : TabOk w) (o : Obj) : TabOk (w.alloc o) := h.below ((Below.refl _ _).alloc (Nat.le_refl _) o)
end Go.Proofs.YtibepnilhmbpeaaDoor
namespace Go.Proofs.YtibepnilhmbpeaaDoor
set_option linter.unusedVariables false
set_option linter.unusedSimpArgs false
open Go.RowKit
def poly : Nat := 3988292384
/-- one bit moved out of the register -/
def stp (c : Nat) : Nat := if c % 2 = 1 then c / 2 ^^^ poly else c / 2
def stpN : Nat → Nat → Nat
  | 0, c => c
  | k + 1, c => stp (stpN k c)
theorem xor_odd (a b : Nat) : (a ^^^ b) % 2 = (a + b) % 2 := by
  have h := Nat.testBit_xor a b 0
  rw [Nat.testBit_zero, Nat.testBit_zero, Nat.testBit_zero] at h
  rcases Nat.mod_two_eq_zero_or_one a with ha | ha <;> rcases Nat.mod_two_eq_zero_or_one b with hb | hb <;> rcases Nat.mod_two_eq_zero_or_one (a ^^^ b) with hc | hc <;> simp [ha, hb, hc] at h <;> omega
theorem xor_half (a b : Nat) : (a ^^^ b) / 2 = a / 2 ^^^ b / 2 := Nat.xor_div_two
theorem xor4 (a b p : Nat) : (a ^^^ p) ^^^ (b ^^^ p) = a ^^^ b := by
  rw [Nat.xor_assoc, Nat.xor_comm p, Nat.xor_assoc, Nat.xor_self, Nat.xor_zero]
theorem stp_xor (a b : Nat) : stp (a ^^^ b) = stp a ^^^ stp b := by
  unfold stp
  rw [xor_odd, xor_half]
  rcases Nat.mod_two_eq_zero_or_one a with ha | ha <;> rcases Nat.mod_two_eq_zero_or_one b with hb | hb
  · rw [if_neg (by omega), if_neg (by omega), if_neg (by omega)]
  · rw [if_pos (by omega), if_neg (by omega), if_pos hb, Nat.xor_assoc]
  · rw [if_pos (by omega), if_pos ha, if_neg (by omega), Nat.xor_assoc, Nat.xor_assoc, Nat.xor_comm (b / 2)]
  · rw [if_neg (by omega), if_pos ha, if_pos hb, xor4]
theorem stpN_xor (k : Nat) (a b : Nat) : stpN k (a ^^^ b) = stpN k a ^^^ stpN k b := by
  induction k with
  | zero => rfl
  | succ k ih => simp only [stpN]; rw [ih, stp_xor]
theorem stp_double (y : Nat) : stp (2 * y) = y := by unfold stp; rw [if_neg (by omega)]; omega
theorem stpN_add (j k c : Nat) : stpN (j + k) c = stpN j (stpN k c) := by
  induction j with
  | zero => rw [Nat.zero_add]; rfl
  | succ j ih => rw [Nat.succ_add]; simp only [stpN]; rw [ih]
theorem xor_lt32 {a b : Nat} (ha : a < 4294967296) (hb : b < 4294967296) : a ^^^ b < 4294967296 := Nat.xor_lt_two_pow (n := 32) ha hb
theorem stp_lt {c : Nat} (h : c < 4294967296) : stp c < 4294967296 := by
  unfold stp
  split
  · exact xor_lt32 (by omega) (by decide)
  · omega
theorem stpN_lt (k : Nat) {c : Nat} (h : c < 4294967296) : stpN k c < 4294967296 := by
  induction k with
  | zero => exact h
  | succ k ih => exact stp_lt ih
/-- a multiple of 16: four steps only shift -/
theorem stp4_high (h : Nat) : stpN 4 (16 * h) = h := by
  have e : 16 * h = 2 * (2 * (2 * (2 * h))) := by omega
  rw [e]
  simp only [stpN, stp_double]
theorem xor_16 (c : Nat) : c = (16 * (c / 16)) ^^^ (c % 16) := by
  have h : (2 ^ 4 * (c / 16)) ||| (c % 16) = 2 ^ 4 * (c / 16) + c % 16 := Nat.two_pow_add_eq_or_of_lt (by omega) _ |>.symm
  apply Nat.eq_of_testBit_eq
  intro i
  rw [Nat.testBit_xor]
  have e16 : (16 : Nat) = 2 ^ 4 := by decide
  rw [e16, Nat.testBit_two_pow_mul, Nat.testBit_mod_two_pow, Nat.testBit_div_two_pow]
  by_cases hi : i < 4
  · simp [hi, show ¬ 4 ≤ i from by omega]
  · simp [hi, show 4 ≤ i from by omega, show i - 4 + 4 = i from by omega]
/-- the table's words -/
theorem tab_stp (l : Nat) (h : l < 16) : tab.getD l 0 = ((stpN 4 l : Nat) : Int) := by
  have : ∀ l : Fin 16, tab.getD l.1 0 = ((stpN 4 l.1 : Nat) : Int) := by decide +kernel
  exact this ⟨l, h⟩
theorem crcHalf_stp (c : Nat) (h : c < 4294967296) : crcHalf (c : Int) = ((stpN 4 c : Nat) : Int) := by
  unfold crcHalf tabAt
  have e1 : ((c : Int) % 16).toNat = c % 16 := by omega
  rw [e1, tab_stp _ (by omega), show (c : Int) / 16 = ((c / 16 : Nat) : Int) from by omega, u32_xor_nat _ _ (by omega) (stpN_lt 4 (by omega))]
  congr 1
  conv => rhs; rw [xor_16 c, stpN_xor, stp4_high]
/-- the register behind a byte -/
def crcB (c : Nat) (x : UInt8) : Nat := stpN 8 (c ^^^ x.toNat)
def crcN (xs : List UInt8) : Nat := xs.foldl crcB 4294967295
theorem crcB_lt {c : Nat} (h : c < 4294967296) (x : UInt8) : crcB c x < 4294967296 := stpN_lt 8 (xor_lt32 h (by have := x.toNat_lt; omega))
theorem crcStep_B (c : Nat) (h : c < 4294967296) (x : UInt8) : crcStep (c : Int) (x.toNat : Int) = ((crcB c x : Nat) : Int) := by
  have hx := x.toNat_lt
  unfold crcStep crcB
  rw [show ((x.toNat : Int)) % 4294967296 = (x.toNat : Int) from by omega, u32_xor_nat _ _ h (by omega)]
  have h1 : c ^^^ x.toNat < 4294967296 := xor_lt32 h (by omega)
  rw [crcHalf_stp _ h1, crcHalf_stp _ (stpN_lt 4 h1), ← stpN_add 4 4]
theorem foldB_lt (xs : List UInt8) : ∀ c, c < 4294967296 → xs.foldl crcB c < 4294967296 := by
  induction xs with
  | nil => intro c h; exact h
  | cons x xs ih => intro c h; exact ih _ (crcB_lt h x)
theorem crcN_lt (xs : List UInt8) : crcN xs < 4294967296 := foldB_lt xs _ (by decide)
theorem crcI_N (xs : List UInt8) : crcI xs = ((crcN xs : Nat) : Int) := by
  unfold crcI crcN
  suffices h : ∀ c : Nat, c < 4294967296 → xs.foldl (fun z x => crcStep z x.toNat) (c : Int) = ((xs.foldl crcB c : Nat) : Int) from h _ (by decide)
  induction xs with
  | nil => intro c _; rfl
  | cons x xs ih => intro c h; simp only [List.foldl_cons]; rw [crcStep_B c h x]; exact ih _ (crcB_lt h x)
/-- the sum -/
def crcS (xs : List UInt8) : Nat := 4294967295 ^^^ crcN xs
theorem crcS_lt (xs : List UInt8) : crcS xs < 4294967296 := xor_lt32 (by decide) (crcN_lt xs)
theorem crcS_eq (xs : List UInt8) : bits .xor .u32 4294967295 (crcI xs) = ((crcS xs : Nat) : Int) := by
  rw [crcI_N]
  exact u32_xor_nat 4294967295 _ (by decide) (crcN_lt xs)
end Go.Proofs.YtibepnilhmbpeaaDoor
