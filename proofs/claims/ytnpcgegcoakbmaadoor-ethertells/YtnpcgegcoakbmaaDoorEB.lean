import Derived.Test.YtnpcgegcoakbmaaDoorRegn
import Derived.Test.YtnpcgegcoakbmaaDoorBurst
import Derived.Laws.MathBits
import Derived.Laws.Bits64b
import Derived.Laws.BitsAllLaws
import Derived.Lib.TrailingZeros
import Derived.Lib.BitFns
import Derived.Lib.Small
import Derived.Lib.Strings
import Derived.Lib.Slices
import Derived.Lib.Walk
namespace Go.Proofs.YtnpcgegcoakbmaaDoor
set_option linter.unusedVariables false
set_option linter.unusedSimpArgs false
open Go.RowKit
/-- the library's table of lowest bits, as it is laid -/
def TabZ (w : World) : Prop := ∀ j, j < 32 → w.cell? ⟨0, j, none⟩ = some (.int .u8 ((Go.Lib.deBruijn32tab.getD j 0 : Nat) : Int))
theorem TabZ.below {w w' : World} (h : TabZ w) (hb : Below w.heap.size w w') : TabZ w' := fun j hj => (hb.cell (World.block_lt_of_cell? w _ (h j hj))).trans (h j hj)
theorem low_key (x a : Nat) (hx : x < 4294967296) (hlow : x &&& (4294967296 - x) = a) (h0 : x ≠ 0) :
    bits BinOp.and IntKind.u32 (x : Int) (-(x : Int) % 4294967296) * 125613361 % 4294967296 / 134217728 = ((a * 125613361 % 4294967296 / 134217728 : Nat) : Int) := by
  have h1 : (-(x : Int) % 4294967296) = ((4294967296 - x : Nat) : Int) := by omega
  rw [h1, u32_and_nat x _ hx (by omega), hlow]
  omega
set_option maxRecDepth 20000 in
set_option maxHeartbeats 1600000 in
theorem tz_core (x k j : Nat) (w : World) (h0 : ((x : Int) == 0) = false)
    (key : bits BinOp.and IntKind.u32 (x : Int) (-(x : Int) % 4294967296) * 125613361 % 4294967296 / 134217728 = (j : Int)) (hj : j < 32) (hk : k < 32) (hc : w.cell? ⟨0, j, none⟩ = some (.int .u8 (k : Int))) :
    Calls Tryd.prog 40 #[.int .u32 x] w fun e w' => e = .returned (.int .i64 (k : Int)) ∧ w' = w := by
  go_enter Tryd.func40, Tryd.ntmps40
  go_wp2_with (simp only [key])
  go_ret
  exact ⟨rfl, rfl⟩
set_option maxRecDepth 20000 in
theorem tz_zero (w : World) : Calls Tryd.prog 40 #[.int .u32 0] w fun e w' => e = .returned (.int .i64 32) ∧ w' = w := by
  go_enter Tryd.func40, Tryd.ntmps40
  go_wp2
  go_ret
  exact ⟨rfl, rfl⟩
/-- the lowest bit -/
def lowB (x : Nat) : Nat := Go.Lib.ctz 32 x
theorem tz_t (x : Nat) (hx : x < 4294967296) (w : World) (ht : TabZ w) : Calls Tryd.prog 40 #[.int .u32 x] w fun e w' => e = .returned (.int .i64 (lowB x : Int)) ∧ w' = w := by
  by_cases h0 : x = 0
  · subst h0
    exact tz_zero w
  · obtain ⟨h1, h2⟩ := Go.Lib.lowest_bit 32 x h0 (by simpa using hx)
    obtain ⟨h3, h4⟩ := Go.Lib.deBruijn32_at _ h2
    have h5 := ht _ h3
    rw [h4] at h5
    exact tz_core x _ _ w (by simp; omega) (low_key x _ hx (by simpa using h1) h0) h3 h2 h5
theorem lowB_spec {x : Nat} (h0 : x ≠ 0) (hx : x < 4294967296) : lowB x < 32 ∧ x.testBit (lowB x) = true ∧ ∀ j, j < lowB x → x.testBit j = false := by
  obtain ⟨m, h1, h2⟩ := Go.Lib.ctzFrom_spec 32 x (by omega) (by simpa using hx)
  have h3 : lowB x = Go.Lib.ctzFrom 32 x := by unfold lowB Go.Lib.ctz; rw [if_neg h0]
  rw [← h3] at h1 h2
  generalize lowB x = k at *
  refine ⟨h2, ?_, fun j hj => ?_⟩
  · rw [h1, Nat.testBit_two_pow_mul]
    simp
  · rw [h1, Nat.testBit_two_pow_mul]
    simp
    omega
theorem tab8_at : ∀ n : Fin 256, Go.Lib.len8tab.data[n.val]!.toNat = Go.Lib.bitLen n.val := by decide +kernel
set_option maxRecDepth 100000 in
theorem len_leaf (t : Nat) (x y : Int) (h : y.toNat < Go.Lib.len8tab.size) (hy : y.toNat = x.toNat / 2 ^ t) (h0 : 0 ≤ x) (h1 : x ≤ 18446744073709551615) (ht : t ≤ 56) (hx : t = 0 ∨ 2 ^ t ≤ x.toNat) : wrap64 ((t : Int) + wrap64 ((Go.Lib.len8tab[y.toNat]'h).toNat : Int)) = (Go.Lib.bitLen x.toNat : Int) := by
  have hs : Go.Lib.len8tab.size = 256 := by decide +kernel
  have h2 : y.toNat < 256 := by omega
  have h3 := tab8_at ⟨y.toNat, h2⟩
  have h4 := Go.Lib.bitLen_le8 ⟨y.toNat, h2⟩
  have h5 : (Go.Lib.len8tab[y.toNat]'h) = Go.Lib.len8tab.data[y.toNat]! := by
    exact (getElem!_pos Go.Lib.len8tab.data y.toNat h).symm
  simp only at h3 h4
  rw [h5, h3]
  have h6 : Go.Lib.bitLen x.toNat = t + Go.Lib.bitLen y.toNat := by
    rcases hx with rfl | hx
    · rw [hy]; simp
    · rw [hy]; exact Go.Lib.bitLen_shift t x.toNat hx (by omega)
  rw [h6]
  unfold wrap64
  omega
set_option maxRecDepth 100000 in
set_option maxHeartbeats 4000000 in
theorem len32_i (x : Int) (h0 : 0 ≤ x) (h1 : x ≤ 4294967295) (w : World) : Calls Tryd.prog 41 #[.int .u32 x] w fun e w' => e = .returned (.int .i64 (Go.Lib.bitLen x.toNat : Int)) ∧ w' = w := by
  have hs : Go.Lib.len8tab.size = 256 := by decide +kernel
  go_enter Tryd.func41, Tryd.ntmps41
  go_wp2
  all_goals (go_ret; refine ⟨congrArg Ending.returned (congrArg (Value.int IntKind.i64) ?_), rfl⟩)
  · exact len_leaf 24 x (x / 65536 / 256) _ (by show _ = x.toNat / 16777216; omega) (by omega) (by omega) (by omega) (by simp; omega)
  · exact len_leaf 16 x (x / 65536) _ (by show _ = x.toNat / 65536; omega) (by omega) (by omega) (by omega) (by simp; omega)
  · exact len_leaf 8 x (x / 256) _ (by show _ = x.toNat / 256; omega) (by omega) (by omega) (by omega) (by simp; omega)
  · have h9 := len_leaf 0 x x (by omega) (by simp) (by omega) (by omega) (by omega) (.inl rfl)
    simp only [Int.ofNat_zero, Int.zero_add] at h9
    rw [← h9]
theorem bitLen_log (x : Nat) (h0 : x ≠ 0) (hx : x < 18446744073709551616) : Go.Lib.bitLen x = x.log2 + 1 := by
  have h1 := Go.Lib.bitLen_shift x.log2 x (Nat.log2_self_le h0) (by simpa using hx)
  have h2 : x / 2 ^ x.log2 = 1 := by
    have h3 := Nat.log2_self_le h0
    have h4 : x < 2 ^ (x.log2 + 1) := Nat.lt_log2_self
    rw [Nat.pow_succ] at h4
    have hp : 0 < 2 ^ x.log2 := Nat.two_pow_pos _
    apply Nat.le_antisymm
    · have := (Nat.div_lt_iff_lt_mul hp).2 (by rw [Nat.mul_comm]; exact h4 : x < 2 * 2 ^ x.log2)
      omega
    · exact Nat.div_pos h3 hp
  rw [h2] at h1
  rw [h1]
  rfl
/-- every bit that the mask has is one of n bytes' -/
def okB (n : Nat) (at_ : Int) (m : Nat) : Bool := (List.range 32).all fun j => !decide (m / 2 ^ j % 2 = 1) || (decide (0 ≤ at_ + j) && decide (at_ + j < 8 * n))
theorem okB_iff (n : Nat) (at_ : Int) (m : Nat) : okB n at_ m = true ↔ ∀ j : Nat, j < 32 → m / 2 ^ j % 2 = 1 → 0 ≤ at_ + j ∧ at_ + j < 8 * n := by
  unfold okB
  rw [List.all_eq_true]
  constructor
  · intro h j hj hm
    have h1 := h j (List.mem_range.2 hj)
    simpa [hm] using h1
  · intro h j hj
    have h1 := h j (List.mem_range.1 hj)
    by_cases hm : m / 2 ^ j % 2 = 1
    · simpa [hm] using h1 hm
    · simp [hm]
theorem okB_ends (n : Nat) (at_ : Int) (m : Nat) (h0 : m ≠ 0) (hm : m < 4294967296) : okB n at_ m = true ↔ -(lowB m : Int) ≤ at_ ∧ at_ < 8 * n - (m.log2 : Int) := by
  obtain ⟨hl, hl1, hl2⟩ := lowB_spec h0 hm
  have hg : m.log2 < 32 := (Nat.log2_lt h0).2 (by simpa using hm)
  have hgb : m.testBit m.log2 = true := by
    rw [Nat.testBit_eq_decide_div_mod_eq]
    have h2 : m / 2 ^ m.log2 = 1 := by
      have h3 := Nat.log2_self_le h0
      have h4 : m < 2 ^ (m.log2 + 1) := Nat.lt_log2_self
      rw [Nat.pow_succ] at h4
      have hp : 0 < 2 ^ m.log2 := Nat.two_pow_pos _
      apply Nat.le_antisymm
      · have := (Nat.div_lt_iff_lt_mul hp).2 (by rw [Nat.mul_comm]; exact h4 : m < 2 * 2 ^ m.log2)
        omega
      · exact Nat.div_pos h3 hp
    rw [h2]
    rfl
  rw [okB_iff]
  constructor
  · intro h
    rw [Nat.testBit_eq_decide_div_mod_eq] at hl1 hgb
    have h1 := h _ hl (by simpa using hl1)
    have h2 := h _ hg (by simpa using hgb)
    omega
  · rintro ⟨h1, h2⟩ j hj hb
    have hlj : lowB m ≤ j := by
      rcases Nat.lt_or_ge j (lowB m) with h | h
      · have := hl2 j h
        rw [Nat.testBit_eq_decide_div_mod_eq] at this
        simp [hb] at this
      · exact h
    have hjg : j ≤ m.log2 := by
      rcases Nat.lt_or_ge m.log2 j with h | h
      · have h4 : m < 2 ^ j := Nat.lt_of_lt_of_le Nat.lt_log2_self (Nat.pow_le_pow_right (by decide) h)
        rw [Nat.div_eq_of_lt h4] at hb
        cases hb
      · exact h
    omega
/-- a burst that turns bits of n bytes, and only such -/
def wOk (n : Nat) (at_ : Int) (m : Nat) : Bool := decide (m ≠ 0) && okB n at_ m
set_option maxRecDepth 20000 in
set_option maxHeartbeats 1600000 in
theorem within_t (n : Nat) (at_ : Int) (m : Nat) (w : World) (hn : n ≤ 2048) (hm : m < 4294967296) (ha0 : -9223372036854775808 ≤ at_) (ha1 : at_ ≤ 9223372036854775807) (ht : TabZ w) :
    Calls Tryd.prog 29 #[.int .i64 (n : Int), .int .i64 at_, .int .u32 (m : Int)] w fun e w' => e = .returned (.bool (wOk n at_ m)) ∧ w' = w := by
  have HT : Hid _ := ht
  have HTZ : Hid (∀ u : World, TabZ u → _) := fun u hu => tz_t m hm u hu
  by_cases h0 : m = 0
  · subst h0
    have hL : Hid _ := fun u => len32_i 0 (by omega) (by omega) u
    have hlow : lowB 0 = 32 := rfl
    have HLW : Hid _ := hlow
    clear hlow
    go_enter Tryd.func29, Tryd.ntmps29
    go_wp2_with (first | (go_at_call 40; refine Calls.mono (HTZ.out _ HT.out) ?_; rintro e w' ⟨rfl, hq⟩; have hq := hq.symm; subst hq; rw [HLW.out]) | (go_at_call 41; refine Calls.mono (hL.out _) ?_; rintro e w' ⟨rfl, hq⟩; have hq := hq.symm; subst hq))
    all_goals go_ret
    all_goals exact ⟨rfl, rfl⟩
  · have HE : Hid _ := okB_ends n at_ m h0 hm
    have HL : Hid _ := fun u => len32_i (m : Int) (by omega) (by omega) u
    have hb : Go.Lib.bitLen ((m : Int)).toNat = m.log2 + 1 := by rw [Int.toNat_natCast]; exact bitLen_log m h0 (by omega)
    have HB : Hid _ := hb
    have hlo := (lowB_spec h0 hm).1
    have hlg : m.log2 < 32 := (Nat.log2_lt h0).2 (by simpa using hm)
    have HW : Hid (wOk n at_ m = okB n at_ m) := by unfold Hid wOk; simp [h0]
    obtain ⟨lo, hlo2⟩ : ∃ lo, lo = lowB m := ⟨_, rfl⟩
    obtain ⟨hi, hhi2⟩ : ∃ hi, hi = m.log2 := ⟨_, rfl⟩
    rw [← hlo2] at HE HTZ hlo
    rw [← hhi2] at HE HB hlg
    clear hb hlo2 hhi2
    have hm0 : ((m : Int) == 0) = false := by simp; omega
    have hm1 : ((m : Int) != 0) = true := by simp; omega
    by_cases h1 : -(lo : Int) ≤ at_
    · by_cases h2 : at_ < 8 * n - (hi : Int)
      · have HR : Hid (wOk n at_ m = true) := HW.out.trans (HE.out.2 ⟨h1, h2⟩)
        clear HE HW
        go_enter Tryd.func29, Tryd.ntmps29
        go_wp2_with (first | (go_at_call 40; refine Calls.mono (HTZ.out _ HT.out) ?_; rintro e w' ⟨rfl, hq⟩; have hq := hq.symm; subst hq) | (go_at_call 41; refine Calls.mono (HL.out _) ?_; rintro e w' ⟨rfl, hq⟩; have hq := hq.symm; subst hq; rw [HB.out]))
        all_goals go_ret
        all_goals (rw [HR.out]; first | exact ⟨rfl, rfl⟩ | (have h9 : decide (at_ < 8 * (n : Int) - (hi : Int)) = false := decide_eq_false (by omega); rw [h9]; exact ⟨rfl, rfl⟩))
      · have HR : Hid (wOk n at_ m = false) := by
          rcases hq : wOk n at_ m with _ | _
          · rfl
          · exact absurd (HE.out.1 (HW.out.symm.trans hq)).2 h2
        clear HE HW
        go_enter Tryd.func29, Tryd.ntmps29
        go_wp2_with (first | (go_at_call 40; refine Calls.mono (HTZ.out _ HT.out) ?_; rintro e w' ⟨rfl, hq⟩; have hq := hq.symm; subst hq) | (go_at_call 41; refine Calls.mono (HL.out _) ?_; rintro e w' ⟨rfl, hq⟩; have hq := hq.symm; subst hq; rw [HB.out]))
        all_goals go_ret
        all_goals (rw [HR.out]; first | exact ⟨rfl, rfl⟩ | (have h9 : decide (at_ < 8 * (n : Int) - (hi : Int)) = false := decide_eq_false (by omega); rw [h9]; exact ⟨rfl, rfl⟩))
    · have HR : Hid (wOk n at_ m = false) := by
        rcases hq : wOk n at_ m with _ | _
        · rfl
        · exact absurd (HE.out.1 (HW.out.symm.trans hq)).1 h1
      clear HE HW
      go_enter Tryd.func29, Tryd.ntmps29
      go_wp2_with (first | (go_at_call 40; refine Calls.mono (HTZ.out _ HT.out) ?_; rintro e w' ⟨rfl, hq⟩; have hq := hq.symm; subst hq) | (go_at_call 41; refine Calls.mono (HL.out _) ?_; rintro e w' ⟨rfl, hq⟩; have hq := hq.symm; subst hq; rw [HB.out]))
      all_goals go_ret
      all_goals (rw [HR.out]; first | exact ⟨rfl, rfl⟩ | (have h9 : decide (at_ < 8 * (n : Int) - (hi : Int)) = false := decide_eq_false (by omega); rw [h9]; exact ⟨rfl, rfl⟩))
end Go.Proofs.YtnpcgegcoakbmaaDoor
