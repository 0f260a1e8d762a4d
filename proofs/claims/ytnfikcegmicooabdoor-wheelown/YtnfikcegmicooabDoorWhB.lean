import Derived.Test.YtnfikcegmicooabDoorWhM
import Derived.Test.YtnfikcegmicooabDoorRegn
import Derived.Laws.MathBits
import Derived.Laws.Bits64b
import Derived.Lib.TrailingZeros
import Derived.Lib.BitFns
import Derived.Lib.Small
import Derived.Lib.Strings
import Derived.Lib.Slices
import Derived.Lib.Walk
namespace Go.Proofs.YtnfikcegmicooabDoor
set_option linter.unusedVariables false
set_option linter.unusedSimpArgs false
open Go.RowKit
/-- the library's table of lowest bits, as it is laid -/
def TabZ (w : World) : Prop := ∀ j, j < 64 → w.cell? ⟨0, j, none⟩ = some (.int .u8 ((Go.Lib.deBruijn64tab.getD j 0 : Nat) : Int))
theorem TabZ.below {w w' : World} (h : TabZ w) (hb : Below w.heap.size w w') : TabZ w' := fun j hj => (hb.cell (World.block_lt_of_cell? w _ (h j hj))).trans (h j hj)
theorem low_key (x a : Nat) (hx : x < 18446744073709551616) (hlow : x &&& (18446744073709551616 - x) = a) (h0 : x ≠ 0) :
    IntKind.u64.wrap (bits BinOp.and IntKind.u64 (x : Int) (IntKind.u64.wrap (-(x : Int))) * 285870213051353865) / 288230376151711744 = ((a * 285870213051353865 % 18446744073709551616 / 288230376151711744 : Nat) : Int) := by
  have h1 : IntKind.u64.wrap (-(x : Int)) = ((18446744073709551616 - x : Nat) : Int) := by rw [IntKind.wrap_u64]; omega
  rw [h1, bits_and_u64_nat x _ hx (by omega), hlow, IntKind.wrap_u64]
  omega
set_option maxRecDepth 20000 in
set_option maxHeartbeats 1600000 in
theorem tz_core (x k j : Nat) (w : World) (h0 : ((x : Int) == 0) = false)
    (key : IntKind.u64.wrap (bits BinOp.and IntKind.u64 (x : Int) (IntKind.u64.wrap (-(x : Int))) * 285870213051353865) / 288230376151711744 = (j : Int)) (hj : j < 64) (hk : k < 64) (hc : w.cell? ⟨0, j, none⟩ = some (.int .u8 (k : Int))) :
    Calls Tryd.prog 58 #[.int .u64 x] w fun e w' => e = .returned (.int .i64 (k : Int)) ∧ w' = w := by
  go_enter Tryd.func58, Tryd.ntmps58
  go_wp2_with (simp only [key])
  go_ret
  exact ⟨rfl, rfl⟩
set_option maxRecDepth 20000 in
theorem tz_zero (w : World) : Calls Tryd.prog 58 #[.int .u64 0] w fun e w' => e = .returned (.int .i64 64) ∧ w' = w := by
  go_enter Tryd.func58, Tryd.ntmps58
  go_wp2
  go_ret
  exact ⟨rfl, rfl⟩
/-- the lowest bit -/
def lowB (x : Nat) : Nat := Go.Lib.ctz 64 x
theorem tz_t (x : Nat) (hx : x < 18446744073709551616) (w : World) (ht : TabZ w) : Calls Tryd.prog 58 #[.int .u64 x] w fun e w' => e = .returned (.int .i64 (lowB x : Int)) ∧ w' = w := by
  by_cases h0 : x = 0
  · subst h0
    exact tz_zero w
  · obtain ⟨h1, h2⟩ := Go.Lib.lowest_bit 64 x h0 (by simpa using hx)
    obtain ⟨h3, h4⟩ := Go.Lib.deBruijn64_at _ h2
    have h5 := ht _ h3
    rw [h4] at h5
    exact tz_core x _ _ w (by simp; omega) (low_key x _ hx (by simpa using h1) h0) h3 h2 h5
theorem lowB_spec {x : Nat} (h0 : x ≠ 0) (hx : x < 18446744073709551616) : lowB x < 64 ∧ x.testBit (lowB x) = true ∧ ∀ j, j < lowB x → x.testBit j = false := by
  obtain ⟨m, h1, h2⟩ := Go.Lib.ctzFrom_spec 64 x (by omega) (by simpa using hx)
  have h3 : lowB x = Go.Lib.ctzFrom 64 x := by unfold lowB Go.Lib.ctz; rw [if_neg h0]
  rw [← h3] at h1 h2
  generalize lowB x = k at *
  refine ⟨h2, ?_, fun j hj => ?_⟩
  · rw [h1, Nat.testBit_two_pow_mul]
    simp
  · rw [h1, Nat.testBit_two_pow_mul]
    simp
    omega
theorem tab8_at : ∀ n : Fin 256, Go.Lib.len8tab.data[n.val]!.toNat = Go.Lib.bitLen n.val := by decide +kernel
set_option maxRecDepth 100000 in
theorem len_leaf (t : Nat) (x y : Int) (h : y.toNat < Go.Lib.len8tab.size) (hy : y.toNat = x.toNat / 2 ^ t) (h0 : 0 ≤ x) (h1 : x ≤ 18446744073709551615) (ht : t ≤ 56) (hx : t = 0 ∨ 2 ^ t ≤ x.toNat) : wrap64 ((t : Int) + wrap64 ((Go.Lib.len8tab[y.toNat]'h).toNat : Int)) = (Go.Lib.bitLen x.toNat : Int) := by
  have hs : Go.Lib.len8tab.size = 256 := by decide +kernel
  have h2 : y.toNat < 256 := by omega
  have h3 := tab8_at ⟨y.toNat, h2⟩
  have h4 := Go.Lib.bitLen_le8 ⟨y.toNat, h2⟩
  have h5 : (Go.Lib.len8tab[y.toNat]'h) = Go.Lib.len8tab.data[y.toNat]! := by
    exact (getElem!_pos Go.Lib.len8tab.data y.toNat h).symm
  simp only at h3 h4
  rw [h5, h3]
  have h6 : Go.Lib.bitLen x.toNat = t + Go.Lib.bitLen y.toNat := by
    rcases hx with rfl | hx
    · rw [hy]; simp
    · rw [hy]; exact Go.Lib.bitLen_shift t x.toNat hx (by omega)
  rw [h6]
  unfold wrap64
  omega
set_option maxRecDepth 100000 in
set_option maxHeartbeats 4000000 in
theorem len64_i (x : Int) (h0 : 0 ≤ x) (h1 : x ≤ 18446744073709551615) (w : World) : Calls Tryd.prog 46 #[.int .u64 x] w fun e w' => e = .returned (.int .i64 (Go.Lib.bitLen x.toNat : Int)) ∧ w' = w := by
  have hs : Go.Lib.len8tab.size = 256 := by decide +kernel
  go_enter Tryd.func46, Tryd.ntmps46
  go_wp2
  all_goals (go_ret; refine ⟨congrArg Ending.returned (congrArg (Value.int IntKind.i64) ?_), rfl⟩)
  · exact len_leaf 56 x (x / 4294967296 / 65536 / 256) _ (by show _ = x.toNat / 72057594037927936; omega) (by omega) (by omega) (by omega) (by simp; omega)
  · exact len_leaf 48 x (x / 4294967296 / 65536) _ (by show _ = x.toNat / 281474976710656; omega) (by omega) (by omega) (by omega) (by simp; omega)
  · exact len_leaf 40 x (x / 4294967296 / 256) _ (by show _ = x.toNat / 1099511627776; omega) (by omega) (by omega) (by omega) (by simp; omega)
  · exact len_leaf 32 x (x / 4294967296) _ (by show _ = x.toNat / 4294967296; omega) (by omega) (by omega) (by omega) (by simp; omega)
  · exact len_leaf 24 x (x / 65536 / 256) _ (by show _ = x.toNat / 16777216; omega) (by omega) (by omega) (by omega) (by simp; omega)
  · exact len_leaf 16 x (x / 65536) _ (by show _ = x.toNat / 65536; omega) (by omega) (by omega) (by omega) (by simp; omega)
  · exact len_leaf 8 x (x / 256) _ (by show _ = x.toNat / 256; omega) (by omega) (by omega) (by omega) (by simp; omega)
  · have h9 := len_leaf 0 x x (by omega) (by simp) (by omega) (by omega) (by omega) (.inl rfl)
    simp only [Int.ofNat_zero, Int.zero_add] at h9
    rw [← h9]
theorem bitLen_log (x : Nat) (h0 : x ≠ 0) (hx : x < 18446744073709551616) : Go.Lib.bitLen x = x.log2 + 1 := by
  have h1 := Go.Lib.bitLen_shift x.log2 x (Nat.log2_self_le h0) (by simpa using hx)
  have h2 : x / 2 ^ x.log2 = 1 := by
    have h3 := Nat.log2_self_le h0
    have h4 : x < 2 ^ (x.log2 + 1) := Nat.lt_log2_self
    rw [Nat.pow_succ] at h4
    have hp : 0 < 2 ^ x.log2 := Nat.two_pow_pos _
    apply Nat.le_antisymm
    · have := (Nat.div_lt_iff_lt_mul hp).2 (by rw [Nat.mul_comm]; exact h4 : x < 2 * 2 ^ x.log2)
      omega
    · exact Nat.div_pos h3 hp
  rw [h2] at h1
  rw [h1]
  rfl
theorem len64_t (x : Nat) (h0 : x ≠ 0) (hx : x < 18446744073709551616) (w : World) : Calls Tryd.prog 46 #[.int .u64 x] w fun e w' => e = .returned (.int .i64 ((x.log2 + 1 : Nat) : Int)) ∧ w' = w := by
  have h := len64_i x (by omega) (by omega) w
  rw [Int.toNat_natCast, bitLen_log x h0 hx] at h
  exact h
end Go.Proofs.YtnfikcegmicooabDoor
