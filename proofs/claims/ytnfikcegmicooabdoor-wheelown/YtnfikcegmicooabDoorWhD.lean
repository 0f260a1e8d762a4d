import Derived.Test.YtnfikcegmicooabDoorWhC
namespace Go.Proofs.YtnfikcegmicooabDoor
set_option linter.unusedVariables false
set_option linter.unusedSimpArgs false
open Go.RowKit Go.Maps
/-- nothing but draws -/
def Drw (w w' : World) : Prop := ∃ n, w' = w.drewN n
theorem ne_zero_b (x : Nat) : ((x : Int) != 0) = decide (x ≠ 0) := by by_cases h : x = 0 <;> simp [h]
set_option maxRecDepth 20000 in
set_option maxHeartbeats 1600000 in
theorem first_t (p q x : Nat) (hx : x < 18446744073709551616) (w : World) (hc : w.cell? ⟨p, q + 64, none⟩ = some (.int .u64 (x : Int))) (ht : TabZ w) :
    Calls Tryd.prog 45 #[.pointer (some ⟨p, q, none⟩)] w fun e w' => e = .returned (.tuple #[.int .i64 (lowB x : Int), .bool (decide (x ≠ 0))]) ∧ Drw w w' := by
  have HT : Hid _ := ht
  clear ht
  go_enter Tryd.func45, Tryd.ntmps45
  go_wp2
  go_quiet ((go_at_call 58; exact Calls.quiet_of_same (tz_t x hx _ HT.out)))
  go_wp2
  go_ret2
  refine ⟨?_, _, rfl⟩
  rw [ne_zero_b]
  rfl
theorem xor_nat (a b : Nat) (ha : a < 18446744073709551616) (hb : b < 18446744073709551616) : bits .xor .u64 (a : Int) (b : Int) = ((a ^^^ b : Nat) : Int) := bits_xor_u64_nat a b ha hb
set_option maxRecDepth 20000 in
set_option maxHeartbeats 1600000 in
theorem stand_t (a n : Nat) (h : n < a) (ha : a ≤ mxN + 1) (w : World) :
    Calls Tryd.prog 38 #[.int .u64 (a : Int), .int .u64 (n : Int)] w fun e w' => e = .returned (.tuple #[.int .i64 (lev a n : Int), .int .i64 (slt a (lev a n) : Int)]) ∧ Drw w w' := by
  have ha' : a ≤ 281474976710656 := ha
  have hx : bits .xor .u64 (a : Int) (n : Int) = ((a ^^^ n : Nat) : Int) := xor_nat a n (by omega) (by omega)
  have h0 : a ^^^ n ≠ 0 := fun e => by have := xor_zero e; omega
  have hlt : a ^^^ n < 2 ^ 49 := Nat.xor_lt_two_pow (by omega) (by omega)
  have hlg : (a ^^^ n).log2 < 49 := (Nat.log2_lt h0).2 hlt
  have HL : Hid _ := len64_t (a ^^^ n) h0 (by omega)
  have HK : Hid (lev a n = (a ^^^ n).log2 / 6) := rfl
  have HS : Hid (slt a (lev a n) = a / 2 ^ (6 * lev a n) % 64) := rfl
  have hk8 : lev a n ≤ 8 := by unfold lev; omega
  generalize hX : a ^^^ n = X at *
  generalize hG : X.log2 = G at *
  generalize hKK : lev a n = k at *
  generalize hSS : slt a k = sl at *
  clear h0 hlt hX hG hKK hSS
  go_enter Tryd.func38, Tryd.ntmps38
  go_wp2_with (first | (go_at_call 46; refine Calls.mono (HL.out _) ?_; rintro e w' ⟨rfl, rfl⟩) | simp only [hx])
  go_quiet (fail)
  go_wp2
  go_ret2
  refine ⟨?_, _, rfl⟩
  have h1 : ((G : Int) / 6) = ((k : Nat) : Int) := by have := HK.out; omega
  have h2 : wrap64 (((a : Int) / 2 ^ (G / 6 * 6)).tmod 64) = (sl : Int) := by
    have e1 : G / 6 * 6 = 6 * k := by have := HK.out; omega
    have e2 : ((a : Int) / 2 ^ (G / 6 * 6)) = ((a / 2 ^ (6 * k) : Nat) : Int) := by rw [e1]; push_cast; rfl
    rw [e2, Int.tmod_eq_emod_of_nonneg (Int.natCast_nonneg _), HS.out]
    generalize a / 2 ^ (6 * k) = y
    unfold wrap64
    omega
  rw [h1, h2]
  rfl
set_option maxRecDepth 20000 in
set_option maxHeartbeats 1600000 in
theorem time_t (x : Nat) (w : World) : Calls Tryd.prog 23 #[.int .u64 (x : Int)] w fun e w' => e = .returned (.int .u64 ((min x mxN : Nat) : Int)) ∧ w' = w := by
  go_enter Tryd.func23, Tryd.ntmps23
  go_wp2
  go_ret
  refine ⟨?_, rfl⟩
  have h1 : (min (x : Int) 281474976710655) = ((min x mxN : Nat) : Int) := by have : mxN = 281474976710655 := rfl; omega
  rw [← h1]
  rfl
set_option maxRecDepth 20000 in
set_option maxHeartbeats 1600000 in
theorem made_nil (w : World) : Calls Tryd.prog 24 #[.pointer none] w fun e w' => e = .returned (.bool false) ∧ w' = w := by
  go_enter Tryd.func24, Tryd.ntmps24
  go_wp2
  go_ret
  exact ⟨rfl, rfl⟩
set_option maxRecDepth 20000 in
set_option maxHeartbeats 1600000 in
theorem made_t (p : Nat) (o : Option Nat) (w : World) (h : w.cell? ⟨p, 522, none⟩ = some (.map o)) : Calls Tryd.prog 24 #[.pointer (some ⟨p, 0, none⟩)] w fun e w' => e = .returned (.bool o.isSome) ∧ w' = w := by
  have q48 := fun (w : World) (r : Option Nat) => run_neq_map_nil (P := Tryd.prog) w _ _ _ r Tryd.underlying58
  rcases o with _ | m
  · go_enter Tryd.func24, Tryd.ntmps24
    go_wp2
    go_ret
    exact ⟨rfl, rfl⟩
  · go_enter Tryd.func24, Tryd.ntmps24
    go_wp2
    go_ret
    exact ⟨rfl, rfl⟩
/-- a bit set, a bit gone -/
def bitOn (x s : Nat) : Nat := x ||| 2 ^ s
def bitOff (x s : Nat) : Nat := (BitVec.ofNat 64 x &&& ~~~ BitVec.ofNat 64 (2 ^ s)).toNat
theorem pow_wrap (s : Nat) (hs : s < 64) : IntKind.u64.wrap ((2 : Int) ^ s) = ((2 ^ s : Nat) : Int) := by
  have h : (2 : Nat) ^ s < 2 ^ 64 := Nat.pow_lt_pow_right (by decide) hs
  have e : ((2 : Int) ^ s) = ((2 ^ s : Nat) : Int) := by push_cast; rfl
  rw [e, IntKind.wrap_u64]
  generalize (2 : Nat) ^ s = y at *
  simp at h
  omega
theorem pow_lt64 {s : Nat} (hs : s < 64) : 2 ^ s < 18446744073709551616 := by have h := Nat.pow_lt_pow_right (a := 2) (by decide) hs; simpa using h
theorem or_bit (x s : Nat) (hs : s < 64) (hx : x < 18446744073709551616) : bits .or .u64 (x : Int) (IntKind.u64.wrap ((2 : Int) ^ s)) = (bitOn x s : Int) := by
  rw [pow_wrap s hs, bits_or_u64_nat x _ hx (pow_lt64 hs)]
  rfl
theorem bitOn_lt {x s : Nat} (hs : s < 64) (hx : x < 18446744073709551616) : bitOn x s < 18446744073709551616 := Nat.or_lt_two_pow (n := 64) hx (pow_lt64 hs)
theorem bitOff_lt (x s : Nat) : bitOff x s < 18446744073709551616 := BitVec.isLt _
theorem bitOn_at (x s j : Nat) : (bitOn x s).testBit j = (x.testBit j || decide (s = j)) := by
  unfold bitOn
  rw [Nat.testBit_or, Nat.testBit_two_pow]
theorem bitOff_at (x s j : Nat) (hs : s < 64) (hj : j < 64) : (bitOff x s).testBit j = (x.testBit j && !decide (s = j)) := by
  unfold bitOff
  rw [BitVec.testBit_toNat]
  rw [BitVec.getLsbD_and, BitVec.getLsbD_not, BitVec.getLsbD_ofNat, BitVec.getLsbD_ofNat, Nat.testBit_two_pow]
  simp [hj]
theorem off_bit (x s : Nat) (hs : s < 64) (hx : x < 18446744073709551616) : bits .andNot .u64 (x : Int) (IntKind.u64.wrap ((2 : Int) ^ s)) = (bitOff x s : Int) := by
  rw [pow_wrap s hs]
  have h1 : BitVec.ofInt 64 ((2 ^ s : Nat) : Int) = BitVec.ofNat 64 (2 ^ s) := by rw [BitVec.ofInt_natCast]
  have h2 : BitVec.ofInt 64 (x : Int) = BitVec.ofNat 64 x := by rw [BitVec.ofInt_natCast]
  show IntKind.u64.wrap ((BitVec.ofInt 64 (x : Int) &&& ~~~ BitVec.ofInt 64 ((2 ^ s : Nat) : Int)).toNat : Int) = _
  rw [h1, h2, IntKind.wrap_u64]
  have := bitOff_lt x s
  unfold bitOff at *
  omega
set_option maxRecDepth 20000 in
set_option maxHeartbeats 1600000 in
theorem empty_t (p q x s : Nat) (hs : s < 64) (hx : x < 18446744073709551616) (v : Value) (w : World) (hc : w.cell? ⟨p, q + s, none⟩ = some v) (hf : w.frozen? ⟨p, q + s, none⟩ = false) (hc2 : w.cell? ⟨p, q + 64, none⟩ = some (.int .u64 (x : Int))) (hf2 : w.frozen? ⟨p, q + 64, none⟩ = false) :
    Calls Tryd.prog 47 #[.pointer (some ⟨p, q, none⟩), .int .i64 (s : Int)] w fun e w' => e = .returned (.tuple #[]) ∧ Drw ((w.setCell ⟨p, q + s, none⟩ (.slice none 0 0)).setCell ⟨p, q + 64, none⟩ (.int .u64 (bitOff x s : Int))) w' := by
  go_enter Tryd.func47, Tryd.ntmps47
  go_wp2
  go_region
  go_end0
  rw [off_bit x s hs hx]
  exact ⟨rfl, 1, rfl⟩
end Go.Proofs.YtnfikcegmicooabDoor
