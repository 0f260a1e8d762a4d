import Derived.Test.YtpakkpahcpgnnaaGreatDoorVWhM
import Derived.Laws.MathBits
import Derived.Laws.Bits64b
import Derived.Lib.TrailingZeros
import Derived.Lib.BitFns
import Derived.Lib.Small
import Derived.Lib.Slices
import Derived.Lib.Walk
import Derived.Deep.RegionLaw
set_option linter.unusedVariables false
set_option linter.unusedSimpArgs false
namespace Go.Proofs.YtpakkpahcpgnnaaGreatDoor.Wh
open Go.RowKit
def TabZ (w : World) : Prop := ∀ j, j < 64 → w.cell? ⟨0, j, none⟩ = some (.int .u8 ((Go.Lib.deBruijn64tab.getD j 0 : Nat) : Int))
theorem TabZ.below {w w' : World} (h : TabZ w) (hb : Below w.heap.size w w') : TabZ w' := fun j hj => (hb.cell (World.block_lt_of_cell? w _ (h j hj))).trans (h j hj)
theorem low_key (x a : Nat) (hx : x < 18446744073709551616) (hlow : x &&& (18446744073709551616 - x) = a) (h0 : x ≠ 0) :
 IntKind.u64.wrap (bits BinOp.and IntKind.u64 (x : Int) (IntKind.u64.wrap (-(x : Int))) * 285870213051353865) / 288230376151711744 = ((a * 285870213051353865 % 18446744073709551616 / 288230376151711744 : Nat) : Int) := by
 have h1 : IntKind.u64.wrap (-(x : Int)) = ((18446744073709551616 - x : Nat) : Int) := by rw [IntKind.wrap_u64]; omega
 rw [h1, bits_and_u64_nat x _ hx (by omega), hlow, IntKind.wrap_u64]; omega
set_option maxRecDepth 20000 in
set_option maxHeartbeats 1600000 in
theorem tz_core (x k j : Nat) (w : World) (h0 : ((x : Int) == 0) = false)
 (key : IntKind.u64.wrap (bits BinOp.and IntKind.u64 (x : Int) (IntKind.u64.wrap (-(x : Int))) * 285870213051353865) / 288230376151711744 = (j : Int)) (hj : j < 64) (hk : k < 64) (hc : w.cell? ⟨0, j, none⟩ = some (.int .u8 (k : Int))) :
 Calls Tryz.prog 193 #[.int .u64 x] w fun e w' => e = .returned (.int .i64 (k : Int)) ∧ w' = w := by
 go_enter Tryz.func193, Tryz.ntmps193
 go_wp2_with (simp only [key])
 go_ret; exact ⟨rfl, rfl⟩
set_option maxRecDepth 20000 in
theorem tz_zero (w : World) : Calls Tryz.prog 193 #[.int .u64 0] w fun e w' => e = .returned (.int .i64 64) ∧ w' = w := by
 go_enter Tryz.func193, Tryz.ntmps193
 go_wp2; go_ret; exact ⟨rfl, rfl⟩
def lowB (x : Nat) : Nat := Go.Lib.ctz 64 x
theorem tz_t (x : Nat) (hx : x < 18446744073709551616) (w : World) (ht : TabZ w) : Calls Tryz.prog 193 #[.int .u64 x] w fun e w' => e = .returned (.int .i64 (lowB x : Int)) ∧ w' = w := by
 by_cases h0 : x = 0
 · subst h0; exact tz_zero w
 · obtain ⟨h1, h2⟩ := Go.Lib.lowest_bit 64 x h0 (by simpa using hx); obtain ⟨h3, h4⟩ := Go.Lib.deBruijn64_at _ h2; have h5 := ht _ h3; rw [h4] at h5; exact tz_core x _ _ w (by simp; omega) (low_key x _ hx (by simpa using h1) h0) h3 h2 h5
theorem lowB_spec {x : Nat} (h0 : x ≠ 0) (hx : x < 18446744073709551616) : lowB x < 64 ∧ x.testBit (lowB x) = true ∧ ∀ j, j < lowB x → x.testBit j = false := by
 obtain ⟨m, h1, h2⟩ := Go.Lib.ctzFrom_spec 64 x (by omega) (by simpa using hx); have h3 : lowB x = Go.Lib.ctzFrom 64 x := by unfold lowB Go.Lib.ctz; rw [if_neg h0]
 rw [← h3] at h1 h2; generalize lowB x = k at *; refine ⟨h2, ?_, fun j hj => ?_⟩
 · rw [h1, Nat.testBit_two_pow_mul]; simp
 · rw [h1, Nat.testBit_two_pow_mul]; simp; omega
theorem tab8_at : ∀ n : Fin 256, Go.Lib.len8tab.data[n.val]!.toNat = Go.Lib.bitLen n.val := by decide +kernel
set_option maxRecDepth 100000 in
theorem len_leaf (t : Nat) (x y : Int) (h : y.toNat < Go.Lib.len8tab.size) (hy : y.toNat = x.toNat / 2 ^ t) (h0 : 0 ≤ x) (h1 : x ≤ 18446744073709551615) (ht : t ≤ 56) (hx : t = 0 ∨ 2 ^ t ≤ x.toNat) : wrap64 ((t : Int) + wrap64 ((Go.Lib.len8tab[y.toNat]'h).toNat : Int)) = (Go.Lib.bitLen x.toNat : Int) := by
 have hs : Go.Lib.len8tab.size = 256 := by decide +kernel
 have h2 : y.toNat < 256 := by omega
 have h3 := tab8_at ⟨y.toNat, h2⟩; have h4 := Go.Lib.bitLen_le8 ⟨y.toNat, h2⟩
 have h5 : (Go.Lib.len8tab[y.toNat]'h) = Go.Lib.len8tab.data[y.toNat]! := by
  exact (getElem!_pos Go.Lib.len8tab.data y.toNat h).symm
 simp only at h3 h4; rw [h5, h3]
 have h6 : Go.Lib.bitLen x.toNat = t + Go.Lib.bitLen y.toNat := by
  rcases hx with rfl | hx
  · rw [hy]; simp
  · rw [hy]; exact Go.Lib.bitLen_shift t x.toNat hx (by omega)
 rw [h6]; unfold wrap64; omega
set_option maxRecDepth 100000 in
set_option maxHeartbeats 4000000 in
theorem len64_i (x : Int) (h0 : 0 ≤ x) (h1 : x ≤ 18446744073709551615) (w : World) : Calls Tryz.prog 136 #[.int .u64 x] w fun e w' => e = .returned (.int .i64 (Go.Lib.bitLen x.toNat : Int)) ∧ w' = w := by
 have hs : Go.Lib.len8tab.size = 256 := by decide +kernel
 go_enter Tryz.func136, Tryz.ntmps136
 go_wp2
 all_goals (go_ret; refine ⟨congrArg Ending.returned (congrArg (Value.int IntKind.i64) ?_), rfl⟩)
 · exact len_leaf 56 x (x / 4294967296 / 65536 / 256) _ (by show _ = x.toNat / 72057594037927936; omega) (by omega) (by omega) (by omega) (by simp; omega)
 · exact len_leaf 48 x (x / 4294967296 / 65536) _ (by show _ = x.toNat / 281474976710656; omega) (by omega) (by omega) (by omega) (by simp; omega)
 · exact len_leaf 40 x (x / 4294967296 / 256) _ (by show _ = x.toNat / 1099511627776; omega) (by omega) (by omega) (by omega) (by simp; omega)
 · exact len_leaf 32 x (x / 4294967296) _ (by show _ = x.toNat / 4294967296; omega) (by omega) (by omega) (by omega) (by simp; omega)
 · exact len_leaf 24 x (x / 65536 / 256) _ (by show _ = x.toNat / 16777216; omega) (by omega) (by omega) (by omega) (by simp; omega)
 · exact len_leaf 16 x (x / 65536) _ (by show _ = x.toNat / 65536; omega) (by omega) (by omega) (by omega) (by simp; omega)
 · exact len_leaf 8 x (x / 256) _ (by show _ = x.toNat / 256; omega) (by omega) (by omega) (by omega) (by simp; omega)
 · have h9 := len_leaf 0 x x (by omega) (by simp) (by omega) (by omega) (by omega) (.inl rfl); simp only [Int.ofNat_zero, Int.zero_add] at h9; rw [← h9]
theorem bitLen_log (x : Nat) (h0 : x ≠ 0) (hx : x < 18446744073709551616) : Go.Lib.bitLen x = x.log2 + 1 := by
 have h1 := Go.Lib.bitLen_shift x.log2 x (Nat.log2_self_le h0) (by simpa using hx)
 have h2 : x / 2 ^ x.log2 = 1 := by
  have h3 := Nat.log2_self_le h0; have h4 : x < 2 ^ (x.log2 + 1) := Nat.lt_log2_self; rw [Nat.pow_succ] at h4; have hp : 0 < 2 ^ x.log2 := Nat.two_pow_pos _; apply Nat.le_antisymm
  · have := (Nat.div_lt_iff_lt_mul hp).2 (by rw [Nat.mul_comm]; exact h4 : x < 2 * 2 ^ x.log2); omega
  · exact Nat.div_pos h3 hp
 rw [h2] at h1; rw [h1]
 rfl
theorem len64_t (x : Nat) (h0 : x ≠ 0) (hx : x < 18446744073709551616) (w : World) : Calls Tryz.prog 136 #[.int .u64 x] w fun e w' => e = .returned (.int .i64 ((x.log2 + 1 : Nat) : Int)) ∧ w' = w := by
 have h := len64_i x (by omega) (by omega) w; rw [Int.toNat_natCast, bitLen_log x h0 hx] at h; exact h
end Go.Proofs.YtpakkpahcpgnnaaGreatDoor.Wh
namespace Go.Proofs.YtpakkpahcpgnnaaGreatDoor.Wh
open Go.RowKit Go.Maps
theorem al {w w1 : World} (h : Below w.heap.size w w1) (o : Obj) : Below w.heap.size w (w1.alloc o) := h.alloc h.size o
theorem exec_load {P : Program} {a : Act} {oi : Oper} {t : TypeId} {x : Operand} (ho : oi.op = .load t x) {v : Value} {w : World} (h : (Instr.loadAt t (a.eval x)).run P w = .ok v w) : (execOp a.eval oi).run P w = .ok (.value v) w := by
 unfold execOp; simp only [ho, Sem.run_bind, h, Result.andThen_ok]
 rfl
theorem rangeAt_below {w w' : World} {b o : Nat} {cs : List Value} (h : w.rangeAt b o cs) (hb : Below w.heap.size w w') : w'.rangeAt b o cs := fun j v hv => (hb.cell (World.block_lt_of_cell? w _ (h j v hv))).trans (h j v hv)
structure Tm where
 id : Int
 at_ : Nat
 ord : Nat
abbrev tmv (t : Tm) : List Value := [.int .i64 t.id, .int .u64 (t.at_ : Int), .int .u64 (t.ord : Int)]
abbrev tma (t : Tm) : Value := .agg #[.int .i64 t.id, .int .u64 (t.at_ : Int), .int .u64 (t.ord : Int)]
abbrev tTm : TypeId := 182
abbrev tTms : TypeId := 132
def RdM (w : World) (ao : Option Addr) (xs : List Tm) : Prop := ∀ j (hj : j < xs.length), ∃ b o, ao = some ⟨b, o, none⟩ ∧ w.rangeAt b (o + j * 3) (tmv xs[j]) ∧ ∃ cur fr, w.heap[b]? = some (.cells cur tTm fr)
def flatM (xs : List Tm) : List Value := xs.flatMap tmv
theorem flatM_len (xs : List Tm) : (flatM xs).length = xs.length * 3 := by
 induction xs with
 | nil => rfl
 | cons x xs ih =>
  unfold flatM at *; rw [List.flatMap_cons, List.length_append, ih]; simp; omega
theorem flatM_app (xs ys : List Tm) : flatM (xs ++ ys) = flatM xs ++ flatM ys := by simp [flatM]
theorem flatM_one (x : Tm) : flatM [x] = tmv x := by simp [flatM]
theorem flatM_get : ∀ (xs : List Tm) (j q : Nat) (h : j < xs.length) (_ : q < 3), (flatM xs)[j * 3 + q]? = (tmv xs[j])[q]?
 | [], j, _, h, _ => by cases h
 | x :: xs, 0, q, _, hq => by
  have e : flatM (x :: xs) = tmv x ++ flatM xs := by simp [flatM]
  rw [e, List.getElem?_append_left (by simp; omega)]; simp
 | x :: xs, j + 1, q, h, hq => by
  have h1 := flatM_get xs j q (by simpa using h) hq; have e : flatM (x :: xs) = tmv x ++ flatM xs := by simp [flatM]
  rw [e, List.getElem?_append_right (by simp; omega)]; rw [show (j + 1) * 3 + q - (tmv x).length = j * 3 + q by simp; omega, h1]
  rfl
theorem flatM_one' (xs : List Tm) : ∀ u ∈ flatM xs, u.oneCell' = true := by
 intro u hu; obtain ⟨x, -, hx⟩ := List.mem_flatMap.1 hu; simp at hx; rcases hx with rfl | rfl | rfl <;> rfl
def OwnM (w : World) (B : Nat) (v : Value) (xs : List Tm) : Prop := w.ownsRow B tTm 3 v xs.length (flatM xs)
theorem OwnM.below {w w' : World} {B : Nat} {v : Value} {xs : List Tm} (h : OwnM w B v xs) (hb : Below w.heap.size w w') : OwnM w' B v xs := by
 refine ⟨h.1, ?_⟩; rcases h.2 with h0 | ⟨g, cap, cur, e, hB, hg, r⟩
 · exact .inl h0
 · exact .inr ⟨g, cap, cur, e, hB, (hb.block g (sI hg).1).trans hg, r⟩
theorem OwnM.rd {w : World} {B g cap : Nat} {xs : List Tm} (h : OwnM w B (.slice (some ⟨g, 0, none⟩) xs.length cap) xs) : RdM w (some ⟨g, 0, none⟩) xs := fun j hj => by
 have hblk : ∃ cur fr, w.heap[g]? = some (.cells cur tTm fr) := by
  rcases h.2 with ⟨e, -⟩ | ⟨g', cap', cur, e, -, hg, -⟩
  · cases e
  · cases e; exact ⟨cur, _, hg⟩
 refine ⟨g, 0, rfl, fun q v hv => ?_, hblk⟩; have hq : q < 3 := by have := (List.getElem?_eq_some_iff.1 hv).1; simpa using this
 rw [Nat.zero_add, World.ownsRow.cellAt h _ (by omega), flatM_get xs j q hj hq]; exact hv
theorem OwnM.val {w : World} {B : Nat} {v : Value} {xs : List Tm} (h : OwnM w B v xs) : ∃ a c, v = .slice a xs.length c ∧ xs.length ≤ c ∧ (a = none → c = 0) ∧ RdM w a xs := by
 have h' := h; rcases h.2 with ⟨rfl, h0⟩ | ⟨g, cap, cur, rfl, hB, hg, hn, hm, r⟩
 · obtain rfl : xs = [] := List.eq_nil_of_length_eq_zero h0; exact ⟨none, 0, rfl, Nat.le_refl _, fun _ => rfl, fun j hj => absurd hj (Nat.not_lt_zero _)⟩
 · exact ⟨_, cap, rfl, hn, (fun h => by cases h), OwnM.rd h'⟩
theorem infoM : (Tryz.prog.info? tTm).map (fun i => (i.zero, i.size, i.bytes)) = some (some (.agg #[.int .i64 0, .int .u64 0, .int .u64 0]), 3, 24) := by kernel_rfl
theorem wp_appM {w : World} {ops : Array Oper} {rest : List Oper} {o : Oper} {a : Act} {Q : Exit → Act → World → Prop} (hgd : o.guard = none) (s x : Operand)
 (ho : o.op = .call { callee := .builtin .append, args := #[s, x], argTypes := #[tTms, tTms] }) (B : Nat) (v : Value) (xs ys : List Tm) (n : Nat) (ao : Option Addr) (cap : Nat) (hn : n = ys.length)
 (hs : a.eval s = v) (hown : OwnM w B v xs) (hx : a.eval x = .slice ao n cap) (hr : RdM w ao ys) (hnil : ao = none → cap = 0)
 (hb : xs.length + n ≤ 4398046511104) (hbase : B ≤ w.heap.size)
 (h : ∀ v' w', OwnM w' B v' (xs ++ ys) → w.grownBy w' v.ownBlock → wpList Tryz.prog ops Q rest (a.put o.dst v') w') : wpList Tryz.prog ops Q (o :: rest) a w := by
 subst hn; obtain ⟨i0, hi, hz0, hz1, hz2⟩ := info_parts infoM; rcases ao with _ | ad
 · have h0 : ys = [] := by
    rcases ys with _ | ⟨y, ys⟩
    · rfl
    · obtain ⟨b, o, h1, _⟩ := hr 0 (by simp); cases h1
   subst h0; obtain rfl := hnil rfl; refine wpList_append_own_none hgd s x tTms ho B tTm i0 3 Tryz.underlying132 hi v xs.length (flatM xs) hs hown hx ?_; exact h v w (by simpa using hown) ⟨rfl, rfl, rfl, Nat.le_refl _, fun _ _ _ => rfl⟩
 · refine wpList_append_own w hgd s x tTms ho B tTm i0 _ 3 24 Tryz.underlying132 hi hz0 hz1 hz2 rfl (by decide) v xs.length (flatM xs) hs hown ad ys.length cap (flatM ys) hx (flatM_len ys) ?_ (flatM_one' ys) (by simp only [maxLen]; omega) (by omega) hbase ?_
   · intro j u hj
     have hlt : j < ys.length * 3 := by
      have := (List.getElem?_eq_some_iff.1 hj).1; rw [flatM_len] at this; exact this
     obtain ⟨b, o, h1, h2, -⟩ := hr (j / 3) (by omega); cases h1; rw [Go.WideShapes.add_plain]; have f1 := flatM_get ys (j / 3) (j % 3) (by omega) (by omega); rw [show j / 3 * 3 + j % 3 = j by omega, hj] at f1; have h3 := h2 (j % 3) u f1.symm; rw [show o + j / 3 * 3 + j % 3 = o + j by omega] at h3; exact h3
   · intro v' w' h1 h2 _; refine h v' w' ?_ h2; unfold OwnM; rw [List.length_append, flatM_app]; exact h1
end Go.Proofs.YtpakkpahcpgnnaaGreatDoor.Wh
namespace Go.Proofs.YtpakkpahcpgnnaaGreatDoor.Wh
open Go.RowKit Go.Maps
def Drw (w w' : World) : Prop := ∃ n, w' = w.drewN n
theorem ne_zero_b (x : Nat) : ((x : Int) != 0) = decide (x ≠ 0) := by by_cases h : x = 0 <;> simp [h]
set_option maxRecDepth 20000 in
set_option maxHeartbeats 1600000 in
theorem first_t (p q x : Nat) (hx : x < 18446744073709551616) (w : World) (hc : w.cell? ⟨p, q + 64, none⟩ = some (.int .u64 (x : Int))) (ht : TabZ w) :
 Calls Tryz.prog 159 #[.pointer (some ⟨p, q, none⟩)] w fun e w' => e = .returned (.tuple #[.int .i64 (lowB x : Int), .bool (decide (x ≠ 0))]) ∧ Drw w w' := by
 have HT : Hid _ := ht; clear ht; go_enter Tryz.func159, Tryz.ntmps159
 go_wp2; go_quiet ((go_at_call 193; exact Calls.quiet_of_same (tz_t x hx _ HT.out)))
 go_wp2; go_ret2; refine ⟨?_, _, rfl⟩; rw [ne_zero_b]
 rfl
theorem xor_nat (a b : Nat) (ha : a < 18446744073709551616) (hb : b < 18446744073709551616) : bits .xor .u64 (a : Int) (b : Int) = ((a ^^^ b : Nat) : Int) := bits_xor_u64_nat a b ha hb
set_option maxRecDepth 20000 in
set_option maxHeartbeats 1600000 in
theorem stand_t (a n : Nat) (h : n < a) (ha : a ≤ mxN + 1) (w : World) :
 Calls Tryz.prog 122 #[.int .u64 (a : Int), .int .u64 (n : Int)] w fun e w' => e = .returned (.tuple #[.int .i64 (lev a n : Int), .int .i64 (slt a (lev a n) : Int)]) ∧ Drw w w' := by
 have ha' : a ≤ 281474976710656 := ha; have hx : bits .xor .u64 (a : Int) (n : Int) = ((a ^^^ n : Nat) : Int) := xor_nat a n (by omega) (by omega); have h0 : a ^^^ n ≠ 0 := fun e => by have := xor_zero e; omega
 have hlt : a ^^^ n < 2 ^ 49 := Nat.xor_lt_two_pow (by omega) (by omega); have hlg : (a ^^^ n).log2 < 49 := (Nat.log2_lt h0).2 hlt; have HL : Hid _ := len64_t (a ^^^ n) h0 (by omega); have HK : Hid (lev a n = (a ^^^ n).log2 / 6) := rfl; have HS : Hid (slt a (lev a n) = a / 2 ^ (6 * lev a n) % 64) := rfl; have hk8 : lev a n ≤ 8 := by unfold lev; omega
 generalize hX : a ^^^ n = X at *; generalize hG : X.log2 = G at *; generalize hKK : lev a n = k at *; generalize hSS : slt a k = sl at *; clear h0 hlt hX hG hKK hSS; go_enter Tryz.func122, Tryz.ntmps122
 go_wp2_with (first | (go_at_call 136; refine Calls.mono (HL.out _) ?_; rintro e w' ⟨rfl, rfl⟩) | simp only [hx])
 go_quiet (fail)
 go_wp2; go_ret2; refine ⟨?_, _, rfl⟩; have h1 : ((G : Int) / 6) = ((k : Nat) : Int) := by have := HK.out; omega
 have h2 : wrap64 (((a : Int) / 2 ^ (G / 6 * 6)).tmod 64) = (sl : Int) := by
  have e1 : G / 6 * 6 = 6 * k := by have := HK.out; omega
  have e2 : ((a : Int) / 2 ^ (G / 6 * 6)) = ((a / 2 ^ (6 * k) : Nat) : Int) := by rw [e1]; push_cast; rfl
  rw [e2, Int.tmod_eq_emod_of_nonneg (Int.natCast_nonneg _), HS.out]; generalize a / 2 ^ (6 * k) = y; unfold wrap64; omega
 rw [h1, h2]
 rfl
set_option maxRecDepth 20000 in
set_option maxHeartbeats 1600000 in
theorem time_t (x : Nat) (w : World) : Calls Tryz.prog 67 #[.int .u64 (x : Int)] w fun e w' => e = .returned (.int .u64 ((min x mxN : Nat) : Int)) ∧ w' = w := by
 go_enter Tryz.func67, Tryz.ntmps67
 go_wp2; go_ret; refine ⟨?_, rfl⟩; have h1 : (min (x : Int) 281474976710655) = ((min x mxN : Nat) : Int) := by have : mxN = 281474976710655 := rfl; omega
 rw [← h1]
 rfl
set_option maxRecDepth 20000 in
set_option maxHeartbeats 1600000 in
theorem made_t (p : Nat) (o : Option Nat) (w : World) (h : w.cell? ⟨p, 522, none⟩ = some (.map o)) : Calls Tryz.prog 68 #[.pointer (some ⟨p, 0, none⟩)] w fun e w' => e = .returned (.bool o.isSome) ∧ w' = w := by
 have q48 := fun (w : World) (r : Option Nat) => run_neq_map_nil (P := Tryz.prog) w _ _ _ r Tryz.underlying131
 rcases o with _ | m
 · go_enter Tryz.func68, Tryz.ntmps68
   go_wp2; go_ret; exact ⟨rfl, rfl⟩
 · go_enter Tryz.func68, Tryz.ntmps68
   go_wp2; go_ret; exact ⟨rfl, rfl⟩
def bitOn (x s : Nat) : Nat := x ||| 2 ^ s
def bitOff (x s : Nat) : Nat := (BitVec.ofNat 64 x &&& ~~~ BitVec.ofNat 64 (2 ^ s)).toNat
theorem pow_wrap (s : Nat) (hs : s < 64) : IntKind.u64.wrap ((2 : Int) ^ s) = ((2 ^ s : Nat) : Int) := by
 have h : (2 : Nat) ^ s < 2 ^ 64 := Nat.pow_lt_pow_right (by decide) hs; have e : ((2 : Int) ^ s) = ((2 ^ s : Nat) : Int) := by push_cast; rfl
 rw [e, IntKind.wrap_u64]; generalize (2 : Nat) ^ s = y at *; simp at h; omega
theorem pow_lt64 {s : Nat} (hs : s < 64) : 2 ^ s < 18446744073709551616 := by have h := Nat.pow_lt_pow_right (a := 2) (by decide) hs; simpa using h
theorem or_bit (x s : Nat) (hs : s < 64) (hx : x < 18446744073709551616) : bits .or .u64 (x : Int) (IntKind.u64.wrap ((2 : Int) ^ s)) = (bitOn x s : Int) := by
 rw [pow_wrap s hs, bits_or_u64_nat x _ hx (pow_lt64 hs)]
 rfl
theorem bitOn_lt {x s : Nat} (hs : s < 64) (hx : x < 18446744073709551616) : bitOn x s < 18446744073709551616 := Nat.or_lt_two_pow (n := 64) hx (pow_lt64 hs)
theorem bitOff_lt (x s : Nat) : bitOff x s < 18446744073709551616 := BitVec.isLt _
theorem bitOn_at (x s j : Nat) : (bitOn x s).testBit j = (x.testBit j || decide (s = j)) := by
 unfold bitOn; rw [Nat.testBit_or, Nat.testBit_two_pow]
theorem bitOff_at (x s j : Nat) (hs : s < 64) (hj : j < 64) : (bitOff x s).testBit j = (x.testBit j && !decide (s = j)) := by
 unfold bitOff; rw [BitVec.testBit_toNat]; rw [BitVec.getLsbD_and, BitVec.getLsbD_not, BitVec.getLsbD_ofNat, BitVec.getLsbD_ofNat, Nat.testBit_two_pow]; simp [hj]
theorem off_bit (x s : Nat) (hs : s < 64) (hx : x < 18446744073709551616) : bits .andNot .u64 (x : Int) (IntKind.u64.wrap ((2 : Int) ^ s)) = (bitOff x s : Int) := by
 rw [pow_wrap s hs]; have h1 : BitVec.ofInt 64 ((2 ^ s : Nat) : Int) = BitVec.ofNat 64 (2 ^ s) := by rw [BitVec.ofInt_natCast]
 have h2 : BitVec.ofInt 64 (x : Int) = BitVec.ofNat 64 x := by rw [BitVec.ofInt_natCast]
 show IntKind.u64.wrap ((BitVec.ofInt 64 (x : Int) &&& ~~~ BitVec.ofInt 64 ((2 ^ s : Nat) : Int)).toNat : Int) = _; rw [h1, h2, IntKind.wrap_u64]; have := bitOff_lt x s; unfold bitOff at *; omega
set_option maxRecDepth 20000 in
set_option maxHeartbeats 1600000 in
theorem empty_t (p q x s : Nat) (hs : s < 64) (hx : x < 18446744073709551616) (v : Value) (w : World) (hc : w.cell? ⟨p, q + s, none⟩ = some v) (hf : w.frozen? ⟨p, q + s, none⟩ = false) (hc2 : w.cell? ⟨p, q + 64, none⟩ = some (.int .u64 (x : Int))) (hf2 : w.frozen? ⟨p, q + 64, none⟩ = false) :
 Calls Tryz.prog 160 #[.pointer (some ⟨p, q, none⟩), .int .i64 (s : Int)] w fun e w' => e = .returned (.tuple #[]) ∧ Drw ((w.setCell ⟨p, q + s, none⟩ (.slice none 0 0)).setCell ⟨p, q + 64, none⟩ (.int .u64 (bitOff x s : Int))) w' := by
 go_enter Tryz.func160, Tryz.ntmps160
 go_wp2; go_region
 go_end0; rw [off_bit x s hs hx]; exact ⟨rfl, 1, rfl⟩
end Go.Proofs.YtpakkpahcpgnnaaGreatDoor.Wh
namespace Go.Proofs.YtpakkpahcpgnnaaGreatDoor.Wh
open Go.RowKit Go.Maps
structure Chg (F : Nat → Prop) (w w' : World) : Prop where
 os : w'.os = w.os
 tape : w'.tape = w.tape
 output : w'.output = w.output
 size : w.heap.size ≤ w'.heap.size
 block : ∀ k, k < w.heap.size → ¬ F k → w'.heap[k]? = w.heap[k]?
theorem Chg.of_grown {F : Nat → Prop} {w w' : World} {row : Option Nat} (h : w.grownBy w' row) (hF : ∀ b, row = some b → F b) : Chg F w w' :=
 ⟨h.os, h.tape, h.output, h.size, fun k hk hn => h.block k hk (fun e => hn (hF k e.symm))⟩
theorem Chg.of_below {F : Nat → Prop} {w w' : World} (h : Below w.heap.size w w') : Chg F w w' := ⟨h.os, h.tape, h.output, h.size, fun k hk _ => h.block k hk⟩
theorem Chg.refl (F : Nat → Prop) (w : World) : Chg F w w := Chg.of_below (bR _ _)
theorem Chg.trans {F G : Nat → Prop} {a b c : World} (h : Chg F a b) (k : Chg G b c) (hG : ∀ i, G i → F i ∨ a.heap.size ≤ i) : Chg F a c := by
 refine ⟨k.os.trans h.os, k.tape.trans h.tape, k.output.trans h.output, Nat.le_trans h.size k.size, fun i hi hn => ?_⟩; refine (k.block i (Nat.lt_of_lt_of_le hi h.size) (fun hg => ?_)).trans (h.block i hi hn); rcases hG i hg with h1 | h1
 · exact hn h1
 · omega
theorem Chg.mono {F G : Nat → Prop} {w w' : World} (h : Chg F w w') (hG : ∀ i, F i → G i) : Chg G w w' := ⟨h.os, h.tape, h.output, h.size, fun k hk hn => h.block k hk (fun hf => hn (hG k hf))⟩
def upd {α : Type} (C : Nat → α) (i : Nat) (x : α) : Nat → α := fun j => if j = i then x else C j
def upd2 {α : Type} (C : Nat → Nat → α) (i j : Nat) (x : α) : Nat → Nat → α := fun k s => if k = i ∧ s = j then x else C k s
theorem upd_same {α : Type} (C : Nat → α) (i : Nat) (x : α) : upd C i x i = x := by simp [upd]
theorem upd_other {α : Type} (C : Nat → α) {i j : Nat} (h : j ≠ i) (x : α) : upd C i x j = C j := by simp [upd, h]
theorem upd2_same {α : Type} (C : Nat → Nat → α) (i j : Nat) (x : α) : upd2 C i j x i j = x := by simp [upd2]
theorem upd2_other {α : Type} (C : Nat → Nat → α) {i j k s : Nat} (h : ¬ (k = i ∧ s = j)) (x : α) : upd2 C i j x k s = C k s := by simp only [upd2, if_neg h]
structure Pl where
 k : Nat
 s : Nat
 i : Nat
abbrev plv (x : Pl) : Value := .agg #[.int .i64 (x.k : Int), .int .i64 (x.s : Int), .int .i64 (x.i : Int)]
abbrev tWh : TypeId := 138
abbrev tMp : TypeId := 131
abbrev tPl : TypeId := 190
def selfR (v : Value) : Option (DataW Value × List MemPlace) := some (.held v, [])
theorem keyI : Keyed Tryz.prog 3 := int_keyed Tryz.underlying3
theorem zeroP (w : World) : (zeroValue tPl).run Tryz.prog w = .ok (plv ⟨0, 0, 0⟩) w := by kernel_rfl
def inI (z : Int) : Prop := -9223372036854775808 ≤ z ∧ z ≤ 9223372036854775807
def kI (z : Int) : Lit := .int .i64 z
theorem kI_of {z : Int} (h : inI z) : keyOf Tryz.prog 3 (.int .i64 z) = some (kI z) := keyOf_int_mk Tryz.underlying3 (a := z) (by obtain ⟨h1, h2⟩ := h; simp [Lit.wf, IntKind.min, IntKind.max, IntKind.signed, IntKind.bits]; omega)
theorem kI_ne {z y : Int} (h : z ≠ y) : kI z ≠ kI y := fun e => h (Lit.int.inj e).2
theorem kI_key {z : Int} (h : inI z) : WideAt.IsKeyLit (kI z) := keyI.key (kI_of h)
structure Cells (C : Array Value) (N S m : Nat) (V : Nat → Nat → Value) (fl : Nat → Nat) : Prop where
 sz : C.size = 523
 c0 : C[0]? = some (.int .u64 (N : Int))
 c1 : C[1]? = some (.int .u64 (S : Int))
 cm : C[522]? = some (.map (some m))
 cv : ∀ k s, k < 8 → s < 64 → C[2 + 65 * k + s]? = some (V k s)
 cf : ∀ k, k < 8 → C[2 + 65 * k + 64]? = some (.int .u64 (fl k : Int))
theorem set_get {C : Array Value} {i j : Nat} (v : Value) (hi : i < C.size) : (C.setIfInBounds i v)[j]? = if i = j then some v else C[j]? := by
 rw [Array.getElem?_setIfInBounds]
 by_cases h : i = j
 · subst h; simp [hi]
 · simp [h]
section
variable {C : Array Value} {N S m : Nat} {V : Nat → Nat → Value} {fl : Nat → Nat}
theorem Cells.setN (h : Cells C N S m V fl) (N' : Nat) : Cells (C.setIfInBounds 0 (.int .u64 (N' : Int))) N' S m V fl := by
 have hz : 0 < C.size := by rw [h.sz]; decide
 refine ⟨by simp [h.sz], ?_, ?_, ?_, fun k s hk hs => ?_, fun k hk => ?_⟩
 · rw [set_get _ hz, if_pos rfl]
 · rw [set_get _ hz, if_neg (by omega)]; exact h.c1
 · rw [set_get _ hz, if_neg (by omega)]; exact h.cm
 · rw [set_get _ hz, if_neg (by omega)]; exact h.cv k s hk hs
 · rw [set_get _ hz, if_neg (by omega)]; exact h.cf k hk
theorem Cells.setS (h : Cells C N S m V fl) (S' : Nat) : Cells (C.setIfInBounds 1 (.int .u64 (S' : Int))) N S' m V fl := by
 have hz : 1 < C.size := by rw [h.sz]; decide
 refine ⟨by simp [h.sz], ?_, ?_, ?_, fun k s hk hs => ?_, fun k hk => ?_⟩
 · rw [set_get _ hz, if_neg (by omega)]; exact h.c0
 · rw [set_get _ hz, if_pos rfl]
 · rw [set_get _ hz, if_neg (by omega)]; exact h.cm
 · rw [set_get _ hz, if_neg (by omega)]; exact h.cv k s hk hs
 · rw [set_get _ hz, if_neg (by omega)]; exact h.cf k hk
theorem Cells.setV (h : Cells C N S m V fl) {k s : Nat} (hk : k < 8) (hs : s < 64) (v : Value) : Cells (C.setIfInBounds (2 + 65 * k + s) v) N S m (upd2 V k s v) fl := by
 have hz : 2 + 65 * k + s < C.size := by rw [h.sz]; omega
 refine ⟨by simp [h.sz], ?_, ?_, ?_, fun k' s' hk' hs' => ?_, fun k' hk' => ?_⟩
 · rw [set_get _ hz, if_neg (by omega)]; exact h.c0
 · rw [set_get _ hz, if_neg (by omega)]; exact h.c1
 · rw [set_get _ hz, if_neg (by omega)]; exact h.cm
 · rw [set_get _ hz]
   by_cases e : k' = k ∧ s' = s
   · obtain ⟨rfl, rfl⟩ := e; rw [if_pos rfl, upd2_same]
   · rw [if_neg (by omega), upd2_other _ e]; exact h.cv k' s' hk' hs'
 · rw [set_get _ hz, if_neg (by omega)]; exact h.cf k' hk'
theorem Cells.setF (h : Cells C N S m V fl) {k : Nat} (hk : k < 8) (x : Nat) : Cells (C.setIfInBounds (2 + 65 * k + 64) (.int .u64 (x : Int))) N S m V (upd fl k x) := by
 have hz : 2 + 65 * k + 64 < C.size := by rw [h.sz]; omega
 refine ⟨by simp [h.sz], ?_, ?_, ?_, fun k' s' hk' hs' => ?_, fun k' hk' => ?_⟩
 · rw [set_get _ hz, if_neg (by omega)]; exact h.c0
 · rw [set_get _ hz, if_neg (by omega)]; exact h.c1
 · rw [set_get _ hz, if_neg (by omega)]; exact h.cm
 · rw [set_get _ hz, if_neg (by omega)]; exact h.cv k' s' hk' hs'
 · rw [set_get _ hz]
   by_cases e : k' = k
   · subst e; rw [if_pos rfl, upd_same]
   · rw [if_neg (by omega), upd_other _ e]; exact h.cf k' hk'
end
structure MapW (w : World) (m : Nat) (K : List Int) (X : Int → Pl) : Prop where
 own : ∃ D, w.ownsMap Tryz.prog 3 selfR m K.length D ∧ Maps.size D = K.length ∧ (∀ z, inI z → (Maps.has D (kI z) = true ↔ z ∈ K)) ∧ ∀ z, z ∈ K → ∀ y, D.atKey (kI z) y = .held (plv (X z))
 nd : K.Nodup
 rg : ∀ z, z ∈ K → inI z
structure Whl (w : World) (p m N S : Nat) (F : Nat → Nat → List Tm) (V : Nat → Nat → Value) (fl : Nat → Nat) (K : List Int) (X : Int → Pl) : Prop where
 blk : ∃ C, w.heap[p]? = some (.cells C tWh (0, 0)) ∧ Cells C N S m V fl
 rows : ∀ k s, k < 8 → s < 64 → OwnM w 0 (V k s) (F k s)
 apart : ∀ k s k' s' b, k < 8 → s < 64 → k' < 8 → s' < 64 → (V k s).ownBlock = some b → (V k' s').ownBlock = some b → k = k' ∧ s = s'
 map : MapW w m K X
 fw : ∀ k, k < 8 → fl k < 18446744073709551616
def footW (p m : Nat) (V : Nat → Nat → Value) (b : Nat) : Prop := b = p ∨ b = m ∨ ∃ k s, k < 8 ∧ s < 64 ∧ (V k s).ownBlock = some b
section
variable {w w' : World} {p m N S : Nat} {F : Nat → Nat → List Tm} {V : Nat → Nat → Value} {fl : Nat → Nat} {K : List Int} {X : Int → Pl}
theorem rowM_at {v : Value} {xs : List Tm} {b : Nat} (h : OwnM w 0 v xs) (hb : v.ownBlock = some b) : ∃ cur, w.heap[b]? = some (.cells cur tTm (0, 0)) := by
 rcases h.2 with ⟨rfl, -⟩ | ⟨g, cap, cur, rfl, -, hg, -⟩
 · cases hb
 · cases hb; exact ⟨cur, hg⟩
theorem rowM_kept {B : Nat} {v : Value} {xs : List Tm} (h : OwnM w B v xs) (hk : ∀ b, v.ownBlock = some b → w'.heap[b]? = w.heap[b]?) : OwnM w' B v xs := by
 refine ⟨h.1, ?_⟩; rcases h.2 with h0 | ⟨g, cap, cur, e, hB, hg, r⟩
 · exact .inl h0
 · exact .inr ⟨g, cap, cur, e, hB, (hk g (by rw [e]; rfl)).trans hg, r⟩
theorem MapW.at_ (h : MapW w m K X) : ∃ es cl, w.heap[m]? = some (.map es cl) := by
 obtain ⟨D, ⟨es, cl, h1, -⟩, -⟩ := h.own; exact ⟨es, cl, h1⟩
theorem MapW.kept (h : MapW w m K X) (hk : w'.heap[m]? = w.heap[m]?) : MapW w' m K X := by
 obtain ⟨D, ⟨es, cl, e1, e2⟩, h2⟩ := h.own; exact ⟨⟨D, ⟨es, cl, hk.trans e1, e2⟩, h2⟩, h.nd, h.rg⟩
theorem Whl.at_ (h : Whl w p m N S F V fl K X) : ∃ C, w.heap[p]? = some (.cells C tWh (0, 0)) := by
 obtain ⟨C, h1, -⟩ := h.blk; exact ⟨C, h1⟩
theorem Whl.lt (h : Whl w p m N S F V fl K X) {b : Nat} (hb : footW p m V b) : b < w.heap.size := by
 rcases hb with rfl | rfl | ⟨k, s, hk, hs, e⟩
 · obtain ⟨C, h1⟩ := h.at_; exact (sI h1).1
 · obtain ⟨es, cl, h1⟩ := h.map.at_; exact (sI h1).1
 · obtain ⟨cur, h1⟩ := rowM_at (h.rows k s hk hs) e; exact (sI h1).1
theorem Whl.pm (h : Whl w p m N S F V fl K X) : p ≠ m := by
 intro e; obtain ⟨C, h1⟩ := h.at_; obtain ⟨es, cl, h2⟩ := h.map.at_; rw [e, h2] at h1; cases h1
theorem Whl.pV (h : Whl w p m N S F V fl K X) {k s : Nat} (hk : k < 8) (hs : s < 64) : (V k s).ownBlock ≠ some p := by
 intro e; obtain ⟨C, h1⟩ := h.at_; obtain ⟨cur, h2⟩ := rowM_at (h.rows k s hk hs) e; rw [h1] at h2; simp only [Option.some.injEq, Obj.cells.injEq] at h2; exact absurd h2.2.1 (by decide)
theorem Whl.mV (h : Whl w p m N S F V fl K X) {k s : Nat} (hk : k < 8) (hs : s < 64) : (V k s).ownBlock ≠ some m := by
 intro e; obtain ⟨es, cl, h1⟩ := h.map.at_; obtain ⟨cur, h2⟩ := rowM_at (h.rows k s hk hs) e; rw [h1] at h2; cases h2
theorem Whl.kept (h : Whl w p m N S F V fl K X) (hk : ∀ b, footW p m V b → w'.heap[b]? = w.heap[b]?) : Whl w' p m N S F V fl K X := by
 obtain ⟨C, h1, h2⟩ := h.blk; exact ⟨⟨C, (hk p (.inl rfl)).trans h1, h2⟩, fun k s h3 h4 => rowM_kept (h.rows k s h3 h4) (fun b hb => hk b (.inr (.inr ⟨k, s, h3, h4, hb⟩))), h.apart, h.map.kept (hk m (.inr (.inl rfl))), h.fw⟩
theorem Whl.below (h : Whl w p m N S F V fl K X) (hb : Below w.heap.size w w') : Whl w' p m N S F V fl K X := h.kept (fun b hf => hb.block b (h.lt hf))
theorem Whl.chg {G : Nat → Prop} (h : Whl w p m N S F V fl K X) (hc : Chg G w w') (hG : ∀ b, footW p m V b → ¬ G b) : Whl w' p m N S F V fl K X := h.kept (fun b hf => hc.block b (h.lt hf) (hG b hf))
theorem Whl.cell (h : Whl w p m N S F V fl K X) {i : Nat} {v : Value} (hc : ∀ C, Cells C N S m V fl → C[i]? = some v) : w.cell? ⟨p, i, none⟩ = some v := by
 obtain ⟨C, h1, h2⟩ := h.blk; rw [cR h1]; exact hc C h2
theorem Whl.cN (h : Whl w p m N S F V fl K X) : w.cell? ⟨p, 0, none⟩ = some (.int .u64 (N : Int)) := h.cell (fun _ c => c.c0)
theorem Whl.cS (h : Whl w p m N S F V fl K X) : w.cell? ⟨p, 1, none⟩ = some (.int .u64 (S : Int)) := h.cell (fun _ c => c.c1)
theorem Whl.cM (h : Whl w p m N S F V fl K X) : w.cell? ⟨p, 522, none⟩ = some (.map (some m)) := h.cell (fun _ c => c.cm)
theorem Whl.cV (h : Whl w p m N S F V fl K X) {k s : Nat} (hk : k < 8) (hs : s < 64) : w.cell? ⟨p, 2 + 65 * k + s, none⟩ = some (V k s) := h.cell (fun _ c => c.cv k s hk hs)
theorem Whl.cF (h : Whl w p m N S F V fl K X) {k : Nat} (hk : k < 8) : w.cell? ⟨p, 2 + 65 * k + 64, none⟩ = some (.int .u64 (fl k : Int)) := h.cell (fun _ c => c.cf k hk)
theorem Whl.fz (h : Whl w p m N S F V fl K X) (i : Nat) : w.frozen? ⟨p, i, none⟩ = false := by
 obtain ⟨C, h1⟩ := h.at_; simp [World.frozen?, h1]
theorem Whl.st {i : Nat} {v : Value} {N' S' : Nat} {V' : Nat → Nat → Value} {fl' : Nat → Nat} {F' : Nat → Nat → List Tm} (h : Whl w p m N S F V fl K X) (hc : ∀ C, Cells C N S m V fl → Cells (C.setIfInBounds i v) N' S' m V' fl')
 (hr : ∀ k s, k < 8 → s < 64 → OwnM w 0 (V' k s) (F' k s)) (ha : ∀ k s k' s' b, k < 8 → s < 64 → k' < 8 → s' < 64 → (V' k s).ownBlock = some b → (V' k' s').ownBlock = some b → k = k' ∧ s = s')
 (hf : ∀ k, k < 8 → fl' k < 18446744073709551616) : Whl (w.setCell ⟨p, i, none⟩ v) p m N' S' F' V' fl' K X := by
 obtain ⟨C, h1, h2⟩ := h.blk; refine ⟨⟨_, heap_setCell_same w p i C tWh v h1, hc C h2⟩, fun k s hk hs => rowM_kept (hr k s hk hs) (fun b hb => heap_setCell_other _ _ _ _ (fun e => ?_)), ha, h.map.kept (heap_setCell_other _ _ _ _ (fun e => h.pm e.symm)), hf⟩; subst e; obtain ⟨cur, h3⟩ := rowM_at (hr k s hk hs) hb; rw [h1] at h3; simp only [Option.some.injEq, Obj.cells.injEq] at h3; exact absurd h3.2.1 (by decide)
theorem Whl.stN (h : Whl w p m N S F V fl K X) (N' : Nat) : Whl (w.setCell ⟨p, 0, none⟩ (.int .u64 (N' : Int))) p m N' S F V fl K X := h.st (fun _ c => c.setN N') h.rows h.apart h.fw
theorem Whl.stS (h : Whl w p m N S F V fl K X) (S' : Nat) : Whl (w.setCell ⟨p, 1, none⟩ (.int .u64 (S' : Int))) p m N S' F V fl K X := h.st (fun _ c => c.setS S') h.rows h.apart h.fw
theorem Whl.stF (h : Whl w p m N S F V fl K X) {k : Nat} (hk : k < 8) (x : Nat) (hx : x < 18446744073709551616) : Whl (w.setCell ⟨p, 2 + 65 * k + 64, none⟩ (.int .u64 (x : Int))) p m N S F V (upd fl k x) K X :=
 h.st (fun _ c => c.setF hk x) h.rows h.apart (fun k' hk' => by by_cases e : k' = k; (subst e; rw [upd_same]; exact hx); (rw [upd_other _ e]; exact h.fw k' hk'))
theorem Whl.stV (h : Whl w p m N S F V fl K X) {k s : Nat} (hk : k < 8) (hs : s < 64) (hg : w.grownBy w' (V k s).ownBlock) {v : Value} {ys : List Tm} (hv : OwnM w' 0 v ys) (hb : ∀ b, v.ownBlock = some b → (V k s).ownBlock = some b ∨ w.heap.size ≤ b) :
 Whl (w'.setCell ⟨p, 2 + 65 * k + s, none⟩ v) p m N S (upd2 F k s ys) (upd2 V k s v) fl K X := by
 obtain ⟨C, h1, h2⟩ := h.blk; have far : ∀ b, footW p m V b → (V k s).ownBlock ≠ some b → w'.heap[b]? = w.heap[b]? := fun b hf hn => hg.block b (h.lt hf) (fun e => hn e.symm)
 have h1' : w'.heap[p]? = some (.cells C tWh (0, 0)) := (far p (.inl rfl) (h.pV hk hs)).trans h1
 have hr : ∀ k' s', k' < 8 → s' < 64 → OwnM w' 0 (upd2 V k s v k' s') (upd2 F k s ys k' s') := fun k' s' hk' hs' => by
  by_cases e : k' = k ∧ s' = s
  · obtain ⟨rfl, rfl⟩ := e; rw [upd2_same, upd2_same]; exact hv
  · rw [upd2_other _ e, upd2_other _ e]; exact rowM_kept (h.rows k' s' hk' hs') (fun b hb' => far b (.inr (.inr ⟨k', s', hk', hs', hb'⟩)) (fun e9 => e (h.apart k' s' k s b hk' hs' hk hs hb' e9)))
 have hap : ∀ k' s' b, k' < 8 → s' < 64 → ¬ (k' = k ∧ s' = s) → v.ownBlock = some b → (V k' s').ownBlock = some b → False := fun k' s' b hk' hs' e h3 h4 => by
  rcases hb b h3 with h5 | h5
  · exact e (h.apart k' s' k s b hk' hs' hk hs h4 h5)
  · have := h.lt (.inr (.inr ⟨k', s', hk', hs', h4⟩)); omega
 refine ⟨⟨_, heap_setCell_same w' p _ C tWh v h1', h2.setV hk hs v⟩, fun k' s' hk' hs' => rowM_kept (hr k' s' hk' hs') (fun b hb' => heap_setCell_other _ _ _ _ (fun e => ?_)), fun a b c d y ha hb' hc hd h3 h4 => ?_, h.map.kept ((heap_setCell_other _ _ _ _ (fun e => h.pm e.symm)).trans (far m (.inr (.inl rfl)) (h.mV hk hs))), h.fw⟩
 · subst e; obtain ⟨cur, h3⟩ := rowM_at (hr k' s' hk' hs') hb'; rw [h1'] at h3; simp only [Option.some.injEq, Obj.cells.injEq] at h3; exact absurd h3.2.1 (by decide)
 · by_cases e1 : a = k ∧ b = s
   · by_cases e2 : c = k ∧ d = s
     · exact ⟨e1.1.trans e2.1.symm, e1.2.trans e2.2.symm⟩
     · rw [e1.1, e1.2, upd2_same] at h3; rw [upd2_other _ e2] at h4; exact (hap c d y hc hd e2 h3 h4).elim
   · rw [upd2_other _ e1] at h3
     by_cases e2 : c = k ∧ d = s
     · rw [e2.1, e2.2, upd2_same] at h4; exact (hap a b y ha hb' e1 h4 h3).elim
     · rw [upd2_other _ e2] at h4; exact h.apart a b c d y ha hb' hc hd h3 h4
end
end Go.Proofs.YtpakkpahcpgnnaaGreatDoor.Wh
namespace Go.Proofs.YtpakkpahcpgnnaaGreatDoor.Wh
open Go.RowKit Go.Maps
structure Stp (w w' : World) (p m : Nat) (V V' : Nat → Nat → Value) : Prop where
 chg : Chg (footW p m V) w w'
 new : ∀ b, footW p m V' b → footW p m V b ∨ w.heap.size ≤ b
theorem Stp.refl (w : World) (p m : Nat) (V : Nat → Nat → Value) : Stp w w p m V V := ⟨Chg.refl _ _, fun _ h => .inl h⟩
theorem Stp.below {w w' : World} (h : Below w.heap.size w w') (p m : Nat) (V : Nat → Nat → Value) : Stp w w' p m V V := ⟨Chg.of_below h, fun _ h => .inl h⟩
theorem Stp.trans {a b c : World} {p m : Nat} {V V' V'' : Nat → Nat → Value} (h : Stp a b p m V V') (k : Stp b c p m V' V'') : Stp a c p m V V'' :=
 ⟨h.chg.trans k.chg h.new, fun i hi => by
   rcases k.new i hi with h1 | h1
   · exact h.new i h1
   · exact .inr (Nat.le_trans h.chg.size h1)⟩
set_option maxRecDepth 20000 in
set_option maxHeartbeats 1600000 in
theorem add_c (p q x s : Nat) (hs : s < 64) (hx : x < 18446744073709551616) (t : Tm) (xs : List Tm) (a : Option Addr) (n c : Nat) (hn : n = xs.length) (hl : n ≤ 4398046511104) (w : World) (hown : OwnM w 0 (.slice a n c) xs) (hne : (Value.slice a n c).ownBlock ≠ some p) (hc : w.cell? ⟨p, q + s, none⟩ = some (.slice a n c)) (hf : w.frozen? ⟨p, q + s, none⟩ = false) (hc2 : w.cell? ⟨p, q + 64, none⟩ = some (.int .u64 (x : Int))) (hf2 : w.frozen? ⟨p, q + 64, none⟩ = false) (hpl : p < w.heap.size) :
 Calls Tryz.prog 158 #[.pointer (some ⟨p, q, none⟩), .int .i64 (s : Int), tma t] w fun e w' => e = .returned (.int .i64 (n : Int)) ∧ ∃ g cap u, OwnM u 0 (.slice (some ⟨g, 0, none⟩) (n + 1) cap) (xs ++ [t]) ∧ w.grownBy u (Value.slice a n c).ownBlock ∧ ((Value.slice a n c).ownBlock = some g ∨ w.heap.size ≤ g) ∧
  Drw ((u.setCell ⟨p, q + s, none⟩ (.slice (some ⟨g, 0, none⟩) (n + 1) cap)).setCell ⟨p, q + 64, none⟩ (.int .u64 (bitOn x s : Int))) w' := by
 obtain ⟨i0, hi, hz0, hz1, hz2⟩ := info_parts infoM; have hsi : (s : Int) < 64 := by omega
 have HW : Hid (∀ o1 o2, ((w.alloc o1).alloc o2).drew.heap[w.heap.size + 1]? = some o2) := fun o1 o2 => by rw [heap_drew]; have := heap_alloc_new (w.alloc o1) o2; simpa using this
 have HB : Hid (∀ (o1 o2 : Obj) (i : Nat) (v : Value), w.cell? ⟨p, i, none⟩ = some v → ((w.alloc o1).alloc o2).drew.cell? ⟨p, i, none⟩ = some v) := fun o1 o2 i v h => ((al (al (Below.refl _ w) o1) o2).drew.cell (p := ⟨p, i, none⟩) hpl).trans h
 have HF : Hid (∀ (o1 o2 : Obj) (i : Nat), w.frozen? ⟨p, i, none⟩ = false → ((w.alloc o1).alloc o2).drew.frozen? ⟨p, i, none⟩ = false) := fun o1 o2 i h => (World.frozen?_of_block ((al (al (Below.refl _ w) o1) o2).drew.block p hpl)).trans h
 have HN : Hid _ := hn
 have HO : Hid (∀ o1 o2, ((w.alloc o1).alloc o2).drew.ownsRow 0 tTm 3 (.slice a n c) n (flatM xs)) := fun o1 o2 => by
  have h9 := OwnM.below (xs := xs) hown (al (al (Below.refl _ w) o1) o2).drew; unfold OwnM at h9; rw [← HN.out] at h9; exact h9
 have HE : Hid _ := hne; have HI : Hid _ := And.intro hi (And.intro hz0 (And.intro hz1 hz2)); clear hn hown hne hi hz0 hz1 hz2; go_enter Tryz.func158, Tryz.ntmps158
 go_wp2; go_region_law (refine step_append_lies _ rfl (.tmp 14) (.tmp 16) tTms rfl 0 tTm i0 (.agg #[.int .i64 0, .int .u64 0, .int .u64 0]) 3 24 Tryz.underlying132 HI.out.1 HI.out.2.1 HI.out.2.2.1 HI.out.2.2.2 rfl (by decide) (.slice a n c) n (flatM xs) (by simp [Act.eval, Act.put]) (HO.out _ _) ⟨w.heap.size + 1, 0, none⟩ 1 1 (tmv t) (by simp [Act.eval, Act.put]) rfl (World.news_of_block (cs := #[.int .i64 t.id, .int .u64 (t.at_ : Int), .int .u64 (t.ord : Int)]) (t := tTm) (fr := (0, 0)) (HW.out _ _)) (by intro u hu; simp at hu; rcases hu with rfl | rfl | rfl <;> rfl) (by decide) (by simp only [maxLen]; omega) (by omega) (Nat.zero_le _) _ rfl ?_; intro g5 cap5 w5 hown5 hg5 hat5 hlt5; have hc5 := hg5.cell (HB.out _ _ _ _ hc) (fun e => HE.out e.symm); have hf5 := (hg5.frozen_far ⟨p, q + s, none⟩ (by simp; omega) (fun e => HE.out e.symm)).trans (HF.out _ _ _ hf); have hc6 := hg5.cell (HB.out _ _ _ _ hc2) (fun e => HE.out e.symm); have hf6 := (hg5.frozen_far ⟨p, q + 64, none⟩ (by simp; omega) (fun e => HE.out e.symm)).trans (HF.out _ _ _ hf2); have HO5 : Hid _ := hown5; have HG5 : Hid _ := hg5; have HT5 : Hid _ := hat5; clear hown5 hg5 hat5)
 all_goals
  go_wp2; go_region
  go_wp2; go_ret; refine ⟨by simp, g5, cap5, w5, ?_, ?_, ?_, ?_⟩
  · have h9 := HO5.out; unfold OwnM; rw [List.length_append, flatM_app, flatM_one, ← HN.out]; exact h9
  · exact (World.grownBy_alloc w _ _).trans' ((World.grownBy_alloc _ _ _).trans' ⟨HG5.out.os, HG5.out.tape, HG5.out.output, HG5.out.size, HG5.out.block⟩)
  · rcases HT5.out with h9 | h9
    · exact .inl h9
    · refine .inr ?_; rw [h9]; simp; omega
  · rw [or_bit x s hs hx]; exact ⟨_, rfl⟩
end Go.Proofs.YtpakkpahcpgnnaaGreatDoor.Wh
namespace Go.Proofs.YtpakkpahcpgnnaaGreatDoor.Wh
open Go.RowKit Go.Maps
theorem gset1 (w : World) (g i : Nat) (v : Value) : w.grownBy (w.setCell ⟨g, i, none⟩ v) (some g) :=
 ⟨rfl, rfl, rfl, by simp, fun k _ hne => heap_setCell_other _ _ _ _ (fun e => hne (by rw [e]))⟩
theorem setCell_drewN (w : World) (n : Nat) (a : Addr) (v : Value) : (w.drewN n).setCell a v = (w.setCell a v).drewN n := rfl
theorem alloc_drewN (w : World) (n : Nat) (o : Obj) : (w.drewN n).alloc o = (w.alloc o).drewN n := rfl
theorem Drw.heap {w w' : World} (h : Drw w w') : w'.heap = w.heap := by obtain ⟨n, rfl⟩ := h; rfl
theorem Drw.below {w w' : World} (h : Drw w w') (B : Nat) : Below B w w' := by obtain ⟨n, rfl⟩ := h; exact ⟨rfl, rfl, rfl, Nat.le_refl _, fun _ _ => rfl⟩
section
variable {w w' : World} {p m N S : Nat} {F : Nat → Nat → List Tm} {V : Nat → Nat → Value} {fl : Nat → Nat} {K : List Int} {X : Int → Pl}
theorem Whl.drw (h : Whl w p m N S F V fl K X) (hd : Drw w w') : Whl w' p m N S F V fl K X := h.kept (fun b _ => by rw [hd.heap])
theorem Stp.drw {V' : Nat → Nat → Value} {w'' : World} (h : Stp w w' p m V V') (hd : Drw w' w'') : Stp w w'' p m V V' := h.trans (Stp.below (hd.below _) _ _ _)
theorem Stp.set {V' : Nat → Nat → Value} (h : Stp w w' p m V V') (i : Nat) (v : Value) : Stp w (w'.setCell ⟨p, i, none⟩ v) p m V V' :=
 ⟨h.chg.trans (G := fun b => b = p) (Chg.of_grown (row := some p) (gset1 w' p i v) (fun b e => (Option.some.inj e).symm)) (fun b e => .inl (.inl e)), h.new⟩
end
theorem flatM_set (xs : List Tm) (i : Nat) (t : Tm) (h : i < xs.length) : flatM (xs.set i t) = (((flatM xs).set (i * 3) (.int .i64 t.id)).set (i * 3 + 1) (.int .u64 (t.at_ : Int))).set (i * 3 + 2) (.int .u64 (t.ord : Int)) := by
 apply List.ext_getElem?; intro r
 by_cases hr : r < xs.length * 3
 · have h1 := flatM_get (xs.set i t) (r / 3) (r % 3) (by simp; omega) (by omega); have h2 := flatM_get xs (r / 3) (r % 3) (by omega) (by omega); rw [show r / 3 * 3 + r % 3 = r by omega] at h1 h2; rw [h1]
   by_cases e : r / 3 = i
   · have h3 : (xs.set i t)[r / 3]'(by simp; omega) = t := by simp [e]
     rw [h3]; have hl : r < (flatM xs).length := by rw [flatM_len]; exact hr
     have h4 : r % 3 = 0 ∨ r % 3 = 1 ∨ r % 3 = 2 := by omega
     rcases h4 with h4 | h4 | h4
     · rw [h4, List.getElem?_set_ne (by omega), List.getElem?_set_ne (by omega), show r = i * 3 by omega, List.getElem?_set_self (by rw [flatM_len]; omega)]
       rfl
     · rw [h4, List.getElem?_set_ne (by omega), show r = i * 3 + 1 by omega, List.getElem?_set_self (by rw [List.length_set, flatM_len]; omega)]
       rfl
     · rw [h4, show r = i * 3 + 2 by omega, List.getElem?_set_self (by rw [List.length_set, List.length_set, flatM_len]; omega)]
       rfl
   · have h3 : (xs.set i t)[r / 3]'(by simp; omega) = xs[r / 3]'(by omega) := by rw [List.getElem_set_ne (fun e9 => e e9.symm)]
     rw [h3, ← h2, List.getElem?_set_ne (by omega), List.getElem?_set_ne (by omega), List.getElem?_set_ne (by omega)]
 · rw [List.getElem?_eq_none (by rw [flatM_len, List.length_set]; omega), List.getElem?_eq_none (by rw [List.length_set, List.length_set, List.length_set, flatM_len]; omega)]
theorem ownM_set {w : World} {B g cap n : Nat} {xs : List Tm} (h : OwnM w B (.slice (some ⟨g, 0, none⟩) n cap) xs) (hn : n = xs.length) (i : Nat) (hi : i < xs.length) (t : Tm) :
 OwnM (((w.setCell ⟨g, i * 3, none⟩ (.int .i64 t.id)).setCell ⟨g, i * 3 + 1, none⟩ (.int .u64 (t.at_ : Int))).setCell ⟨g, i * 3 + 2, none⟩ (.int .u64 (t.ord : Int))) B (.slice (some ⟨g, 0, none⟩) n cap) (xs.set i t) := by
 subst hn; have h1 := (World.ownsRow.stored h (i * 3) (.int .i64 t.id)).1; have h2 := (World.ownsRow.stored h1 (i * 3 + 1) (.int .u64 (t.at_ : Int))).1; have h3 := (World.ownsRow.stored h2 (i * 3 + 2) (.int .u64 (t.ord : Int))).1; unfold OwnM; rw [List.length_set, flatM_set xs i t hi]; exact h3
theorem ownM_pre {w : World} {B g cap n : Nat} {xs : List Tm} (h : OwnM w B (.slice (some ⟨g, 0, none⟩) xs.length cap) xs) (hn : n ≤ xs.length) : OwnM w B (.slice (some ⟨g, 0, none⟩) n cap) (xs.take n) := by
 have hl : (xs.take n).length = n := by rw [List.length_take]; omega
 refine ⟨flatM_len _, ?_⟩; rcases h.2 with ⟨e, -⟩ | ⟨g', cap', cur, e, hB, hg, h1, h2, h3, h4⟩
 · cases e
 · cases e; refine .inr ⟨_, _, cur, by rw [hl], hB, hg, by omega, h2, h3, ?_⟩; rw [hl]; have h5 : cur.toList.take (n * 3) = (cur.toList.take (xs.length * 3)).take (n * 3) := by rw [List.take_take]; congr 1; omega
   rw [h5, h4]; apply List.ext_getElem?; intro r
   by_cases hr : r < n * 3
   · rw [List.getElem?_take_of_lt hr]; have h6 := flatM_get xs (r / 3) (r % 3) (by omega) (by omega); have h7 := flatM_get (xs.take n) (r / 3) (r % 3) (by omega) (by omega); rw [show r / 3 * 3 + r % 3 = r by omega] at h6 h7; rw [h6, h7, List.getElem_take]
   · rw [List.getElem?_take_eq_none (by omega), List.getElem?_eq_none (by rw [flatM_len]; omega)]
theorem OwnM.cells3 {w : World} {B g cap n : Nat} {xs : List Tm} (h : OwnM w B (.slice (some ⟨g, 0, none⟩) n cap) xs) (hn : n = xs.length) (i : Nat) (hi : i < xs.length) :
 w.cell? ⟨g, i * 3, none⟩ = some (.int .i64 xs[i].id) ∧ w.cell? ⟨g, i * 3 + 1, none⟩ = some (.int .u64 (xs[i].at_ : Int)) ∧ w.cell? ⟨g, i * 3 + 2, none⟩ = some (.int .u64 (xs[i].ord : Int)) := by
 subst hn; have h1 := fun r (hr : r < 3) => (World.ownsRow.cellAt h (i * 3 + r) (by omega)).trans (flatM_get xs i r hi hr)
 exact ⟨h1 0 (by decide), h1 1 (by decide), h1 2 (by decide)⟩
theorem OwnM.fz {w : World} {B g cap n : Nat} {xs : List Tm} (h : OwnM w B (.slice (some ⟨g, 0, none⟩) n cap) xs) (i : Nat) : w.frozen? ⟨g, i, none⟩ = false := by
 rcases h.2 with ⟨e, -⟩ | ⟨g', cap', cur, e, hB, hg, -⟩
 · cases e
 · cases e; simp [World.frozen?, hg]
theorem OwnM.lt {w : World} {B g cap n : Nat} {xs : List Tm} (h : OwnM w B (.slice (some ⟨g, 0, none⟩) n cap) xs) : g < w.heap.size := by
 rcases h.2 with ⟨e, -⟩ | ⟨g', cap', cur, e, hB, hg, -⟩
 · cases e
 · cases e; exact (sI hg).1
theorem OwnM.most {w : World} {B g cap n : Nat} {xs : List Tm} (h : OwnM w B (.slice (some ⟨g, 0, none⟩) n cap) xs) : n = xs.length ∧ n ≤ cap ∧ cap ≤ maxLen := by
 rcases h.2 with ⟨e, -⟩ | ⟨g', cap', cur, e, hB, hg, h1, h2, -⟩
 · cases e
 · cases e; exact ⟨rfl, h1, h2⟩
set_option maxRecDepth 20000 in
set_option maxHeartbeats 1600000 in
theorem remove_c (p q s i j g cap : Nat) (hs : s < 64) (xs : List Tm) (hj : 0 < j) (hi : i ≤ j) (hn : j + 1 = xs.length) (w : World) (hown : OwnM w 0 (.slice (some ⟨g, 0, none⟩) (j + 1) cap) xs) (hne : g ≠ p) (hc : w.cell? ⟨p, q + s, none⟩ = some (.slice (some ⟨g, 0, none⟩) (j + 1) cap)) (hf : w.frozen? ⟨p, q + s, none⟩ = false) (hpl : p < w.heap.size) :
 Calls Tryz.prog 137 #[.pointer (some ⟨p, q, none⟩), .int .i64 (s : Int), .int .i64 (i : Int)] w fun e w' => e = .returned (.tuple #[tma (xs[j]'(by omega)), .bool (decide (i < j))]) ∧ ∃ u, OwnM u 0 (.slice (some ⟨g, 0, none⟩) (j + 1) cap) (xs.set i (xs[j]'(by omega))) ∧ w.grownBy u (some g) ∧
  Below w.heap.size (u.setCell ⟨p, q + s, none⟩ (.slice (some ⟨g, 0, none⟩) j cap)) w' := by
 have hjl : j < xs.length := by omega
 obtain ⟨a0, a1, a2⟩ := hown.cells3 hn j hjl; obtain ⟨b0, b1, b2⟩ := hown.cells3 hn i (by omega); have f0 := hown.fz (i * 3); have f1 := hown.fz (i * 3 + 1); have f2 := hown.fz (i * 3 + 2); obtain ⟨-, hm1, hm2⟩ := hown.most; have hm3 : j + 1 ≤ 9223372036854775807 := by simp only [maxLen] at hm2; omega
 have hgl := hown.lt; have HO : Hid _ := hown; have HN : Hid _ := hn; generalize hT : xs[j] = t at *; generalize xs[i] = t' at *; clear hown hn; have hsi : (s : Int) < 64 := by omega
 go_enter Tryz.func137, Tryz.ntmps137
 go_wp2; go_region
 go_wp2; go_region
 go_wp2; refine bodyPost_ret (v := .tuple #[tma t, .bool (decide (i < j))]) (by simp [results, Tryz.results137, go_sem]) rfl ⟨rfl, _, ownM_set (xs := xs) HO.out HN.out i (by have := HN.out; omega) t, ?_, ?_⟩
 · exact ((gset1 _ _ _ _).trans' (gset1 _ _ _ _)).trans' (gset1 _ _ _ _)
 · exact ((bR _ _).alloc (by simp) _).drew.drew
set_option maxRecDepth 20000 in
set_option maxHeartbeats 1600000 in
theorem remove_1 (p q x s g cap : Nat) (hs : s < 64) (hx : x < 18446744073709551616) (w : World) (hc : w.cell? ⟨p, q + s, none⟩ = some (.slice (some ⟨g, 0, none⟩) 1 cap)) (hf : w.frozen? ⟨p, q + s, none⟩ = false) (hc2 : w.cell? ⟨p, q + 64, none⟩ = some (.int .u64 (x : Int))) (hf2 : w.frozen? ⟨p, q + 64, none⟩ = false) (hpl : p < w.heap.size) :
 Calls Tryz.prog 137 #[.pointer (some ⟨p, q, none⟩), .int .i64 (s : Int), .int .i64 0] w fun e w' => e = .returned (.tuple #[tma ⟨0, 0, 0⟩, .bool false]) ∧ Below w.heap.size ((w.setCell ⟨p, q + s, none⟩ (.slice none 0 0)).setCell ⟨p, q + 64, none⟩ (.int .u64 (bitOff x s : Int))) w' := by
 have hsi : (s : Int) < 64 := by omega
 have HA : Hid (∀ (o : Obj) (i : Nat) (v : Value), w.cell? ⟨p, i, none⟩ = some v → (w.alloc o).cell? ⟨p, i, none⟩ = some v) := fun o i v h => ((al (Below.refl _ w) o).cell (p := ⟨p, i, none⟩) hpl).trans h
 have HAf : Hid (∀ (o : Obj) (i : Nat), w.frozen? ⟨p, i, none⟩ = false → (w.alloc o).frozen? ⟨p, i, none⟩ = false) := fun o i h => (World.frozen?_of_block ((al (Below.refl _ w) o).block p hpl)).trans h
 go_enter Tryz.func137, Tryz.ntmps137
 go_wp2_with (go_at_call 160; refine Calls.mono (empty_t p q x s hs hx _ _ (HA.out _ _ _ hc) (HAf.out _ _ hf) (HA.out _ _ _ hc2) (HAf.out _ _ hf2)) ?_; rintro e w2 ⟨rfl, n2, rfl⟩)
 rw [setCell_drewN, setCell_drewN, setCell_drewN]; refine bodyPost_ret (v := .tuple #[tma ⟨0, 0, 0⟩, .bool false]) (by simp [results, Tryz.results137, go_sem]) rfl ⟨rfl, ?_⟩
 refine Below.trans ?_ (Drw.below ⟨_, rfl⟩ _); exact ((((bR _ _).alloc (by simp) _).setCell (by simp) _).setCell (by simp) _).setCell (by simp) _
end Go.Proofs.YtpakkpahcpgnnaaGreatDoor.Wh
namespace Go.Proofs.YtpakkpahcpgnnaaGreatDoor.Wh
open Go.RowKit Go.Maps
def FlOk (F : Nat → Nat → List Tm) (fl : Nat → Nat) : Prop := ∀ k s, k < 8 → s < 64 → ((fl k).testBit s = true ↔ F k s ≠ [])
theorem FlOk.on {F : Nat → Nat → List Tm} {fl : Nat → Nat} (h : FlOk F fl) {k s : Nat} (ys : List Tm) (hy : ys ≠ []) : FlOk (upd2 F k s ys) (upd fl k (bitOn (fl k) s)) := by
 intro k' s' hk hs
 by_cases e : k' = k
 · subst e; rw [upd_same, bitOn_at]
   by_cases e2 : s' = s
   · subst e2; rw [upd2_same]; simp [hy]
   · rw [upd2_other _ (fun h9 => e2 h9.2), ← h k' s' hk hs]; have : ¬ s = s' := fun h9 => e2 h9.symm
     simp [this]
 · rw [upd_other _ e, upd2_other _ (fun h9 => e h9.1)]; exact h k' s' hk hs
theorem FlOk.off {F : Nat → Nat → List Tm} {fl : Nat → Nat} (h : FlOk F fl) {k s : Nat} (hs : s < 64) : FlOk (upd2 F k s []) (upd fl k (bitOff (fl k) s)) := by
 intro k' s' hk hs'
 by_cases e : k' = k
 · subst e; rw [upd_same, bitOff_at _ _ _ hs hs']
   by_cases e2 : s' = s
   · subst e2; rw [upd2_same]; simp
   · rw [upd2_other _ (fun h9 => e2 h9.2), ← h k' s' hk hs']; have : ¬ s = s' := fun h9 => e2 h9.symm
     simp [this]
 · rw [upd_other _ e, upd2_other _ (fun h9 => e h9.1)]; exact h k' s' hk hs'
theorem FlOk.same {F : Nat → Nat → List Tm} {fl : Nat → Nat} (h : FlOk F fl) {k s : Nat} (ys : List Tm) (hy : ys ≠ []) (hf : F k s ≠ []) : FlOk (upd2 F k s ys) fl := by
 intro k' s' hk hs
 by_cases e : k' = k ∧ s' = s
 · obtain ⟨rfl, rfl⟩ := e; rw [upd2_same, h k' s' hk hs]; simp [hy, hf]
 · rw [upd2_other _ e]; exact h k' s' hk hs
theorem FlOk.zero {F : Nat → Nat → List Tm} {fl : Nat → Nat} (h : FlOk F fl) {k : Nat} (hk : k < 8) (h0 : fl k = 0) (s : Nat) (hs : s < 64) : F k s = [] := by
 have h1 := h k s hk hs; rw [h0] at h1; simp at h1; exact h1
theorem FlOk.low {F : Nat → Nat → List Tm} {fl : Nat → Nat} (h : FlOk F fl) {k : Nat} (hk : k < 8) (hw : fl k < 18446744073709551616) (h0 : fl k ≠ 0) : lowB (fl k) < 64 ∧ F k (lowB (fl k)) ≠ [] ∧ ∀ s, s < lowB (fl k) → F k s = [] := by
 obtain ⟨h1, h2, h3⟩ := lowB_spec h0 hw; refine ⟨h1, (h k _ hk h1).1 h2, fun s hs => ?_⟩; have h4 := h k s hk (by omega); rw [h3 s hs] at h4; simp at h4; exact h4
def Wx (w : World) (p m N S : Nat) (F : Nat → Nat → List Tm) (K : List Int) (X : Int → Pl) (V : Nat → Nat → Value) : Prop := ∃ fl, Whl w p m N S F V fl K X ∧ FlOk F fl ∧ ¬ footW p m V 0
section
variable {w w' : World} {p m N S : Nat} {F : Nat → Nat → List Tm} {V : Nat → Nat → Value} {fl : Nat → Nat} {K : List Int} {X : Int → Pl}
theorem Stp.z {V' : Nat → Nat → Value} (h : Stp w w' p m V V') (hz : ¬ footW p m V 0) (hp : 0 < w.heap.size) : ¬ footW p m V' 0 := fun h1 => by
 rcases h.new 0 h1 with h2 | h2
 · exact hz h2
 · omega
theorem Stp.tab {V' : Nat → Nat → Value} (h : Stp w w' p m V V') (hz : ¬ footW p m V 0) (ht : TabZ w) : TabZ w' := fun j hj => by
 have h1 := ht j hj; exact (World.cell?_of_block (h.chg.block 0 (World.block_lt_of_cell? w _ h1) hz)).trans h1
theorem Wx.below (h : Wx w p m N S F K X V) (hb : Below w.heap.size w w') : Wx w' p m N S F K X V := by
 obtain ⟨fl, h1, h2⟩ := h; exact ⟨fl, h1.below hb, h2⟩
theorem Wx.lt (h : Wx w p m N S F K X V) {b : Nat} (hb : footW p m V b) : b < w.heap.size := by
 obtain ⟨fl, h1, h2⟩ := h; exact h1.lt hb
theorem Wx.chg {G : Nat → Prop} (h : Wx w p m N S F K X V) (hc : Chg G w w') (hG : ∀ b, footW p m V b → ¬ G b) : Wx w' p m N S F K X V := by
 obtain ⟨fl, h1, h2⟩ := h; exact ⟨fl, h1.chg hc hG, h2⟩
theorem OwnM.shape {B : Nat} {v : Value} {xs : List Tm} (h : OwnM w B v xs) : ∃ a c, v = .slice a xs.length c := by
 obtain ⟨a, c, h1, -⟩ := h.val; exact ⟨a, c, h1⟩
theorem OwnM.one {B : Nat} {v : Value} {xs : List Tm} (h : OwnM w B v xs) (hn : xs ≠ []) : ∃ g c, v = .slice (some ⟨g, 0, none⟩) xs.length c := by
 rcases h.2 with ⟨-, h0⟩ | ⟨g, cap, cur, e, -⟩
 · exact absurd (List.eq_nil_of_length_eq_zero h0) hn
 · exact ⟨g, cap, e⟩
theorem Stp.row {k s : Nat} (hk : k < 8) (hs : s < 64) {u : World} (hg : w.grownBy u (V k s).ownBlock) {v : Value} (hb : ∀ b, v.ownBlock = some b → (V k s).ownBlock = some b ∨ w.heap.size ≤ b) : Stp w u p m V (upd2 V k s v) := by
 refine ⟨Chg.of_grown hg (fun b e => .inr (.inr ⟨k, s, hk, hs, e⟩)), fun b hf => ?_⟩; rcases hf with h1 | h1 | ⟨k', s', hk', hs', e⟩
 · exact .inl (.inl h1)
 · exact .inl (.inr (.inl h1))
 · by_cases e2 : k' = k ∧ s' = s
   · obtain ⟨rfl, rfl⟩ := e2; rw [upd2_same] at e; rcases hb b e with h1 | h1
     · exact .inl (.inr (.inr ⟨k', s', hk', hs', h1⟩))
     · exact .inr h1
   · rw [upd2_other _ e2] at e; exact .inl (.inr (.inr ⟨k', s', hk', hs', e⟩))
theorem Stp.belowEnd {V' : Nat → Nat → Value} {B : Nat} {w'' : World} (h : Stp w w' p m V V') (hb : Below B w' w'') (hB : w.heap.size ≤ B) : Stp w w'' p m V V' :=
 ⟨h.chg.trans (G := fun b => B ≤ b) ⟨hb.os, hb.tape, hb.output, hb.size, fun k _ hn => hb.block k (Nat.lt_of_not_le hn)⟩ (fun b hb' => .inr (Nat.le_trans hB hb')), h.new⟩
theorem Wx.fewer (h : Wx w p m N S F K X V) {k s : Nat} (hk : k < 8) (hs : s < 64) : OwnM w 0 (V k s) (F k s) := by
 obtain ⟨fl, h1, -⟩ := h; exact h1.rows k s hk hs
theorem add_w (h : Wx w p m N S F K X V) (k s : Nat) (hk : k < 8) (hs : s < 64) (t : Tm) (hl : (F k s).length ≤ 4398046511104) :
 Calls Tryz.prog 158 #[.pointer (some ⟨p, 2 + 65 * k, none⟩), .int .i64 (s : Int), tma t] w fun e w' => e = .returned (.int .i64 ((F k s).length : Int)) ∧ ∃ V', Wx w' p m N S (upd2 F k s (F k s ++ [t])) K X V' ∧ Stp w w' p m V V' := by
 obtain ⟨fl, h1, h2, hz⟩ := h; have hpos := h1.lt (.inl rfl); obtain ⟨a, c, hv⟩ := (h1.rows k s hk hs).shape; have hne := h1.pV hk hs; have hr := h1.rows k s hk hs; have hc := h1.cV hk hs; rw [hv] at hne hr hc; refine Calls.mono (add_c p (2 + 65 * k) (fl k) s hs (h1.fw k hk) t (F k s) a _ c rfl hl w hr hne hc (h1.fz _) (h1.cF hk) (h1.fz _) (h1.lt (.inl rfl))) ?_; rintro e w' ⟨rfl, g, cap, u, hown, hg, hat, hd⟩; rw [← hv] at hg hat; have hb : ∀ b, (Value.slice (some ⟨g, 0, none⟩) ((F k s).length + 1) cap).ownBlock = some b → (V k s).ownBlock = some b ∨ w.heap.size ≤ b := fun b e => by cases e; exact hat
 have hst := (((Stp.row (p := p) (m := m) hk hs hg hb).set (2 + 65 * k + s) (.slice (some ⟨g, 0, none⟩) ((F k s).length + 1) cap)).set (2 + 65 * k + 64) (.int .u64 (bitOn (fl k) s : Int))).drw hd; exact ⟨rfl, _, ⟨_, ((h1.stV hk hs hg hown hb).stF hk _ (bitOn_lt hs (h1.fw k hk))).drw hd, h2.on _ (by simp), hst.z hz (by omega)⟩, hst⟩
def remL (xs : List Tm) (i : Nat) : List Tm := (xs.set i (xs.getD (xs.length - 1) ⟨0, 0, 0⟩)).take (xs.length - 1)
theorem remove_w (h : Wx w p m N S F K X V) (k s i : Nat) (hk : k < 8) (hs : s < 64) (hi : i < (F k s).length) :
 Calls Tryz.prog 137 #[.pointer (some ⟨p, 2 + 65 * k, none⟩), .int .i64 (s : Int), .int .i64 (i : Int)] w fun e w' => (∃ t, e = .returned (.tuple #[tma t, .bool (decide (i < (F k s).length - 1))]) ∧ (i < (F k s).length - 1 → t = (F k s).getD ((F k s).length - 1) ⟨0, 0, 0⟩)) ∧ ∃ V', Wx w' p m N S (upd2 F k s (remL (F k s) i)) K X V' ∧ Stp w w' p m V V' := by
 obtain ⟨fl, h1, h2, hz⟩ := h; have hpos := h1.lt (.inl rfl); have hne : F k s ≠ [] := fun e => by rw [e] at hi; exact absurd hi (Nat.not_lt_zero _)
 obtain ⟨g, c, hv⟩ := (h1.rows k s hk hs).one hne; have hgp := h1.pV hk hs; have hr := h1.rows k s hk hs; have hc := h1.cV hk hs; rw [hv] at hgp hr hc
 by_cases h3 : (F k s).length = 1
 · obtain rfl : i = 0 := by omega
   rw [h3] at hc; have e1 : remL (F k s) 0 = [] := by unfold remL; rw [h3]; rfl
   rw [e1, h3]; refine Calls.mono (remove_1 p (2 + 65 * k) (fl k) s g c hs (h1.fw k hk) w hc (h1.fz _) (h1.cF hk) (h1.fz _) (h1.lt (.inl rfl))) ?_; rintro e w' ⟨rfl, hb⟩; have hg : w.grownBy w (V k s).ownBlock := ⟨rfl, rfl, rfl, Nat.le_refl _, fun _ _ _ => rfl⟩; have hn0 : ∀ b, (Value.slice none 0 0).ownBlock = some b → (V k s).ownBlock = some b ∨ w.heap.size ≤ b := fun b e => by cases e
   have h5 := (h1.stV (ys := []) hk hs hg (World.ownsRow_nil _ _ _ _) hn0).stF hk _ (bitOff_lt (fl k) s); have hst := (((Stp.row (p := p) (m := m) hk hs hg hn0).set (2 + 65 * k + s) (.slice none 0 0)).set (2 + 65 * k + 64) (.int .u64 (bitOff (fl k) s : Int))).belowEnd hb (Nat.le_refl _); refine ⟨⟨_, rfl, fun h9 => absurd h9 (by omega)⟩, _, ⟨_, h5.kept (fun b hf => hb.block b ?_), h2.off hs, hst.z hz (by omega)⟩, hst⟩; have := h5.lt hf; simpa using this
 · obtain ⟨j, hj⟩ : ∃ j, (F k s).length = j + 1 := ⟨(F k s).length - 1, by omega⟩; rw [hj] at hc hr hi ⊢; simp only [Nat.add_sub_cancel]; have hgD : (F k s).getD j ⟨0, 0, 0⟩ = (F k s)[j]'(by omega) := by rw [List.getD_eq_getElem?_getD, List.getElem?_eq_getElem (by omega)]; rfl
   refine Calls.mono (remove_c p (2 + 65 * k) s i j g c hs (F k s) (by omega) (by omega) hj.symm w hr (fun e => hgp (by rw [e]; rfl)) hc (h1.fz _) (h1.lt (.inl rfl))) ?_; rintro e w' ⟨rfl, u, hown, hg, hb⟩; have hVo : (V k s).ownBlock = some g := by rw [hv]; rfl
   have hg' : w.grownBy u (V k s).ownBlock := by rw [hVo]; exact hg
   have hl9 : ((F k s).set i ((F k s)[j]'(by omega))).length = j + 1 := by rw [List.length_set, hj]
   have hown2 : OwnM u 0 (.slice (some ⟨g, 0, none⟩) j c) (((F k s).set i ((F k s)[j]'(by omega))).take j) := ownM_pre (by rw [hl9]; exact hown) (by rw [hl9]; omega); have e1 : remL (F k s) i = ((F k s).set i ((F k s)[j]'(by omega))).take j := by unfold remL; rw [← hgD, hj, Nat.add_sub_cancel]
   have hn0 : ∀ b, (Value.slice (some ⟨g, 0, none⟩) j c).ownBlock = some b → (V k s).ownBlock = some b ∨ w.heap.size ≤ b := fun b e => by cases e; exact .inl hVo
   have h5 := h1.stV hk hs hg' hown2 hn0; rw [e1]
   have hnn : ((F k s).set i ((F k s)[j]'(by omega))).take j ≠ [] := fun e => by
    have := congrArg List.length e; rw [List.length_take, hl9] at this; simp at this; omega
   have hst := ((Stp.row (p := p) (m := m) hk hs hg' hn0).set (2 + 65 * k + s) (.slice (some ⟨g, 0, none⟩) j c)).belowEnd hb (Nat.le_refl _); refine ⟨⟨_, rfl, fun _ => hgD.symm⟩, _, ⟨_, h5.kept (fun b hf => hb.block b ?_), h2.same _ hnn hne, hst.z hz (by omega)⟩, hst⟩
   · rcases hf with h9 | h9 | ⟨k', s', hk', hs', e⟩
     · rw [h9]; exact h1.lt (.inl rfl)
     · rw [h9]; exact h1.lt (.inr (.inl rfl))
     · by_cases e2 : k' = k ∧ s' = s
       · obtain ⟨rfl, rfl⟩ := e2; rw [upd2_same] at e; cases e; exact h1.lt (.inr (.inr ⟨_, _, hk, hs, hVo⟩))
       · rw [upd2_other _ e2] at e; exact h1.lt (.inr (.inr ⟨k', s', hk', hs', e⟩))
end
end Go.Proofs.YtpakkpahcpgnnaaGreatDoor.Wh
namespace Go.Proofs.YtpakkpahcpgnnaaGreatDoor.Wh
open Go.RowKit Go.Maps
section
variable {w w' : World} {p m N S : Nat} {F : Nat → Nat → List Tm} {V : Nat → Nat → Value} {fl : Nat → Nat} {K : List Int} {X : Int → Pl}
theorem first_w (h : Wx w p m N S F K X V) (k q : Nat) (hk : k < 8) (hq : q = 2 + 65 * k) (ht : TabZ w) :
 Calls Tryz.prog 159 #[.pointer (some ⟨p, q, none⟩)] w fun e w' => (∃ j b, e = .returned (.tuple #[.int .i64 ((j : Nat) : Int), .bool b]) ∧ ((b = false ∧ ∀ s, s < 64 → F k s = []) ∨ (b = true ∧ j < 64 ∧ F k j ≠ [] ∧ ∀ s, s < j → F k s = []))) ∧ Drw w w' := by
 subst hq; obtain ⟨fl, h1, h2, hz⟩ := h; refine Calls.mono (first_t p (2 + 65 * k) (fl k) (h1.fw k hk) w (h1.cF hk) ht) ?_; rintro e w' ⟨rfl, hd⟩; refine ⟨⟨_, _, rfl, ?_⟩, hd⟩
 by_cases h0 : fl k = 0
 · exact .inl ⟨by simp [h0], h2.zero hk h0⟩
 · exact .inr ⟨by simp [h0], h2.low hk (h1.fw k hk) h0⟩
theorem empty_w (h : Wx w p m N S F K X V) (k s q : Nat) (hk : k < 8) (hs : s < 64) (hq : q = 2 + 65 * k) :
 Calls Tryz.prog 160 #[.pointer (some ⟨p, q, none⟩), .int .i64 (s : Int)] w fun e w' => e = .returned (.tuple #[]) ∧ Wx w' p m N S (upd2 F k s []) K X (upd2 V k s (.slice none 0 0)) ∧ Stp w w' p m V (upd2 V k s (.slice none 0 0)) ∧ w.grownBy w' (some p) := by
 subst hq; obtain ⟨fl, h1, h2, hz⟩ := h; have hpos := h1.lt (.inl rfl); refine Calls.mono (empty_t p (2 + 65 * k) (fl k) s hs (h1.fw k hk) _ w (h1.cV hk hs) (h1.fz _) (h1.cF hk) (h1.fz _)) ?_; rintro e w' ⟨rfl, hd⟩; have hg : w.grownBy w (V k s).ownBlock := ⟨rfl, rfl, rfl, Nat.le_refl _, fun _ _ _ => rfl⟩; have hn0 : ∀ b, (Value.slice none 0 0).ownBlock = some b → (V k s).ownBlock = some b ∨ w.heap.size ≤ b := fun b e => by cases e
 have hst := (((Stp.row (p := p) (m := m) hk hs hg hn0).set (2 + 65 * k + s) (.slice none 0 0)).set (2 + 65 * k + 64) (.int .u64 (bitOff (fl k) s : Int))).drw hd; refine ⟨rfl, ⟨_, ((h1.stV (ys := []) hk hs hg (World.ownsRow_nil _ _ _ _) hn0).stF hk _ (bitOff_lt (fl k) s)).drw hd, h2.off hs, hst.z hz (by omega)⟩, hst, ?_⟩; obtain ⟨n, rfl⟩ := hd; have h9 := (gset1 w p (2 + 65 * k + s) (.slice none 0 0)).trans' (gset1 _ p (2 + 65 * k + 64) (.int .u64 (bitOff (fl k) s : Int))); exact ⟨h9.os, h9.tape, h9.output, h9.size, h9.block⟩
end
def takF (F : Nat → Nat → List Tm) (k r : Nat) : Nat → Nat → List Tm := fun k' s' => if k' = k ∧ s' < r then [] else F k' s'
def catF (F : Nat → Nat → List Tm) (k r : Nat) : List Tm := (List.range r).flatMap (F k)
theorem takF_zero (F : Nat → Nat → List Tm) (k : Nat) : takF F k 0 = F := by funext k' s'; simp [takF]
theorem takF_at {F : Nat → Nat → List Tm} {k r s : Nat} (h : r ≤ s) : takF F k r k s = F k s := by unfold takF; rw [if_neg (by omega)]
theorem takF_in {F : Nat → Nat → List Tm} {k r s : Nat} (h : s < r) : takF F k r k s = [] := by unfold takF; rw [if_pos ⟨rfl, h⟩]
theorem takF_step (F : Nat → Nat → List Tm) (k r : Nat) : upd2 (takF F k r) k r [] = takF F k (r + 1) := by
 funext k' s'
 unfold upd2 takF
 by_cases h1 : k' = k
 · subst h1
   by_cases h2 : s' = r
   · subst h2; simp
   · by_cases h3 : s' < r
     · simp [h3, h2, show s' < r + 1 by omega]
     · simp [h3, h2, show ¬ s' < r + 1 by omega]
 · simp [h1]
theorem takF_skip {F : Nat → Nat → List Tm} {k r r' : Nat} (hr : r ≤ r') (h : ∀ s, r ≤ s → s < r' → F k s = []) : takF F k r = takF F k r' := by
 funext k' s'
 unfold takF
 by_cases h1 : k' = k
 · subst h1
   by_cases h2 : s' < r
   · simp [h2, show s' < r' by omega]
   · by_cases h3 : s' < r'
     · simp [h2, h3, h s' (by omega) h3]
     · simp [h2, h3]
 · simp [h1]
theorem catF_step (F : Nat → Nat → List Tm) (k r : Nat) : catF F k (r + 1) = catF F k r ++ F k r := by
 unfold catF; rw [List.range_succ, List.flatMap_append]; simp
theorem catF_skip {F : Nat → Nat → List Tm} {k r r' : Nat} (hr : r ≤ r') (h : ∀ s, r ≤ s → s < r' → F k s = []) : catF F k r = catF F k r' := by
 obtain ⟨d, rfl⟩ := Nat.exists_eq_add_of_le hr
 induction d with
 | zero => rfl
 | succ d ih =>
  rw [← Nat.add_assoc, catF_step, ← ih (by omega) (fun s h1 h2 => h s h1 (by omega)), h (r + d) (by omega) (by omega), List.append_nil]
theorem catF_le (F : Nat → Nat → List Tm) (k : Nat) {r r' : Nat} (hr : r ≤ r') : (catF F k r).length ≤ (catF F k r').length := by
 obtain ⟨d, rfl⟩ := Nat.exists_eq_add_of_le hr
 induction d with
 | zero => exact Nat.le_refl _
 | succ d ih =>
  rw [← Nat.add_assoc, catF_step, List.length_append]; have := ih (by omega); omega
theorem foot_upd {p m : Nat} {V : Nat → Nat → Value} {k s b : Nat} (h : footW p m (upd2 V k s (.slice none 0 0)) b) : footW p m V b := by
 rcases h with h | h | ⟨k', s', hk, hs, e⟩
 · exact .inl h
 · exact .inr (.inl h)
 · by_cases e2 : k' = k ∧ s' = s
   · rw [e2.1, e2.2, upd2_same] at e; cases e
   · rw [upd2_other _ e2] at e; exact .inr (.inr ⟨k', s', hk, hs, e⟩)
section
variable {w w' : World} {p m N S : Nat} {F : Nat → Nat → List Tm} {V : Nat → Nat → Value} {fl : Nat → Nat} {K : List Int} {X : Int → Pl}
set_option maxRecDepth 20000 in
set_option maxHeartbeats 1600000 in
theorem take_w (h : Wx w p m N S F K X V) (k last q : Nat) (hk : k < 8) (hl : last < 64) (hq : q = 2 + 65 * k) (ht : TabZ w) (hb : (catF F k 64).length ≤ 4398046511104) :
 Calls Tryz.prog 123 #[.pointer (some ⟨p, q, none⟩), .int .i64 (last : Int)] w fun e w' => ∃ v V', e = .returned v ∧ OwnM w' w.heap.size v (catF F k (last + 1)) ∧ Wx w' p m N S (takF F k (last + 1)) K X V' ∧ Stp w w' p m V V' ∧ ∀ b, footW p m V' b → footW p m V b := by
 have HX : Hid _ := h; have HT : Hid _ := ht; have HQ : Hid _ := hq; have HB : Hid _ := hb; clear h ht hq hb; go_enter Tryz.func123, Tryz.ntmps123
 go_wp2_with (go_at_call 159; refine Calls.mono (first_w HX.out k q hk HQ.out HT.out) ?_; rintro e w1 ⟨⟨j1, b1, rfl, h1⟩, hd1⟩)
 go_loopw [4, 5, 6] (fun v sl so wr => ∃ r V' j b, sl = .int .i64 ((j : Nat) : Int) ∧ so = .bool b ∧ Wx wr p m N S (takF F k r) K X V' ∧ Stp w wr p m V V' ∧ (∀ b, footW p m V' b → footW p m V b) ∧ OwnM wr w.heap.size v (catF F k r) ∧ r ≤ last + 1 ∧ ((b = false ∧ ∀ s, s < 64 → r ≤ s → F k s = []) ∨ (b = true ∧ r ≤ j ∧ j < 64 ∧ F k j ≠ [] ∧ ∀ s, r ≤ s → s < j → F k s = []))) (fun _ sl so _ => match so with | .bool true => 64 - (intOf sl).toNat | _ => 0)
 case atStart =>
  obtain ⟨n1, rfl⟩ := hd1; refine ⟨0, V, j1, b1, rfl, rfl, ?_, Stp.below (Drw.below ⟨n1, rfl⟩ _) _ _ _, fun _ h9 => h9, World.ownsRow_nil _ _ _ _, Nat.zero_le _, ?_⟩
  · rw [takF_zero]; exact Wx.below HX.out (Drw.below ⟨n1, rfl⟩ _)
  · rcases h1 with ⟨h2, h3⟩ | ⟨h2, h3, h4, h5⟩
    · exact .inl ⟨h2, fun s h9 _ => h3 s h9⟩
    · exact .inr ⟨h2, Nat.zero_le _, h3, h4, fun s _ h9 => h5 s h9⟩
 case round =>
  obtain ⟨r, V', j, b, rfl, rfl, hx, hst, hsub, hown, hr, hcs⟩ := hrel; rcases hcs with ⟨rfl, hz⟩ | ⟨rfl, hrj, hj, hne, hmid⟩
  · have HZ : Hid _ := hz; clear hz; go_wp2; go_ret; have h9 : ∀ s, r ≤ s → s < last + 1 → F k s = [] := fun s h7 h8 => HZ.out s (by omega) h7
    refine ⟨_, V', rfl, ?_, ?_, hst, hsub⟩
    · rw [← catF_skip hr h9]; exact hown
    · rw [← takF_skip hr h9]; exact hx
  · by_cases hjl : j ≤ last
    · have hrow := hx.fewer hk hj; rw [takF_at hrj] at hrow; obtain ⟨a, c, hv, hc1, hnil, hrd⟩ := hrow.val; obtain ⟨n, hn⟩ : ∃ n, n = (F k j).length := ⟨_, rfl⟩
      have hcv : wr.cell? ⟨p, q + j, none⟩ = some (.slice a n c) := by
       obtain ⟨fl, h7, -⟩ := hx; rw [HQ.out, hn, ← hv]; exact h7.cV hk hj
      have hcat : catF F k r = catF F k j := catF_skip hrj hmid; have htak : takF F k r = takF F k j := takF_skip hrj hmid
      have hle : (catF F k r).length + n ≤ 4398046511104 := by
       have h8 := catF_le F k (show j + 1 ≤ 64 by omega); rw [catF_step, List.length_append, ← hcat, ← hn] at h8; have := HB.out; omega
      have hsz : w.heap.size ≤ wr.heap.size := hst.chg.size; have HN : Hid _ := hn; have HV : Hid _ := hv; have HRD : Hid _ := hrd; have HNL : Hid _ := hnil; have HX1 : Hid _ := hx; have HST : Hid _ := hst; have HSB : Hid _ := hsub; have HOW : Hid _ := hown; have HMD : Hid _ := And.intro hrj (And.intro hne (And.intro hmid (And.intro hcat htak))); clear hn hv hrd hnil hx hst hsub hown hrow hne hmid hcat htak hrj
      go_wp2_with (first
        | (at_builtin; refine wp_appM rfl _ _ rfl w.heap.size _ (catF F k r) (F k j) n a c HN.out rfl HOW.out rfl HRD.out HNL.out hle hsz ?_; intro v2 w2 hown2 hg2; have HO2 : Hid _ := hown2; have HG2 : Hid _ := hg2; have HX2 : Hid (Wx w2 p m N S (takF F k r) K X V') := Wx.chg (G := fun b => w.heap.size ≤ b) HX1.out (Chg.of_grown hg2 (fun b e => (World.ownsRow.lt HOW.out b e).1)) (fun b hf h9 => by have := Wx.lt HX.out (HSB.out b hf); omega); clear hown2 hg2)
        | (go_at_call 160; refine Calls.mono (empty_w HX2.out k j q hk hj HQ.out) ?_; rintro e w3 ⟨rfl, hx3, hst3, hg3⟩; have hst03 : Stp w w3 p m V (upd2 V' k j (.slice none 0 0)) := (HST.out.belowEnd ((bR _ _).grown HG2.out hsz (fun b e => (World.ownsRow.lt HOW.out b e).1)) (Nat.le_refl _)).trans hst3; have HT3 : Hid (TabZ w3) := hst03.tab (by obtain ⟨_, _, _, h9⟩ := HX.out; exact h9) HT.out; have HX3 : Hid _ := hx3; have HS3 : Hid _ := hst03; have HG3 : Hid _ := hg3; clear hx3 hst3 hg3 hst03)
        | (go_at_call 159; refine Calls.mono (first_w HX3.out k q hk HQ.out HT3.out) ?_; rintro e w4 ⟨⟨j4, b4, rfl, h4⟩, hd4⟩))
      obtain ⟨n4, rfl⟩ := hd4; obtain ⟨hrj, hne, hmid, hcat, htak⟩ := HMD.out; have hx3 := HX3.out; rw [htak, takF_step] at hx3 h4
      have h5 : (b4 = false ∧ ∀ s, s < 64 → j + 1 ≤ s → F k s = []) ∨ (b4 = true ∧ j + 1 ≤ j4 ∧ j4 < 64 ∧ F k j4 ≠ [] ∧ ∀ s, j + 1 ≤ s → s < j4 → F k s = []) := by
       rcases h4 with ⟨h2, h3⟩ | ⟨h2, h3, h4, h5⟩
       · exact .inl ⟨h2, fun s h9 h8 => by rw [← takF_at (F := F) (k := k) h8]; exact h3 s h9⟩
       · have h6 : j + 1 ≤ j4 := by
          apply Classical.byContradiction; intro h9; exact h4 (takF_in (by omega))
         rw [takF_at h6] at h4; exact .inr ⟨h2, h6, h3, h4, fun s h9 h8 => by rw [← takF_at (F := F) (k := k) h9]; exact h5 s h8⟩
      go_roundw
      case rel =>
       refine ⟨j + 1, upd2 V' k j (.slice none 0 0), j4, b4, rfl, rfl, Wx.below hx3 (Drw.below ⟨n4, rfl⟩ _), HS3.out.drw ⟨n4, rfl⟩, fun b h9 => HSB.out b (foot_upd h9), ?_, by omega, h5⟩; rw [catF_step, ← hcat]; refine rowM_kept HO2.out (fun b hb => ?_); refine HG3.out.block b (World.ownsRow.lt HO2.out b hb).2 (fun e => ?_); have h7 := (World.ownsRow.lt HO2.out b hb).1; have h8 := Wx.lt HX.out (.inl rfl : footW p m V p); cases e; omega
      case measure =>
       rcases h5 with ⟨rfl, -⟩ | ⟨rfl, h7, h8, -⟩
       · simp [intOf]; omega
       · simp [intOf]; omega
    · have HMD : Hid _ := And.intro hrj hmid; clear hrj hmid hne; go_wp2; go_ret; have h9 : ∀ s, r ≤ s → s < last + 1 → F k s = [] := fun s h7 h8 => HMD.out.2 s h7 (by omega)
      refine ⟨_, V', rfl, ?_, ?_, hst, hsub⟩
      · rw [← catF_skip hr h9]; exact hown
      · rw [← takF_skip hr h9]; exact hx
end
end Go.Proofs.YtpakkpahcpgnnaaGreatDoor.Wh
namespace Go.Proofs.YtpakkpahcpgnnaaGreatDoor.Wh
open Go.RowKit Go.Maps
def insK (K : List Int) (z : Int) : List Int := if z ∈ K then K else K ++ [z]
def updI (X : Int → Pl) (z : Int) (x : Pl) : Int → Pl := fun y => if y = z then x else X y
theorem updI_same (X : Int → Pl) (z : Int) (x : Pl) : updI X z x z = x := by simp [updI]
theorem updI_other (X : Int → Pl) {z y : Int} (h : y ≠ z) (x : Pl) : updI X z x y = X y := by simp [updI, h]
theorem insK_mem {K : List Int} {z y : Int} : y ∈ insK K z ↔ y ∈ K ∨ y = z := by
 unfold insK
 by_cases h : z ∈ K
 · rw [if_pos h]; exact ⟨.inl, fun h1 => h1.elim id (fun e => e ▸ h)⟩
 · rw [if_neg h]; simp
theorem filt_len {K : List Int} (h : K.Nodup) (z : Int) : (K.filter (fun y => decide (y ≠ z))).length + (if z ∈ K then 1 else 0) = K.length := by
 induction K with
 | nil => rfl
 | cons a K ih =>
  obtain ⟨h1, h2⟩ := List.nodup_cons.1 h; have h3 := ih h2
  by_cases e : a = z
  · subst e; rw [if_neg h1] at h3; rw [List.filter_cons_of_neg (by simp), if_pos (by simp)]; simp only [List.length_cons]; omega
  · rw [List.filter_cons_of_pos (by simpa using e)]
    have h4 : (z ∈ a :: K) ↔ z ∈ K := by
     rw [List.mem_cons]; exact ⟨fun h => h.resolve_left (fun e9 => e e9.symm), .inr⟩
    simp only [List.length_cons, h4]; omega
theorem ownsMap_tight {w : World} {m n : Nat} {D : DataW Value} (h : w.ownsMap Tryz.prog 3 selfR m n D) {n' : Nat} (hn : Maps.size D ≤ n') : w.ownsMap Tryz.prog 3 selfR m n' D := by
 obtain ⟨es, cl, h1, h2, h3, h4⟩ := h; refine ⟨es, cl, h1, h2, ?_, h4⟩; rw [h4] at hn
 simpa [Maps.size, length_sorted] using hn
theorem MapW.put {w : World} {m : Nat} {K : List Int} {X : Int → Pl} (h : MapW w m K X) {z : Int} (hz : inI z) (x : Pl) (hK : K.length ≤ 4398046511104) :
 ∃ w', (Instr.mapUpdate tMp (.map (some m)) (.int .i64 z) (plv x)).run Tryz.prog w = .ok () w' ∧ MapW w' m (insK K z) (updI X z x) ∧ w.grownBy w' (some m) := by
 obtain ⟨D, h1, h2, h3, h4⟩ := h.own; obtain ⟨w', hr, h5, h6⟩ := h1.store keyI Tryz.underlying131 (by simp only [maxLen]; omega) (kI_of hz) (show selfR (plv x) = some (.held (plv x), []) from rfl); have hsz := Maps.size_put (k := kI z) (h1.tidy keyI) (.held (plv x))
 have hhas : Maps.has D (kI z) = decide (z ∈ K) := by
  have := h3 z hz
  by_cases h9 : z ∈ K
  · simp [h9, this.2 h9]
  · cases h8 : Maps.has D (kI z)
    · simp [h9]
    · exact absurd (this.1 h8) h9
 have hlen : Maps.size (D.put (kI z) (.held (plv x))) = (insK K z).length := by
  rw [hsz, hhas, h2]; unfold insK
  by_cases h9 : z ∈ K
  · simp [h9]
  · simp [h9]
 refine ⟨w', hr, ⟨⟨_, ownsMap_tight h5 (Nat.le_of_eq hlen), hlen, fun y hy => ?_, fun y hy v => ?_⟩, ?_, fun y hy => ?_⟩, h6.grown⟩
 · rw [insK_mem]
   by_cases e : y = z
   · subst e; rw [has_put_same h1.isMap (kI_key hz)]; simp
   · rw [has_put_other (kI_ne e), h3 y hy]; simp [e]
 · by_cases e : y = z
   · subst e; rw [atKey_put_same h1.isMap (kI_key hz), updI_same]
   · rw [atKey_put_other (kI_ne e), updI_other _ e]; exact h4 y ((insK_mem.1 hy).resolve_right e) v
 · unfold insK
   by_cases h9 : z ∈ K
   · rw [if_pos h9]; exact h.nd
   · rw [if_neg h9]; refine List.nodup_append.2 ⟨h.nd, by simp, ?_⟩; intro a ha b hb e; simp at hb; subst hb e; exact h9 ha
 · rcases insK_mem.1 hy with h9 | h9
   · exact h.rg y h9
   · rw [h9]; exact hz
theorem MapW.del {w : World} {m : Nat} {K : List Int} {X : Int → Pl} (h : MapW w m K X) {z : Int} (hz : inI z) (ty : TypeId) :
 ∃ w', (Builtin.delete_ #[tMp, 3] ty #[.map (some m), .int .i64 z]).run Tryz.prog w = .ok (.tuple #[]) w' ∧ MapW w' m (K.filter (fun y => decide (y ≠ z))) X ∧ w.grownBy w' (some m) := by
 obtain ⟨D, h1, h2, h3, h4⟩ := h.own; obtain ⟨w', hr, h5, h6⟩ := h1.drop keyI Tryz.underlying131 (kI_of hz) ty; have hsz := Maps.size_del (k := kI z) (h1.tidy keyI)
 have hhas : Maps.has D (kI z) = decide (z ∈ K) := by
  have := h3 z hz
  by_cases h9 : z ∈ K
  · simp [h9, this.2 h9]
  · cases h8 : Maps.has D (kI z)
    · simp [h9]
    · exact absurd (this.1 h8) h9
 have hlen : Maps.size (D.del (kI z)) = (K.filter (fun y => decide (y ≠ z))).length := by
  rw [hhas, h2] at hsz; have h7 := filt_len h.nd z
  by_cases h9 : z ∈ K
  · simp only [h9, decide_true, if_true] at hsz h7; omega
  · simp only [h9, decide_false, if_false] at hsz h7; simp at hsz; omega
 refine ⟨w', hr, ⟨⟨_, ownsMap_tight h5 (Nat.le_of_eq hlen), hlen, fun y hy => ?_, fun y hy v => ?_⟩, h.nd.filter _, fun y hy => h.rg y (List.mem_filter.1 hy).1⟩, h6.grown⟩
 · by_cases e : y = z
   · subst e; rw [has_del_same]; simp
   · rw [has_del_other (kI_ne e), h3 y hy]; simp [e]
 · obtain ⟨h8, h9⟩ := List.mem_filter.1 hy; have e : y ≠ z := by simpa using h9
   rw [atKey_del_other (kI_ne e)]; exact h4 y h8 v
end Go.Proofs.YtpakkpahcpgnnaaGreatDoor.Wh
