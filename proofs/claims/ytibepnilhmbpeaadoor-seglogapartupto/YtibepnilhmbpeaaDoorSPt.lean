import Derived.Test.YtibepnilhmbpeaaDoorLfsr
import Derived.Test.YtibepnilhmbpeaaDoorHelp
import Derived.Deep.CutRange
import Derived.Laws.Bits64b
import Derived.Laws.CopyOwn
import Derived.Laws.OwnMore
import Derived.OwnWalk
import Derived.Lib.AppendZeros
import Derived.Lib.SmallJoins
import Derived.Laws.Tables
namespace Go.Proofs.YtibepnilhmbpeaaDoor
set_option linter.unusedVariables false
set_option linter.unusedSimpArgs false
open Go.RowKit
/-- the seal: the sum's four bytes, the lowest first -/
def sealL (xs : List UInt8) : List UInt8 := [UInt8.ofNat (crcS xs % 256), UInt8.ofNat (crcS xs / 256 % 256), UInt8.ofNat (crcS xs / 65536 % 256), UInt8.ofNat (crcS xs / 16777216 % 256)]
theorem crc_any' (ao : Option Addr) (cap : Nat) (xs : List UInt8) (w : World) (hx : Rd w ao xs) (hl : xs.length ≤ 140737488355328) (ht : TabOk w) :
    Calls Tryd.prog 84 #[.slice ao xs.length cap] w fun e w' => e = .returned (.int .u32 (crcS xs : Nat)) ∧ w' = w := by
  rw [← crcS_eq]
  exact crc_any ao cap xs w hx hl ht
theorem u8_of (m : Nat) (h : m < 256) : ((UInt8.ofNat m).toNat : Int) = (m : Int) := by rw [UInt8.toNat_ofNat']; omega
theorem bv_seal (xs : List UInt8) : bv (sealL xs) = [.int .u8 ((crcS xs : Int) % 256), .int .u8 ((crcS xs : Int) / 256 % 256), .int .u8 ((crcS xs : Int) / 65536 % 256), .int .u8 ((crcS xs : Int) / 16777216)] := by
  have hc := crcS_lt xs
  unfold bv sealL
  simp only [List.map_cons, List.map_nil]
  rw [u8_of _ (by omega), u8_of _ (by omega), u8_of _ (by omega), u8_of _ (by omega)]
  rw [show crcS xs / 16777216 % 256 = crcS xs / 16777216 from by omega]
  simp
theorem own_lit (w : World) (C : Array Value) (xs : List UInt8) (h : C.toList = bv xs) (hl : xs.length ≤ maxLen) : Own (w.alloc (.cells C 5)) w.heap.size (.slice (some ⟨w.heap.size, 0, none⟩) xs.length xs.length) xs := by
  have hs : C.size = xs.length := by rw [← Array.length_toList, h, bv_length]
  have h1 := World.ownsRow_lit (base := w.heap.size) (e := 5) (size := 1) w C xs.length (Nat.le_refl _) hl (by omega)
  rw [h] at h1
  exact h1
set_option maxRecDepth 20000 in
set_option maxHeartbeats 400000 in
theorem sealOf_any (ao : Option Addr) (cap : Nat) (xs : List UInt8) (w : World) (hx : Rd w ao xs) (hl : xs.length ≤ 140737488355328) (ht : TabOk w) :
    Calls Tryd.prog 82 #[.slice ao xs.length cap] w fun e w' => e = .returned (.slice (some ⟨w.heap.size, 0, none⟩) 4 4) ∧ Own w' w.heap.size (.slice (some ⟨w.heap.size, 0, none⟩) 4 4) (sealL xs) ∧ Below w.heap.size w w' ∧ w.heap.size < w'.heap.size := by
  go_enter Tryd.func82, Tryd.ntmps82
  go_wp2_with fail
  refine (crc_any' ao cap xs w hx hl ht).mono ?_
  rintro e w1 ⟨rfl, hw⟩
  subst hw
  have hc := crcS_lt xs
  go_wp2
  go_ret
  exact ⟨rfl, own_lit w1 _ (sealL xs) (by rw [bv_seal]) (by simp [sealL, maxLen]), (Below.refl _ _).alloc (Nat.le_refl _) _, by simp⟩

set_option maxRecDepth 20000 in
set_option maxHeartbeats 400000 in
theorem seal_any (ao : Option Addr) (cap : Nat) (xs : List UInt8) (w : World) (hx : Rd w ao xs) (hnil : ao = none → cap = 0) (hl : xs.length + 4 ≤ 140737488355328) (ht : TabOk w) :
    Calls Tryd.prog 80 #[.slice ao xs.length cap] w fun e w' => ∃ v, e = .returned v ∧ Own w' w.heap.size v (xs ++ sealL xs) ∧ Below w.heap.size w w' := by
  have HN : Hid (ao = none → cap = 0) := hnil
  clear hnil
  go_enter Tryd.func80, Tryd.ntmps80
  go_wp2_with fail
  refine (sealOf_any ao cap xs w hx (by omega) ht).mono ?_
  rintro e w1 ⟨rfl, hown1, hb1, hs1⟩
  obtain ⟨aq, cq, hv, -, -, -, hr1, -⟩ := hown1.val
  simp only [Value.slice.injEq] at hv
  rw [← hv.1] at hr1
  clear hv
  go_wp2_with fail
  refine (concat_any w1.heap.size 0 2 [⟨ao, cap, xs⟩, ⟨some ⟨w.heap.size, 0, none⟩, 4, sealL xs⟩] _ (by simp) (cells2 (by simp [Part.v]) (by simp [Part.v, sealL]) ⟨(hx.below hb1).alloc _, HN.out⟩ ⟨hr1.alloc _, fun h => by cases h⟩) (by rw [catL2, List.length_append]; simp only [sealL, List.length_cons, List.length_nil]; omega)).mono ?_
  rintro e w2 ⟨v, rfl, hown, hb2⟩
  go_wp2
  go_ret
  rw [catL2] at hown
  have hz : w.heap.size ≤ (w1.alloc (.cells #[.slice ao xs.length cap, .slice (some ⟨w.heap.size, 0, none⟩) 4 4] 27)).heap.size := by simp; omega
  exact ⟨v, rfl, hown.base hz, (hb1.alloc (by omega) _).trans (hb2.mono hz)⟩

theorem seal_n (ao : Option Addr) (n cap : Nat) (xs : List UInt8) (hn : n = xs.length) (w : World) (hx : Rd w ao xs) (hnil : ao = none → cap = 0) (hl : n + 4 ≤ 140737488355328) (ht : TabOk w) :
    Calls Tryd.prog 80 #[.slice ao n cap] w fun e w' => ∃ v, e = .returned v ∧ Own w' w.heap.size v (xs ++ sealL xs) ∧ Below w.heap.size w w' := by subst hn; exact seal_any ao cap xs w hx hnil hl ht
theorem Rd.of_own {w : World} {B : Nat} {ao : Option Addr} {n cap : Nat} {xs : List UInt8} (h : Own w B (.slice ao n cap) xs) : Rd w ao xs := by
  obtain ⟨a, c, hv, -, -, -, hr, -⟩ := h.val
  simp only [Value.slice.injEq] at hv
  rw [hv.1]
  exact hr
end Go.Proofs.YtibepnilhmbpeaaDoor
namespace Go.Proofs.YtibepnilhmbpeaaDoor
set_option linter.unusedVariables false
set_option linter.unusedSimpArgs false
open Go.RowKit
theorem alS {w w1 : World} (h : Below w.heap.size w w1) (o : Obj) : Below w.heap.size w (w1.alloc o) := h.alloc h.size o
/-- a number in so many bytes, the lowest first -/
def layL : Nat → Nat → List UInt8
  | _, 0 => []
  | n, k + 1 => UInt8.ofNat n :: layL (n / 256) k
theorem layL_len : ∀ (k n : Nat), (layL n k).length = k
  | 0, _ => rfl
  | k + 1, n => by simp [layL, layL_len k]
theorem layL_snoc : ∀ (k n : Nat), layL n (k + 1) = layL n k ++ [UInt8.ofNat (n / 256 ^ k)]
  | 0, n => by simp [layL]
  | k + 1, n => by
    rw [layL, layL_snoc k (n / 256), layL, List.cons_append, Nat.div_div_eq_div_mul, Nat.pow_succ, Nat.mul_comm]
/-- the number of such bytes -/
def lowS : List UInt8 → Nat
  | [] => 0
  | x :: r => x.toNat + 256 * lowS r
theorem lowS_lt : ∀ xs : List UInt8, lowS xs < 256 ^ xs.length
  | [] => by simp [lowS]
  | x :: r => by
    have h1 := lowS_lt r
    have h2 : x.toNat < 256 := x.toNat_lt
    simp only [lowS, List.length_cons, Nat.pow_succ]
    omega
theorem lowS_snoc : ∀ (xs : List UInt8) (x : UInt8), lowS (xs ++ [x]) = lowS xs + x.toNat * 256 ^ xs.length
  | [], x => by simp [lowS]
  | y :: r, x => by
    simp only [List.cons_append, lowS, lowS_snoc r x, List.length_cons, Nat.pow_succ]
    rw [Nat.mul_add, Nat.add_assoc]
    congr 2
    rw [← Nat.mul_assoc, Nat.mul_comm 256 x.toNat, Nat.mul_assoc, Nat.mul_comm 256]
theorem low_lay : ∀ (k n : Nat), n < 256 ^ k → lowS (layL n k) = n
  | 0, n, h => by simp at h; subst h; rfl
  | k + 1, n, h => by
    have h9 : n / 256 < 256 ^ k := by rw [Nat.pow_succ] at h; omega
    simp only [layL, lowS, low_lay k (n / 256) h9, UInt8.toNat_ofNat']
    omega
theorem rdB_one {w : World} {N m : Nat} (hN : w.heap[N]? = some (.cells #[.int .u8 ((m : Int) % 256)] 5 (0, 0))) : Rd w (some ⟨N, 0, none⟩) [UInt8.ofNat m] := fun _ => ⟨N, 0, rfl, fun i hi => by
  obtain rfl : i = 0 := by simp at hi; exact hi
  rw [cell_of_row _ _ _ _ _ _ hN]
  simp⟩
theorem or_low (a c k : Nat) (ha : a < 256 ^ k) (hc : c < 256) (hk : k < 8) : bits BinOp.or IntKind.u64 (a : Int) (IntKind.u64.wrap ((c : Int) * 2 ^ (8 * k))) = ((a + c * 256 ^ k : Nat) : Int) := by
  have e1 : (256 : Nat) ^ k = 2 ^ (8 * k) := by rw [Nat.pow_mul]
  have hp : 256 ^ k ≤ 256 ^ 7 := Nat.pow_le_pow_right (by decide) (by omega)
  have h7 : (256 : Nat) ^ 7 = 72057594037927936 := by decide
  have hcb : c * 256 ^ k < 18446744073709551616 := by
    have h9 : c * 256 ^ k ≤ 255 * 256 ^ 7 := Nat.mul_le_mul (by omega) hp
    omega
  have e2 : (c : Int) * 2 ^ (8 * k) = ((c * 256 ^ k : Nat) : Int) := by rw [e1]; push_cast; rfl
  rw [e2]
  have e3 : IntKind.u64.wrap ((c * 256 ^ k : Nat) : Int) = ((c * 256 ^ k : Nat) : Int) := by rw [IntKind.wrap_u64]; omega
  rw [e3, bits_or_u64_nat a (c * 256 ^ k) (by omega) hcb]
  congr 1
  rw [e1] at ha ⊢
  rw [Nat.mul_comm c, Nat.or_comm, ← Nat.two_pow_add_eq_or_of_lt ha, Nat.add_comm]
section
set_option maxRecDepth 20000
set_option maxHeartbeats 3200000
theorem slay_t (B : Nat) (v : Value) (xs : List UInt8) (n size : Nat) (w : World) (hown : Own w B v xs) (hn : n < 18446744073709551616) (hs : size ≤ 8) (hl : xs.length ≤ 100000) (hB : B ≤ w.heap.size) :
    Calls Tryd.prog 77 #[v, .int .u64 (n : Int), .int .i64 (size : Int)] w fun e w' => ∃ v', e = .returned v' ∧ Own w' B v' (xs ++ layL n size) ∧ Below B w w' := by
  have HO : Hid (Own w B v xs) := hown
  have HB : Hid (B ≤ w.heap.size) := hB
  clear hown hB
  go_enter Tryd.func77, Tryd.ntmps77
  go_wp2_with fail
  go_loopw [0, 1, 8] (fun v1 n1 i wr => ∃ k : Nat, k ≤ size ∧ i = .int .i64 (k : Int) ∧ n1 = .int .u64 ((n / 256 ^ k : Nat) : Int) ∧ Own wr B v1 (xs ++ layL n k) ∧ Below B w wr) (fun _ _ i _ => size - (intOf i).toNat)
  case atStart => exact ⟨0, Nat.zero_le _, rfl, by simp, by rw [show layL n 0 = [] from rfl, List.append_nil]; exact HO.out, Below.refl _ _⟩
  case round =>
    obtain ⟨k, hk, rfl, rfl, hown, hbel⟩ := hrel
    have HOW : Hid (Own wr B u0 (xs ++ layL n k)) := hown
    have HBEL : Hid (Below B w wr) := hbel
    obtain ⟨a0, c0, hv0, -⟩ := Own.val hown
    obtain ⟨T0, hT0⟩ : ∃ T0, T0 = (xs ++ layL n k).length := ⟨_, rfl⟩
    rw [← hT0] at hv0
    subst hv0
    have HT0 : Hid (T0 = (xs ++ layL n k).length) := hT0
    clear hown hbel hT0
    by_cases hlt : k < size
    · obtain ⟨m, hm⟩ : ∃ m, m = n / 256 ^ k := ⟨_, rfl⟩
      rw [← hm]
      have hmb : m < 18446744073709551616 := by rw [hm]; exact Nat.lt_of_le_of_lt (Nat.div_le_self _ _) hn
      have HM : Hid (m = n / 256 ^ k) := hm
      have hki : (k : Int) < (size : Int) := by omega
      have HLE : Hid ((xs ++ layL n k).length + 1 ≤ 140737488355328) := (show _ ≤ _ by rw [List.length_append, layL_len]; omega)
      have HSZ : Hid (∀ ob, B ≤ (wr.alloc ob).heap.size) := (fun ob => by have h9 := HBEL.out.size; have := HB.out; simp; omega)
      clear hm

      go_wp2_with (first | (at_builtin; refine wp_app1 rfl _ _ rfl B _ T0 (xs ++ layL n k) (UInt8.ofNat m) _ _ (by rfl) HT0.out (Own.below HOW.out (alS (Below.refl _ _) _)) (by rfl) (rdB_one (heap_alloc_new wr _)) HLE.out (HSZ.out _) ?_; intro g2 c2 w2 hown hg h9x; have HO2 : Hid _ := hown; have HB2 : Hid (Below B w w2) := (HBEL.out.trans ((alS (Below.refl wr.heap.size wr) _).mono (by have h9 := HBEL.out.size; have := HB.out; omega))).grown hg (HSZ.out _) (fun j9 h9 => (World.ownsRow.lt HOW.out j9 h9).1); clear hown hg h9x))
      go_roundw
      case rel =>
        have e9 : n / 256 ^ (k + 1) = m / 256 := by rw [HM.out, Nat.pow_succ, Nat.div_div_eq_div_mul]
        exact ⟨k + 1, by omega, by go_num, by rw [e9]; rfl, by rw [layL_snoc, ← List.append_assoc, ← HM.out]; exact HO2.out, HB2.out⟩
      case measure => simp [intOf]; omega
    · obtain rfl : k = size := by omega
      have hkI : ¬ ((k : Int) < (k : Int)) := by omega
      go_wp2
      go_ret
      exact ⟨_, rfl, HOW.out, HBEL.out⟩
theorem low_t (ao : Option Addr) (N cap : Nat) (xs : List UInt8) (hN : N = xs.length) (w : World) (hr : Rd w ao xs) (hl : N ≤ 8) :
    Calls Tryd.prog 72 #[.slice ao N cap] w fun e w' => e = .returned (.int .u64 ((lowS xs : Nat) : Int)) ∧ w' = w := by
  have HR : Hid (Rd w ao xs) := hr
  have HN : Hid (N = xs.length) := hN
  clear hr hN
  go_enter Tryd.func72, Tryd.ntmps72
  go_wp2_with fail
  go_loopw [3, 8] (fun n i wr => ∃ k : Nat, k ≤ N ∧ i = .int .i64 (k : Int) ∧ n = .int .u64 ((lowS (xs.take k) : Nat) : Int) ∧ wr = w) (fun _ i _ => N - (intOf i).toNat)
  case atStart => exact ⟨0, Nat.zero_le _, rfl, rfl, rfl⟩
  case round =>
    obtain ⟨k, hk, rfl, rfl, hwr⟩ := hrel
    have hwr := hwr.symm
    subst hwr
    by_cases hlt : k < N
    · have hkx : k < xs.length := by have := HN.out; omega
      obtain ⟨b, o, rfl, hc⟩ := HR.out (by omega)
      have hck := hc k hkx
      obtain ⟨c, hcc⟩ : ∃ c : Nat, c = xs[k].toNat := ⟨_, rfl⟩
      rw [← hcc] at hck
      have hcb : c < 256 := by rw [hcc]; exact xs[k].toNat_lt
      obtain ⟨m, hm⟩ : ∃ m, m = lowS (xs.take k) := ⟨_, rfl⟩
      rw [← hm]
      have hmb : m < 256 ^ k := by
        have h9 := lowS_lt (xs.take k)
        rw [List.length_take, Nat.min_eq_left (by omega)] at h9
        rw [hm]; exact h9
      have hki : (k : Int) < (N : Int) := by omega
      have hk0 : (0 : Int) ≤ (k : Int) := by omega
      go_wp2
      go_roundw
      case rel =>
        refine ⟨k + 1, by omega, by go_num, ?_, trivial⟩
        rw [← hm, ← hcc, or_low m c k hmb hcb (by omega), List.take_succ_eq_append_getElem hkx, lowS_snoc, List.length_take, Nat.min_eq_left (by omega), ← hm, ← hcc]
      case measure => simp [intOf]; omega
    · obtain rfl : k = N := by omega
      have hkI : ¬ ((k : Int) < (k : Int)) := by omega
      have HRES : Hid (xs.take k = xs) := (show _ = _ by rw [HN.out]; exact List.take_length)
      rw [HRES.out]
      go_wp2
      go_ret
      exact ⟨rfl, rfl⟩
end
end Go.Proofs.YtibepnilhmbpeaaDoor
namespace Go.Proofs.YtibepnilhmbpeaaDoor
set_option linter.unusedVariables false
set_option linter.unusedSimpArgs false
open Go.RowKit
/-- a sector's text ahead of its seal -/
def padT (xs : List UInt8) : List UInt8 := xs ++ List.replicate (124 - xs.length) 0
theorem padT_len (xs : List UInt8) (h : xs.length ≤ 124) : (padT xs).length = 124 := by unfold padT; rw [List.length_append, List.length_replicate]; omega
/-- a sector's text -/
def sealT (xs : List UInt8) : List UInt8 := padT xs ++ sealL (padT xs)
theorem sealT_len (xs : List UInt8) (h : xs.length ≤ 124) : (sealT xs).length = 128 := by unfold sealT; rw [List.length_append, padT_len xs h]; rfl
theorem made_u8S (n : Nat) : (madeCells (Value.cells (.int .u8 0)) (n * 1)).toList = List.replicate n (.int .u8 0) := by
  apply List.ext_getElem
  · simp [madeCells]
  · intro i h1 h2
    simp [madeCells, Value.cells, Nat.mod_one]
theorem splice_pad (xs : List UInt8) (h : xs.length ≤ 124) : splice (List.replicate 124 (Value.int .u8 0)) 0 (bv xs) = bv (padT xs) := by
  unfold splice padT
  rw [bv_append]
  simp only [List.take_zero, List.nil_append, Nat.zero_add, bv_length, List.drop_replicate]
  congr 1
  simp [bv]
theorem own_rowS {w : World} {B g n : Nat} {ys : List UInt8} (hB : B ≤ g) (hn : n = ys.length) (hm : n ≤ maxLen) (h : w.heap[g]? = some (.cells (bv ys).toArray 5 (0, 0))) : Own w B (.slice (some ⟨g, 0, none⟩) n n) ys := by
  subst hn
  exact ⟨by simp [bv_length], .inr ⟨g, _, _, rfl, hB, h, Nat.le_refl _, hm, by simp [bv_length], by simp [← bv_length]⟩⟩
set_option maxRecDepth 20000 in
set_option maxHeartbeats 1600000 in
theorem sealed_t (ao : Option Addr) (n cap : Nat) (xs : List UInt8) (hn : n = xs.length) (w : World) (hx : Rd w ao xs) (hl : n ≤ 124) (ht : TabOk w) :
    Calls Tryd.prog 78 #[.slice ao n cap] w fun e w' => ∃ v, e = .returned v ∧ Own w' w.heap.size v (sealT xs) ∧ Below w.heap.size w w' := by
  obtain ⟨i0, hi, hz0, hz1, hz2⟩ := info_parts info5
  have hsz1 : (Tryd.prog.info? 5).map (·.size) = some 1 := by rw [hi, Option.map_some, hz1]
  obtain ⟨Z, hZ⟩ : ∃ Z : List Value, Z.toArray = madeCells #[Value.int .u8 0] 124 := ⟨_, Array.toArray_toList⟩
  have hZ2 : Hid (Z = List.replicate 124 (.int .u8 0)) := by
    unfold Hid
    have h9 := made_u8S 124
    have h8 : madeCells (Value.cells (.int .u8 0)) (124 * 1) = madeCells #[Value.int .u8 0] 124 := rfl
    rw [h8, ← hZ] at h9
    exact h9
  have hmk : (Instr.makeSlice 27 (.int .i64 124) (.int .i64 124)).run Tryd.prog w = .ok (.slice (some ⟨w.heap.size, 0, none⟩) 124 124) (w.alloc (.cells Z.toArray 5)) := by
    have hm0 := run_make (P := Tryd.prog) w 27 5 i0 (.int .u8 0) Tryd.underlying27 hi hz0 .i64 .i64 124 124 (by omega) (Int.le_refl _) (by rw [hz2]; decide) (by decide)
    rw [hz1] at hm0
    rw [hZ]; exact hm0
  obtain ⟨X, hX⟩ : ∃ X : List Value, X = bv xs := ⟨_, rfl⟩
  have HXl : Hid (X.length = n) := by unfold Hid; rw [hX, hn]; exact bv_length xs
  have HSP : Hid (splice Z 0 X = bv (padT xs)) := by unfold Hid; rw [hX, hZ2.out]; exact splice_pad xs (by omega)
  have HZl : Hid (Z.length = 124) := by unfold Hid; rw [hZ2.out]; simp
  have hpos : 0 < X.length → ∃ ad, ao = some ad ∧ ∀ j v, X[j]? = some v → (w.alloc (.cells Z.toArray 5)).cell? (ad.add j) = some v := by
    intro h0
    rw [HXl.out, hn] at h0
    obtain ⟨b, o, rfl, hc⟩ := (hx.alloc (.cells Z.toArray 5)) h0
    refine ⟨_, rfl, fun j v hj => ?_⟩
    rw [hX] at hj
    have hlt : j < xs.length := by
      have := (List.getElem?_eq_some_iff.1 hj).1
      simpa [bv_length] using this
    rw [bv_get xs j hlt] at hj
    rw [Go.WideShapes.add_plain, hc j hlt]
    exact hj
  have HPos : Hid _ := hpos
  have h1 : ∀ v ∈ X, v.oneCell' = true := by rw [hX]; exact bv_one xs
  have H1 : Hid _ := h1
  have HT : Hid (TabOk w) := ht
  have HPL : Hid ((padT xs).length = 124) := padT_len xs (by omega)
  clear hX hZ hZ2 hpos h1 ht hn hx
  go_enter Tryd.func78, Tryd.ntmps78
  go_wp2_with (refine wpList_copy_splice rfl _ _ 27 27 rfl 5 Tryd.underlying27 hsz1 (some ⟨w.heap.size, 0, none⟩) ao 124 124 n cap rfl rfl w.heap.size 0 Z 5 (heap_alloc_new w _) X (by rw [HXl.out]; exact (Nat.min_eq_left hl).symm) (fun h => ⟨rfl, HPos.out h⟩) (by rw [HXl.out, HZl.out]; omega) H1.out w.heap.size w ((Below.refl _ _).alloc (Nat.le_refl _) _) (Nat.le_refl _) ?_; intro w2 hg2 hb2)
  rw [HSP.out] at hg2
  have hown : Own w2 w.heap.size (.slice (some ⟨w.heap.size, 0, none⟩) 124 124) (padT xs) := own_rowS (Nat.le_refl _) HPL.out.symm (by decide) hg2.out
  refine Calls.mono (seal_n _ 124 124 (padT xs) HPL.out.symm w2 (Rd.of_own hown) (fun e => by cases e) (by decide) (HT.out.below hb2)) ?_
  rintro e w3 ⟨v3, rfl, ho3, hb3⟩
  obtain ⟨a3, c3, hv3, -⟩ := Own.val ho3
  have HO3 : Hid (Own w3 w.heap.size v3 (sealT xs)) := Own.base ho3 hb2.size
  have HB3 : Hid (Below w.heap.size w w3) := below_next hb2 hb3
  have HL3 : Hid ((padT xs ++ sealL (padT xs)).length = 128) := (show _ = _ by rw [List.length_append, HPL.out]; rfl)
  rw [HL3.out] at hv3
  subst hv3
  clear hown hg2 hb2 ho3 hb3
  go_wp2
  go_ret
  exact ⟨_, rfl, HO3.out, HB3.out⟩
end Go.Proofs.YtibepnilhmbpeaaDoor
namespace Go.Proofs.YtibepnilhmbpeaaDoor
set_option linter.unusedVariables false
set_option linter.unusedSimpArgs false
open Go.RowKit Go.Maps
/-- append of one byte to a row that has no room: a new row -/
theorem wp_appF {w : World} {ops : Array Oper} {rest : List Oper} {o : Oper} {a : Act} {Q : Exit → Act → World → Prop} (hgd : o.guard = none) (s x : Operand)
    (ho : o.op = .call { callee := .builtin .append, args := #[s, x], argTypes := #[27, 27] }) (g n : Nat) (xs : List UInt8) (c : UInt8) (g0 cap : Nat)
    (hs : a.eval s = .slice (some ⟨g, 0, none⟩) n n) (hn : n = xs.length) (hr : Rd w (some ⟨g, 0, none⟩) xs) (hx : a.eval x = .slice (some ⟨g0, 0, none⟩) 1 cap) (hu : Rd w (some ⟨g0, 0, none⟩) [c])
    (hb : xs.length + 1 ≤ 1000000)
    (h : ∀ g cap w', Own w' w.heap.size (.slice (some ⟨g, 0, none⟩) (n + 1) cap) (xs ++ [c]) → Below w.heap.size w w' → wpList Tryd.prog ops Q rest (a.put o.dst (.slice (some ⟨g, 0, none⟩) (n + 1) cap)) w') : wpList Tryd.prog ops Q (o :: rest) a w := by
  subst hn
  obtain ⟨i, hi, hz0, hz1, hz2⟩ := info_parts info5
  have cells : ∀ {ys : List UInt8} {b : Nat}, Rd w (some ⟨b, 0, none⟩) ys → ∀ j v, (bv ys)[j]? = some v → w.cell? ((⟨b, 0, none⟩ : Addr).add j) = some v := fun {ys b} hy j v hj => by
    have hlt : j < ys.length := by
      have := (List.getElem?_eq_some_iff.1 hj).1
      simpa [bv_length] using this
    obtain ⟨b', o', e, hc⟩ := hy (by omega)
    cases e
    rw [bv_get ys j hlt] at hj
    rw [Go.WideShapes.add_plain, hc j hlt]
    exact hj
  have hlen : (bv xs).length = xs.length := bv_length xs
  have hr9 := run_append_grow (P := Tryd.prog) w 27 o.type 5 i (.int .u8 0) Tryd.underlying27 hi hz0 ⟨g, 0, none⟩ xs.length xs.length (bv xs) (by rw [hz1, Nat.mul_one]; exact hlen) (cells hr) ⟨g0, 0, none⟩ 1 cap (bv [c]) (by rw [hz1]; rfl) (cells hu) (by omega) (by omega) (growslice_fits (by omega) (by rw [hz2]; omega))
  have hge := grownCap_ge w (xs.length + 1) xs.length 5
  have hcm : grownCap w (xs.length + 1) xs.length 5 ≤ maxLen := grownCap_le_maxLen w (xs.length + 1) xs.length 5 (by simp only [maxLen]; omega)
  refine Lib.wpList_append_run w hgd s x 27 27 ho _ _ hs hx _ _ hr9 (h _ _ _ ⟨by simp [bv_length], .inr ⟨w.heap.size, _, _, by rw [List.length_append]; rfl, Nat.le_refl _, heap_alloc_new w.drew _, ?_, hcm, ?_, ?_⟩⟩ ?_)
  · rw [List.length_append]; exact hge
  · simp only [Array.size_append, List.size_toArray, size_zeroCells, hlen, bv_length, List.length_singleton, Value.cells]
    simp
    omega
  · simp only [Array.toList_append, Nat.mul_one]
    rw [List.length_append, ← bv_length xs, ← bv_length [c], ← List.length_append, bv_append]
    exact List.take_left
  · exact ⟨rfl, rfl, rfl, by simp, fun k hk => heap_alloc_old w.drew _ hk⟩
end Go.Proofs.YtibepnilhmbpeaaDoor
namespace Go.Proofs.YtibepnilhmbpeaaDoor
set_option linter.unusedVariables false
set_option linter.unusedSimpArgs false
open Go.RowKit
section
set_option maxRecDepth 20000
set_option maxHeartbeats 3200000
theorem lay_f (g0 n0 : Nat) (xs : List UInt8) (hn0 : n0 = xs.length) (n size : Nat) (w : World) (hr : Rd w (some ⟨g0, 0, none⟩) xs) (hn : n < 18446744073709551616) (hs : 1 ≤ size ∧ size ≤ 8) (hl : xs.length ≤ 100000) :
    Calls Tryd.prog 77 #[.slice (some ⟨g0, 0, none⟩) n0 n0, .int .u64 (n : Int), .int .i64 (size : Int)] w fun e w' => ∃ v', e = .returned v' ∧ Own w' w.heap.size v' (xs ++ layL n size) ∧ Below w.heap.size w w' := by
  have HR : Hid (Rd w (some ⟨g0, 0, none⟩) xs) := hr
  have HN0 : Hid (n0 = xs.length) := hn0
  have HB : Hid (w.heap.size ≤ w.heap.size) := Nat.le_refl _
  clear hr hn0
  go_enter Tryd.func77, Tryd.ntmps77
  go_wp2_with fail
  go_loopw [0, 1, 8] (fun v1 n1 i wr => ∃ k : Nat, k ≤ size ∧ i = .int .i64 (k : Int) ∧ n1 = .int .u64 ((n / 256 ^ k : Nat) : Int) ∧ ((k = 0 ∧ v1 = .slice (some ⟨g0, 0, none⟩) n0 n0 ∧ wr = w) ∨ Own wr w.heap.size v1 (xs ++ layL n k)) ∧ Below w.heap.size w wr) (fun _ _ i _ => size - (intOf i).toNat)
  case atStart => exact ⟨0, Nat.zero_le _, rfl, by simp, .inl ⟨rfl, rfl, rfl⟩, Below.refl _ _⟩
  case round =>
    obtain ⟨k, hk, rfl, rfl, ⟨rfl, rfl, hwr⟩ | hown, hbel⟩ := hrel
    · have hwr := hwr.symm
      subst hwr
      have hz : (0 : Int) < (size : Int) := by omega
      have e0 : n / 256 ^ 0 = n := by simp
      rw [e0]
      have HAB : Hid (∀ ob, Below w.heap.size w (w.alloc ob)) := (fun ob => alS (Below.refl _ _) ob)
      have HLE : Hid (xs.length + 1 ≤ 1000000) := (show _ ≤ _ by omega)
      clear e0 hbel
      go_wp2_with (first | (at_builtin; refine wp_appF rfl _ _ rfl g0 n0 xs (UInt8.ofNat n) _ _ (by rfl) HN0.out (HR.out.below (HAB.out _)) (by rfl) (rdB_one (heap_alloc_new w _)) HLE.out ?_; intro g2 c2 w2 hown hb; have HO2 : Hid (Own w2 w.heap.size (.slice (some ⟨g2, 0, none⟩) (n0 + 1) c2) (xs ++ [UInt8.ofNat n])) := Own.base hown (HAB.out _).size; have HB2 : Hid (Below w.heap.size w w2) := below_next (HAB.out _) hb; clear hown hb))
      go_roundw
      case rel => exact ⟨1, by omega, by first | rfl | go_num, by simp, .inr HO2.out, HB2.out⟩
      case measure => simp [intOf]; omega
    have HOW : Hid (Own wr w.heap.size u0 (xs ++ layL n k)) := hown
    have HBEL : Hid (Below w.heap.size w wr) := hbel
    obtain ⟨a0, c0, hv0, -⟩ := Own.val hown
    obtain ⟨T0, hT0⟩ : ∃ T0, T0 = (xs ++ layL n k).length := ⟨_, rfl⟩
    rw [← hT0] at hv0
    subst hv0
    have HT0 : Hid (T0 = (xs ++ layL n k).length) := hT0
    clear hown hbel hT0
    by_cases hlt : k < size
    · obtain ⟨m, hm⟩ : ∃ m, m = n / 256 ^ k := ⟨_, rfl⟩
      rw [← hm]
      have hmb : m < 18446744073709551616 := by rw [hm]; exact Nat.lt_of_le_of_lt (Nat.div_le_self _ _) hn
      have HM : Hid (m = n / 256 ^ k) := hm
      have hki : (k : Int) < (size : Int) := by omega
      have HLE : Hid ((xs ++ layL n k).length + 1 ≤ 140737488355328) := (show _ ≤ _ by rw [List.length_append, layL_len]; omega)
      have HSZ : Hid (∀ ob, w.heap.size ≤ (wr.alloc ob).heap.size) := (fun ob => by have h9 := HBEL.out.size; have := HB.out; simp; omega)
      clear hm

      go_wp2_with (first | (at_builtin; refine wp_app1 rfl _ _ rfl w.heap.size _ T0 (xs ++ layL n k) (UInt8.ofNat m) _ _ (by rfl) HT0.out (Own.below HOW.out (alS (Below.refl _ _) _)) (by rfl) (rdB_one (heap_alloc_new wr _)) HLE.out (HSZ.out _) ?_; intro g2 c2 w2 hown hg h9x; have HO2 : Hid _ := hown; have HB2 : Hid (Below w.heap.size w w2) := (HBEL.out.trans ((alS (Below.refl wr.heap.size wr) _).mono (by have h9 := HBEL.out.size; have := HB.out; omega))).grown hg (HSZ.out _) (fun j9 h9 => (World.ownsRow.lt HOW.out j9 h9).1); clear hown hg h9x))
      go_roundw
      case rel =>
        have e9 : n / 256 ^ (k + 1) = m / 256 := by rw [HM.out, Nat.pow_succ, Nat.div_div_eq_div_mul]
        exact ⟨k + 1, by omega, by go_num, by rw [e9]; rfl, .inr (by rw [layL_snoc, ← List.append_assoc, ← HM.out]; exact HO2.out), HB2.out⟩
      case measure => simp [intOf]; omega
    · obtain rfl : k = size := by omega
      have hkI : ¬ ((k : Int) < (k : Int)) := by omega
      go_wp2
      go_ret
      exact ⟨_, rfl, HOW.out, HBEL.out⟩
end
end Go.Proofs.YtibepnilhmbpeaaDoor
namespace Go.Proofs.YtibepnilhmbpeaaDoor
set_option linter.unusedVariables false
set_option linter.unusedSimpArgs false
open Go.RowKit
abbrev hdM : List UInt8 := [104, 108, 121, 72]
/-- the bytes of a head -/
def headB (g e f l size : Nat) : List UInt8 := hdM ++ layL g 6 ++ layL e 6 ++ layL f 6 ++ layL l 6 ++ layL size 4
theorem headB_len (g e f l size : Nat) : (headB g e f l size).length = 32 := by simp [headB, layL_len]
/-- the text of a head -/
def headT (g e f l size : Nat) : List UInt8 := sealT (headB g e f l size)
theorem headT_len (g e f l size : Nat) : (headT g e f l size).length = 128 := sealT_len _ (by rw [headB_len]; decide)
def hdK (g e f l k : Nat) : List UInt8 := hdM ++ (([g, e, f, l].take k).map (fun n => layL n 6)).flatten
theorem hdK_len (g e f l k : Nat) : (hdK g e f l k).length ≤ 28 := by
  have : ∀ k, (([g, e, f, l].take k).map (fun n => layL n 6)).flatten.length ≤ 24 := fun k => by
    match k with
    | 0 => simp
    | 1 => simp [layL_len]
    | 2 => simp [layL_len]
    | 3 => simp [layL_len]
    | k + 4 => simp [layL_len]
  unfold hdK
  rw [List.length_append]
  have h9 := this k
  have h8 : hdM.length = 4 := rfl
  omega
theorem rd_hdM {w : World} {N : Nat} {fr : Nat × Nat} (hN : w.heap[N]? = some (.cells #[.int .u8 104, .int .u8 108, .int .u8 121, .int .u8 72] 5 fr)) : Rd w (some ⟨N, 0, none⟩) hdM := fun _ => ⟨N, 0, rfl, fun i hi => by
  rw [cell_of_row _ _ _ _ _ _ hN]
  match i, hi with
  | 0, _ => rfl
  | 1, _ => rfl
  | 2, _ => rfl
  | 3, _ => rfl⟩
set_option maxRecDepth 20000 in
theorem idxH0 (a b c d : Int) (w : World) : (Instr.index 133 (.agg #[.int .u64 a, .int .u64 b, .int .u64 c, .int .u64 d]) (.int .i64 0)).run Tryd.prog w = .ok (.int .u64 a) w := by
  first | rfl | kernel_rfl
set_option maxRecDepth 20000 in
theorem idxH1 (a b c d : Int) (w : World) : (Instr.index 133 (.agg #[.int .u64 a, .int .u64 b, .int .u64 c, .int .u64 d]) (.int .i64 1)).run Tryd.prog w = .ok (.int .u64 b) w := by
  first | rfl | kernel_rfl
set_option maxRecDepth 20000 in
theorem idxH2 (a b c d : Int) (w : World) : (Instr.index 133 (.agg #[.int .u64 a, .int .u64 b, .int .u64 c, .int .u64 d]) (.int .i64 2)).run Tryd.prog w = .ok (.int .u64 c) w := by
  first | rfl | kernel_rfl
set_option maxRecDepth 20000 in
theorem idxH3 (a b c d : Int) (w : World) : (Instr.index 133 (.agg #[.int .u64 a, .int .u64 b, .int .u64 c, .int .u64 d]) (.int .i64 3)).run Tryd.prog w = .ok (.int .u64 d) w := by
  first | rfl | kernel_rfl
section
set_option maxRecDepth 20000
set_option maxHeartbeats 1600000
theorem headText_t (g e f l size : Nat) (hg : g < 18446744073709551616) (he : e < 18446744073709551616) (hf : f < 18446744073709551616) (hl : l < 18446744073709551616) (hs : size < 4294967296) (w : World) (ht : TabOk w) :
    Calls Tryd.prog 70 #[.agg #[.int .u64 (g : Int), .int .u64 (e : Int), .int .u64 (f : Int), .int .u64 (l : Int)], .int .i64 (size : Int)] w fun er w' => ∃ v, er = .returned v ∧ Own w' w.heap.size v (headT g e f l size) ∧ Below w.heap.size w w' := by
  have HT : Hid (TabOk w) := ht
  obtain ⟨w2, hw2⟩ : ∃ X : World, X = (w.alloc (.cells #[.int .u64 (g : Int), .int .u64 (e : Int), .int .u64 (f : Int), .int .u64 (l : Int)] 55)).alloc (.cells #[.int .u8 104, .int .u8 108, .int .u8 121, .int .u8 72] 5 (4, 5)) := ⟨_, rfl⟩
  have HB2 : Hid (Below w.heap.size w w2) := (show Below _ _ _ by rw [hw2]; exact alS (alS (Below.refl _ _) _) _)
  have HO2 : Hid (Rd w2 (some ⟨w.heap.size + 1, 0, none⟩) hdM) := (show Rd _ _ _ by
    rw [hw2]
    have h9 := heap_alloc_new (w.alloc (.cells #[.int .u64 (g : Int), .int .u64 (e : Int), .int .u64 (f : Int), .int .u64 (l : Int)] 55)) (.cells #[.int .u8 104, .int .u8 108, .int .u8 121, .int .u8 72] 5 (4, 5))
    rw [World.size_alloc] at h9
    exact rd_hdM h9)
  have hsw : IntKind.u64.wrap (size : Int) = (size : Int) := by rw [IntKind.wrap_u64]; omega
  have hcv := Go.Joins.run_convert_bytes_const_at (P := Tryd.prog) (w.alloc (.cells #[.int .u64 (g : Int), .int .u64 (e : Int), .int .u64 (f : Int), .int .u64 (l : Int)] 55)) 27 5 #[.int .u8 104, .int .u8 108, .int .u8 121, .int .u8 72] 4 4 (w.heap.size + 1) (by simp) Tryd.underlying27 Tryd.underlying5
  have hx0 : ∀ u : World, (Instr.index 133 (.agg #[.int .u64 (g : Int), .int .u64 (e : Int), .int .u64 (f : Int), .int .u64 (l : Int)]) (.int .i64 0)).run Tryd.prog u = .ok (.int .u64 (g : Int)) u := fun u => idxH0 _ _ _ _ u
  have hx1 : ∀ u : World, (Instr.index 133 (.agg #[.int .u64 (g : Int), .int .u64 (e : Int), .int .u64 (f : Int), .int .u64 (l : Int)]) (.int .i64 1)).run Tryd.prog u = .ok (.int .u64 (e : Int)) u := fun u => idxH1 _ _ _ _ u
  have hx2 : ∀ u : World, (Instr.index 133 (.agg #[.int .u64 (g : Int), .int .u64 (e : Int), .int .u64 (f : Int), .int .u64 (l : Int)]) (.int .i64 2)).run Tryd.prog u = .ok (.int .u64 (f : Int)) u := fun u => idxH2 _ _ _ _ u
  have hx3 : ∀ u : World, (Instr.index 133 (.agg #[.int .u64 (g : Int), .int .u64 (e : Int), .int .u64 (f : Int), .int .u64 (l : Int)]) (.int .i64 3)).run Tryd.prog u = .ok (.int .u64 (l : Int)) u := fun u => idxH3 _ _ _ _ u
  clear ht
  go_enter Tryd.func70, Tryd.ntmps70
  go_wp2_with fail
  rw [← hw2]
  clear hw2
  go_loopw [5, 19] (fun b i wr => ∃ k : Nat, k ≤ 4 ∧ i = .int .i64 (k : Int) ∧ ((k = 0 ∧ b = .slice (some ⟨w.heap.size + 1, 0, none⟩) 4 4 ∧ wr = w2) ∨ Own wr w.heap.size b (hdK g e f l k)) ∧ Below w.heap.size w wr) (fun _ i _ => 4 - (intOf i).toNat)
  case atStart => exact ⟨0, by decide, rfl, .inl ⟨rfl, rfl, rfl⟩, HB2.out⟩
  case round =>
    obtain ⟨k, hk, rfl, ⟨rfl, rfl, hwr⟩ | hown, hbel⟩ := hrel
    · have hwr := hwr.symm
      subst hwr
      have HKS : Hid (hdK g e f l 1 = hdM ++ layL g 6) := (show _ = _ by simp [hdK])
      have HLF : Hid (Calls Tryd.prog 77 #[.slice (some ⟨w.heap.size + 1, 0, none⟩) 4 4, .int .u64 (g : Int), .int .i64 6] w2 fun er w' => ∃ v', er = .returned v' ∧ Own w' w2.heap.size v' (hdM ++ layL g 6) ∧ Below w2.heap.size w2 w') := lay_f (w.heap.size + 1) 4 hdM rfl g 6 w2 HO2.out hg (by decide) (by decide)
      clear hbel
      go_wp2_with fail
      refine Calls.mono HLF.out ?_
      rintro er w3 ⟨v3, rfl, ho3, hb3⟩
      have HO3 : Hid (Own w3 w.heap.size v3 (hdK g e f l 1)) := (show Own _ _ _ _ by rw [HKS.out]; exact Own.base ho3 HB2.out.size)
      have HB3 : Hid (Below w.heap.size w w3) := below_next HB2.out hb3
      clear ho3 hb3 HLF HKS
      go_wp2
      go_roundw
      case rel => exact ⟨1, by decide, by first | rfl | go_num, .inr HO3.out, HB3.out⟩
      case measure => simp [intOf]
    have HOW : Hid (Own wr w.heap.size u5 (hdK g e f l k)) := hown
    have HBEL : Hid (Below w.heap.size w wr) := hbel
    obtain ⟨a0, c0, hv0, -⟩ := Own.val hown
    obtain ⟨T0, hT0⟩ : ∃ T0, T0 = (hdK g e f l k).length := ⟨_, rfl⟩
    rw [← hT0] at hv0
    subst hv0
    have HT0 : Hid (T0 = (hdK g e f l k).length) := hT0
    have HLY : Hid (∀ n : Nat, n < 18446744073709551616 → Calls Tryd.prog 77 #[.slice a0 T0 c0, .int .u64 (n : Int), .int .i64 6] wr fun er w' => ∃ v', er = .returned v' ∧ Own w' w.heap.size v' (hdK g e f l k ++ layL n 6) ∧ Below w.heap.size wr w') := (fun n hn => slay_t w.heap.size _ (hdK g e f l k) n 6 wr hown hn (by decide) (Nat.le_trans (hdK_len g e f l k) (by decide)) hbel.size)
    clear hown hbel hT0
    by_cases hlt : k < 4
    · have HKS : Hid (∀ n : Nat, [g, e, f, l][k]? = some n → hdK g e f l (k + 1) = hdK g e f l k ++ layL n 6) := (fun n hn => by
        obtain ⟨h9, rfl⟩ := List.getElem?_eq_some_iff.1 hn
        unfold hdK
        rw [List.take_succ_eq_append_getElem h9, List.map_append, List.flatten_append, ← List.append_assoc]
        simp)
      rcases (show k = 0 ∨ k = 1 ∨ k = 2 ∨ k = 3 by omega) with rfl | rfl | rfl | rfl
      · go_wp2_with fail
        refine Calls.mono (HLY.out g hg) ?_
        rintro er w3 ⟨v3, rfl, ho3, hb3⟩
        have HO3 : Hid (Own w3 w.heap.size v3 (hdK g e f l 1)) := (show Own _ _ _ _ by rw [HKS.out g rfl]; exact ho3)
        have HB3 : Hid (Below w.heap.size w w3) := HBEL.out.trans hb3
        clear ho3 hb3 HLY HKS
        go_wp2
        go_roundw
        case rel => exact ⟨1, by decide, by first | rfl | go_num, .inr HO3.out, HB3.out⟩
        case measure => simp [intOf]
      · go_wp2_with fail
        refine Calls.mono (HLY.out e he) ?_
        rintro er w3 ⟨v3, rfl, ho3, hb3⟩
        have HO3 : Hid (Own w3 w.heap.size v3 (hdK g e f l 2)) := (show Own _ _ _ _ by rw [HKS.out e rfl]; exact ho3)
        have HB3 : Hid (Below w.heap.size w w3) := HBEL.out.trans hb3
        clear ho3 hb3 HLY HKS
        go_wp2
        go_roundw
        case rel => exact ⟨2, by decide, by first | rfl | go_num, .inr HO3.out, HB3.out⟩
        case measure => simp [intOf]
      · go_wp2_with fail
        refine Calls.mono (HLY.out f hf) ?_
        rintro er w3 ⟨v3, rfl, ho3, hb3⟩
        have HO3 : Hid (Own w3 w.heap.size v3 (hdK g e f l 3)) := (show Own _ _ _ _ by rw [HKS.out f rfl]; exact ho3)
        have HB3 : Hid (Below w.heap.size w w3) := HBEL.out.trans hb3
        clear ho3 hb3 HLY HKS
        go_wp2
        go_roundw
        case rel => exact ⟨3, by decide, by first | rfl | go_num, .inr HO3.out, HB3.out⟩
        case measure => simp [intOf]
      · go_wp2_with fail
        refine Calls.mono (HLY.out l hl) ?_
        rintro er w3 ⟨v3, rfl, ho3, hb3⟩
        have HO3 : Hid (Own w3 w.heap.size v3 (hdK g e f l 4)) := (show Own _ _ _ _ by rw [HKS.out l rfl]; exact ho3)
        have HB3 : Hid (Below w.heap.size w w3) := HBEL.out.trans hb3
        clear ho3 hb3 HLY HKS
        go_wp2
        go_roundw
        case rel => exact ⟨4, by decide, by first | rfl | go_num, .inr HO3.out, HB3.out⟩
        case measure => simp [intOf]
    · obtain rfl : k = 4 := by omega
      have HKE : Hid (hdK g e f l 4 ++ layL size 4 = headB g e f l size) := (show _ = _ by simp [hdK, headB])
      have HLZ : Hid (Calls Tryd.prog 77 #[.slice a0 T0 c0, .int .u64 (size : Int), .int .i64 4] wr fun er w' => ∃ v', er = .returned v' ∧ Own w' w.heap.size v' (hdK g e f l 4 ++ layL size 4) ∧ Below w.heap.size wr w') := slay_t w.heap.size _ (hdK g e f l 4) size 4 wr HOW.out (by omega) (by decide) (Nat.le_trans (hdK_len g e f l 4) (by decide)) HBEL.out.size
      clear HLY
      go_wp2_with fail
      refine Calls.mono HLZ.out ?_
      rintro er w3 ⟨v3, rfl, ho3, hb3⟩
      rw [HKE.out] at ho3
      obtain ⟨a3, c3, hv3, -⟩ := Own.val ho3
      rw [headB_len] at hv3
      subst hv3
      have HO3 : Hid (Own w3 w.heap.size (.slice a3 32 c3) (headB g e f l size)) := ho3
      have HB3 : Hid (Below w.heap.size w w3) := HBEL.out.trans hb3
      clear ho3 hb3 HLZ
      go_wp2_with fail
      refine Calls.mono (sealed_t a3 32 c3 (headB g e f l size) (headB_len g e f l size).symm w3 (Rd.of_own HO3.out) (by decide) (HT.out.below HB3.out)) ?_
      rintro er w4 ⟨v4, rfl, ho4, hb4⟩
      obtain ⟨a4, c4, hv4, -⟩ := Own.val ho4
      rw [show (sealT (headB g e f l size)).length = 128 from headT_len g e f l size] at hv4
      subst hv4
      have HO4 : Hid (Own w4 w.heap.size (.slice a4 128 c4) (headT g e f l size)) := Own.base ho4 HB3.out.size
      have HB4 : Hid (Below w.heap.size w w4) := below_next HB3.out hb4
      clear ho4 hb4
      go_wp2
      go_ret
      exact ⟨_, rfl, HO4.out, HB4.out⟩
end
end Go.Proofs.YtibepnilhmbpeaaDoor
namespace Go.Proofs.YtibepnilhmbpeaaDoor
set_option linter.unusedVariables false
set_option linter.unusedSimpArgs false
open Go.RowKit
section
set_option maxRecDepth 20000
set_option maxHeartbeats 6400000
theorem equal_t (ao : Option Addr) (n cap : Nat) (ys : List UInt8) (hn : n = ys.length) (bo : Option Addr) (m cap' : Nat) (xs : List UInt8) (hm : m = xs.length) (w : World) (hy : Rd w ao ys) (hx : Rd w bo xs) :
    Calls Tryd.prog 73 #[.slice ao n cap, .slice bo m cap'] w fun e w' => e = .returned (.bool (ys == xs)) ∧ w' = w := by
  subst hn hm
  have h1 := conv_rd' hy _ cap rfl
  have h2 := conv_rd' hx _ cap' rfl
  go_enter Tryd.func73, Tryd.ntmps73
  go_wp2
  go_ret
  exact ⟨rfl, rfl⟩
abbrev hdV (g e f l : Nat) : Value := .agg #[.int .u64 (g : Int), .int .u64 (e : Int), .int .u64 (f : Int), .int .u64 (l : Int)]
theorem slot_t (g e f l : Nat) (hg : g < 18446744073709551616) (w : World) :
    Calls Tryd.prog 55 #[hdV g e f l] w fun er w' => er = .returned (.int .i64 ((g % 2 : Nat) : Int)) ∧ Below w.heap.size w w' := by
  go_enter Tryd.func55, Tryd.ntmps55
  go_wp2
  go_ret
  refine ⟨?_, alS (Below.refl _ _) _⟩
  show Ending.returned (Value.int IntKind.i64 ((g : Int) % 2)) = _
  rw [show ((g % 2 : Nat) : Int) = (g : Int) % 2 by omega]
abbrev tHd : TypeId := 55
theorem infoHd : (Tryd.prog.info? tHd).map (·.size) = some 4 := by kernel_rfl
theorem grown_setRowS (w : World) (g : Nat) (cs : Array Value) : w.grownBy (w.setRow g cs) (some g) := ⟨rfl, rfl, rfl, by simp, fun k _ h => setRow_other w g k cs (fun e => h (by rw [e]))⟩
/-- a store of four numbers into a head's box -/
theorem wpo_storeH {W w : World} {o : Oper} {a : Act} {K' : Act → World → Prop} {Q : Exit → Act → World → Prop} (x y : Operand) (ho : o.op = .store tHd x y) (g : Nat) (x0 x1 x2 x3 : Value)
    (hx : a.eval x = .pointer (some ⟨g, 0, none⟩)) (hy : a.eval y = .agg #[x0, x1, x2, x3]) (h1 : (#[x0, x1, x2, x3]).all (·.oneCell') = true) (y0 y1 y2 y3 : Value) (t : TypeId) (hg : w.heap[g]? = some (.cells #[y0, y1, y2, y3] t (0, 0))) (hW : Below W.heap.size W w) (hgW : W.heap.size ≤ g)
    (h : ∀ z, Below W.heap.size W z → z.heap[g]? = some (.cells #[x0, x1, x2, x3] t (0, 0)) → w.grownBy z (some g) → K' (a.put o.dst undef) z) : Oper.wp Tryd.prog o a w K' Q :=
  wp_store_row tHd x y ho g #[x0, x1, x2, x3] hx hy t _ hg infoHd rfl h1 (h _ (below_setRow hW hgW _) (setRow_heap w g _ _ t _ hg) (grown_setRowS w g _))
theorem cells4 {w : World} {g : Nat} {a b c d : Value} {t : TypeId} {fr : Nat × Nat} (h : w.heap[g]? = some (.cells #[a, b, c, d] t fr)) : w.cell? ⟨g, 0, none⟩ = some a ∧ w.cell? ⟨g, 1, none⟩ = some b ∧ w.cell? ⟨g, 2, none⟩ = some c ∧ w.cell? ⟨g, 3, none⟩ = some d :=
  ⟨by rw [cell_of_row _ _ _ _ _ _ h]; rfl, by rw [cell_of_row _ _ _ _ _ _ h]; rfl, by rw [cell_of_row _ _ _ _ _ _ h]; rfl, by rw [cell_of_row _ _ _ _ _ _ h]; rfl⟩
theorem grown_blk {w z : World} {g k : Nat} {ob : Obj} (h : w.grownBy z (some g)) (hk : w.heap[k]? = some ob) (hn : k ≠ g) : z.heap[k]? = some ob := by
  rw [h.block k (Array.getElem?_eq_some_iff.1 hk).1 (fun e => hn (by cases e; rfl))]
  exact hk
theorem below_blk {w z : World} {k : Nat} {ob : Obj} (h : Below w.heap.size w z) (hk : w.heap[k]? = some ob) : z.heap[k]? = some ob := by
  rw [h.block k (Array.getElem?_eq_some_iff.1 hk).1]
  exact hk
/-- the four numbers that a text holds -/
def hdN (xs : List UInt8) (i n : Nat) : Nat := lowS ((xs.drop i).take n)
theorem hdN_lt (xs : List UInt8) (i n : Nat) (hn : n ≤ 6) : hdN xs i n < 18446744073709551616 := by
  unfold hdN
  have h := lowS_lt ((xs.drop i).take n)
  have h2 : ((xs.drop i).take n).length ≤ 6 := by rw [List.length_take]; omega
  have h3 : 256 ^ ((xs.drop i).take n).length ≤ 256 ^ 6 := Nat.pow_le_pow_right (by decide) h2
  have h4 : (256 : Nat) ^ 6 < 18446744073709551616 := by decide
  omega
theorem rd_part {w : World} {b o : Nat} {xs : List UInt8} (h : Rd w (some ⟨b, o, none⟩) xs) (i n : Nat) : Rd w (some ⟨b, o + i, none⟩) ((xs.drop i).take n) := fun hp => by
  rw [List.length_take, List.length_drop] at hp
  obtain ⟨b2, o2, e, h2⟩ := h (by omega)
  cases e
  refine ⟨b, o + i, rfl, fun j hj => ?_⟩
  rw [List.length_take, List.length_drop] at hj
  have h3 := h2 (i + j) (by omega)
  rw [← Nat.add_assoc] at h3
  rw [h3]
  simp
theorem low_p (q o i n c : Nat) (xs : List UInt8) (hx : i + n ≤ xs.length) (hn : n ≤ 8) (w : World) (hr : Rd w (some ⟨q, o, none⟩) xs) :
    Calls Tryd.prog 72 #[.slice (some ⟨q, o + i, none⟩) n c] w fun e w' => e = .returned (.int .u64 ((hdN xs i n : Nat) : Int)) ∧ w' = w :=
  low_t _ n c ((xs.drop i).take n) (by rw [List.length_take, List.length_drop]; omega) w (rd_part hr i n) hn
end
end Go.Proofs.YtibepnilhmbpeaaDoor
