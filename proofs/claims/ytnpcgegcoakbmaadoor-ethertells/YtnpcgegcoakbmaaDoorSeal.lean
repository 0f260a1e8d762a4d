import Derived.Test.YtnpcgegcoakbmaaDoorLfsr
import Derived.Test.YtnpcgegcoakbmaaDoorHelp
namespace Go.Proofs.YtnpcgegcoakbmaaDoor
set_option linter.unusedVariables false
set_option linter.unusedSimpArgs false
open Go.RowKit
/-- the seal: the sum's four bytes, the lowest first -/
def sealL (xs : List UInt8) : List UInt8 := [UInt8.ofNat (crcS xs % 256), UInt8.ofNat (crcS xs / 256 % 256), UInt8.ofNat (crcS xs / 65536 % 256), UInt8.ofNat (crcS xs / 16777216 % 256)]
theorem crc_any' (ao : Option Addr) (cap : Nat) (xs : List UInt8) (w : World) (hx : Rd w ao xs) (hl : xs.length ≤ 140737488355328) (ht : TabOk w) :
    Calls Tryd.prog 43 #[.slice ao xs.length cap] w fun e w' => e = .returned (.int .u32 (crcS xs : Nat)) ∧ w' = w := by
  rw [← crcS_eq]
  exact crc_any ao cap xs w hx hl ht
theorem u8_of (m : Nat) (h : m < 256) : ((UInt8.ofNat m).toNat : Int) = (m : Int) := by rw [UInt8.toNat_ofNat']; omega
theorem bv_seal (xs : List UInt8) : bv (sealL xs) = [.int .u8 ((crcS xs : Int) % 256), .int .u8 ((crcS xs : Int) / 256 % 256), .int .u8 ((crcS xs : Int) / 65536 % 256), .int .u8 ((crcS xs : Int) / 16777216)] := by
  have hc := crcS_lt xs
  unfold bv sealL
  simp only [List.map_cons, List.map_nil]
  rw [u8_of _ (by omega), u8_of _ (by omega), u8_of _ (by omega), u8_of _ (by omega)]
  rw [show crcS xs / 16777216 % 256 = crcS xs / 16777216 from by omega]
  simp
theorem own_lit (w : World) (C : Array Value) (xs : List UInt8) (h : C.toList = bv xs) (hl : xs.length ≤ maxLen) : Own (w.alloc (.cells C 5)) w.heap.size (.slice (some ⟨w.heap.size, 0, none⟩) xs.length xs.length) xs := by
  have hs : C.size = xs.length := by rw [← Array.length_toList, h, bv_length]
  have h1 := World.ownsRow_lit (base := w.heap.size) (e := 5) (size := 1) w C xs.length (Nat.le_refl _) hl (by omega)
  rw [h] at h1
  exact h1
set_option maxRecDepth 20000 in
set_option maxHeartbeats 400000 in
theorem sealOf_any (ao : Option Addr) (cap : Nat) (xs : List UInt8) (w : World) (hx : Rd w ao xs) (hl : xs.length ≤ 140737488355328) (ht : TabOk w) :
    Calls Tryd.prog 31 #[.slice ao xs.length cap] w fun e w' => e = .returned (.slice (some ⟨w.heap.size, 0, none⟩) 4 4) ∧ Own w' w.heap.size (.slice (some ⟨w.heap.size, 0, none⟩) 4 4) (sealL xs) ∧ Below w.heap.size w w' ∧ w.heap.size < w'.heap.size := by
  go_enter Tryd.func31, Tryd.ntmps31
  go_wp2_with fail
  refine (crc_any' ao cap xs w hx hl ht).mono ?_
  rintro e w1 ⟨rfl, hw⟩
  subst hw
  have hc := crcS_lt xs
  go_wp2
  go_ret
  exact ⟨rfl, own_lit w1 _ (sealL xs) (by rw [bv_seal]) (by simp [sealL, maxLen]), (Below.refl _ _).alloc (Nat.le_refl _) _, by simp⟩

set_option maxRecDepth 20000 in
set_option maxHeartbeats 400000 in
theorem seal_any (ao : Option Addr) (cap : Nat) (xs : List UInt8) (w : World) (hx : Rd w ao xs) (hnil : ao = none → cap = 0) (hl : xs.length + 4 ≤ 140737488355328) (ht : TabOk w) :
    Calls Tryd.prog 17 #[.slice ao xs.length cap] w fun e w' => ∃ v, e = .returned v ∧ Own w' w.heap.size v (xs ++ sealL xs) ∧ Below w.heap.size w w' := by
  have HN : Hid (ao = none → cap = 0) := hnil
  clear hnil
  go_enter Tryd.func17, Tryd.ntmps17
  go_wp2_with fail
  refine (sealOf_any ao cap xs w hx (by omega) ht).mono ?_
  rintro e w1 ⟨rfl, hown1, hb1, hs1⟩
  obtain ⟨aq, cq, hv, -, -, -, hr1, -⟩ := hown1.val
  simp only [Value.slice.injEq] at hv
  rw [← hv.1] at hr1
  clear hv
  go_wp2_with fail
  refine (concat_any w1.heap.size 0 2 [⟨ao, cap, xs⟩, ⟨some ⟨w.heap.size, 0, none⟩, 4, sealL xs⟩] _ (by simp) (cells2 (by simp [Part.v]) (by simp [Part.v, sealL]) ⟨(hx.below hb1).alloc _, HN.out⟩ ⟨hr1.alloc _, fun h => by cases h⟩) (by rw [catL2, List.length_append]; simp only [sealL, List.length_cons, List.length_nil]; omega)).mono ?_
  rintro e w2 ⟨v, rfl, hown, hb2⟩
  go_wp2
  go_ret
  rw [catL2] at hown
  have hz : w.heap.size ≤ (w1.alloc (.cells #[.slice ao xs.length cap, .slice (some ⟨w.heap.size, 0, none⟩) 4 4] 26)).heap.size := by simp; omega
  exact ⟨v, rfl, hown.base hz, (hb1.alloc (by omega) _).trans (hb2.mono hz)⟩

theorem sealOf_n (ao : Option Addr) (n cap : Nat) (xs : List UInt8) (hn : n = xs.length) (w : World) (hx : Rd w ao xs) (hl : n ≤ 140737488355328) (ht : TabOk w) :
    Calls Tryd.prog 31 #[.slice ao n cap] w fun e w' => e = .returned (.slice (some ⟨w.heap.size, 0, none⟩) 4 4) ∧ Own w' w.heap.size (.slice (some ⟨w.heap.size, 0, none⟩) 4 4) (sealL xs) ∧ Below w.heap.size w w' ∧ w.heap.size < w'.heap.size := by subst hn; exact sealOf_any ao cap xs w hx hl ht
theorem crc_n (ao : Option Addr) (n cap : Nat) (xs : List UInt8) (hn : n = xs.length) (w : World) (hx : Rd w ao xs) (hl : n ≤ 140737488355328) (ht : TabOk w) :
    Calls Tryd.prog 43 #[.slice ao n cap] w fun e w' => e = .returned (.int .u32 (crcS xs : Nat)) ∧ w' = w := by subst hn; exact crc_any' ao cap xs w hx hl ht
theorem seal_n (ao : Option Addr) (n cap : Nat) (xs : List UInt8) (hn : n = xs.length) (w : World) (hx : Rd w ao xs) (hnil : ao = none → cap = 0) (hl : n + 4 ≤ 140737488355328) (ht : TabOk w) :
    Calls Tryd.prog 17 #[.slice ao n cap] w fun e w' => ∃ v, e = .returned v ∧ Own w' w.heap.size v (xs ++ sealL xs) ∧ Below w.heap.size w w' := by subst hn; exact seal_any ao cap xs w hx hnil hl ht
theorem Rd.of_own {w : World} {B : Nat} {ao : Option Addr} {n cap : Nat} {xs : List UInt8} (h : Own w B (.slice ao n cap) xs) : Rd w ao xs := by
  obtain ⟨a, c, hv, -, -, -, hr, -⟩ := h.val
  simp only [Value.slice.injEq] at hv
  rw [hv.1]
  exact hr
end Go.Proofs.YtnpcgegcoakbmaaDoor
