import Derived.Test.YtinphflminaijacDoorNumb
import Derived.Test.YtinphflminaijacDoorCrc
import Derived.Laws.BytesArg
import Derived.Lib.SlBytesConst
namespace Go.Proofs.YtinphflminaijacDoor
set_option linter.unusedVariables false
set_option linter.unusedSimpArgs false
open Go.RowKit

def numsOf (xs : List UInt8) : List Int := xs.map fun b => (b.toNat : Int)
theorem str_nums (xs : List UInt8) : strOfNums (numsOf xs) = ⟨xs.toArray⟩ := by
  unfold strOfNums numsOf
  congr 2
  rw [List.map_map]
  conv => rhs; rw [← List.map_id xs]
  apply List.map_congr_left
  intro a _
  simp
/-- string(b) of whatever readable slice -/
theorem conv_rd {w : World} {ao : Option Addr} {xs : List UInt8} (h : Rd w ao xs) (n cap : Nat) (hn : n = xs.length) :
    (convert 25 9 (.slice ao n cap)).run Tryd.prog w = .ok (.string ⟨xs.toArray⟩) w := by
  subst hn
  by_cases h0 : 0 < xs.length
  · obtain ⟨b, o, rfl, hc⟩ := h h0
    rw [run_convert_bytes_arg w 25 5 Tryd.underlying25 Tryd.underlying5 b o xs.length cap (numsOf xs) (by simp [numsOf]) (fun i hi => by rw [hc i hi]; simp [numsOf, hi]) 9 Tryd.underlying9, str_nums]
  · obtain rfl : xs = [] := List.eq_nil_of_length_eq_zero (by omega)
    rw [List.length_nil, run_convert_bytes_string w 25 9 5 _ 0 cap Tryd.underlying25 Tryd.underlying5 Tryd.underlying9]
    cases ao <;> simp [Conv.bytesToString, loadCells]
    all_goals rfl
theorem numV_ex : numV [130, 44, 7] = .tuple #[.int .u64 300, .int .i64 2, .int .i64 0] := by kernel_rfl
theorem dg300 : dg 300 = [130, 44] := by
  unfold dg
  rw [hiD_pos _ (by decide), show 300 / 128 / 128 = 0 from by decide, hiD_zero]
  decide
theorem crc_ex : bits .xor .u32 4294967295 (crcI [49, 50, 51, 52, 53, 54, 55, 56, 57]) = 3421780262 := by decide +kernel
set_option maxRecDepth 20000 in
set_option maxHeartbeats 400000 in
theorem knows_any (w : World) (ht : TabOk w) :
    Calls Tryd.prog 7 #[] w fun e w' => e = .returned (.bool true) ∧ Below w.heap.size w w' := by
  go_enter Tryd.func7, Tryd.ntmps7
  go_wp2_with fail
  refine (appendNumber_any none 0 [] 300 w (Rd.nil _ _) (fun _ => rfl) (by decide) (by decide)).mono ?_
  rintro e w1 ⟨v1, rfl, hown1, hb1⟩
  rw [dg300, List.nil_append] at hown1
  obtain ⟨ao, cap, rfl, hlc, -, -, hr1, -⟩ := hown1.val
  go_wp2_with fail
  refine (number_any _ 3 [130, 44, 7] _ (rd_lit w1 _ rfl _ 5 (0, 0) [130, 44, 7] rfl) (by decide) (by decide)).mono ?_
  rintro e w2 ⟨rfl, hw2⟩
  subst hw2
  rw [numV_ex]
  have hcv := conv_rd (hr1.alloc (.cells #[.int .u8 130, .int .u8 44, .int .u8 7] 5)) 2 cap rfl
  have kc := Lib.run_convert_bytes_const (P := Tryd.prog) (w1.alloc (.cells #[.int .u8 130, .int .u8 44, .int .u8 7] 5)) 25 5 #[.int .u8 49, .int .u8 50, .int .u8 51, .int .u8 52, .int .u8 53, .int .u8 54, .int .u8 55, .int .u8 56, .int .u8 57] 9 9 Tryd.underlying25 Tryd.underlying5
  have hz : (w1.alloc (.cells #[.int .u8 130, .int .u8 44, .int .u8 7] 5)).heap.size = w1.heap.size + 1 := by simp
  rw [hz] at kc
  clear hz
  go_wp2_with fail
  refine (crc_any (some ⟨w1.heap.size + 1, 0, none⟩) 9 [49, 50, 51, 52, 53, 54, 55, 56, 57] _ ?h1 (by decide) ?h2).mono ?_
  case h1 => exact rd_lit _ _ (by simp) _ 5 _ _ rfl
  case h2 => exact ((ht.below hb1).alloc _).alloc _
  rintro e w3 ⟨rfl, hw3⟩
  subst hw3
  rw [crc_ex]
  have hs1 := hb1.size
  go_wp2
  go_ret
  exact ⟨rfl, (hb1.alloc hs1 _).alloc (by simp; omega) _⟩
end Go.Proofs.YtinphflminaijacDoor
