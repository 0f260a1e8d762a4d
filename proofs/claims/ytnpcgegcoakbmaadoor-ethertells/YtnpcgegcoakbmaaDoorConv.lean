import Derived.Test.YtnpcgegcoakbmaaDoorNumb
import Derived.Test.YtnpcgegcoakbmaaDoorCrc
import Derived.Laws.BytesArg
import Derived.Lib.SlBytesConst
namespace Go.Proofs.YtnpcgegcoakbmaaDoor
set_option linter.unusedVariables false
set_option linter.unusedSimpArgs false
open Go.RowKit

def numsOf (xs : List UInt8) : List Int := xs.map fun b => (b.toNat : Int)
theorem str_nums (xs : List UInt8) : strOfNums (numsOf xs) = ⟨xs.toArray⟩ := by
  unfold strOfNums numsOf
  congr 2
  rw [List.map_map]
  conv => rhs; rw [← List.map_id xs]
  apply List.map_congr_left
  intro a _
  simp
/-- string(b) of whatever readable slice -/
theorem conv_rd {w : World} {ao : Option Addr} {xs : List UInt8} (h : Rd w ao xs) (n cap : Nat) (hn : n = xs.length) :
    (convert 26 9 (.slice ao n cap)).run Tryd.prog w = .ok (.string ⟨xs.toArray⟩) w := by
  subst hn
  by_cases h0 : 0 < xs.length
  · obtain ⟨b, o, rfl, hc⟩ := h h0
    rw [run_convert_bytes_arg w 26 5 Tryd.underlying26 Tryd.underlying5 b o xs.length cap (numsOf xs) (by simp [numsOf]) (fun i hi => by rw [hc i hi]; simp [numsOf, hi]) 9 Tryd.underlying9, str_nums]
  · obtain rfl : xs = [] := List.eq_nil_of_length_eq_zero (by omega)
    rw [List.length_nil, run_convert_bytes_string w 26 9 5 _ 0 cap Tryd.underlying26 Tryd.underlying5 Tryd.underlying9]
    cases ao <;> simp [Conv.bytesToString, loadCells]
    all_goals rfl
theorem numV_ex : numV [130, 44, 7] = .tuple #[.int .u64 300, .int .i64 2, .int .i64 0] := by kernel_rfl
theorem dg300 : dg 300 = [130, 44] := by
  unfold dg
  rw [hiD_pos _ (by decide), show 300 / 128 / 128 = 0 from by decide, hiD_zero]
  decide
theorem crc_ex : bits .xor .u32 4294967295 (crcI [49, 50, 51, 52, 53, 54, 55, 56, 57]) = 3421780262 := by decide +kernel
end Go.Proofs.YtnpcgegcoakbmaaDoor
