import Derived.Test.YtdpkommmkcmifaaHelp
namespace Go.Proofs.Ytdpkommmkcmifaa
set_option linter.unusedVariables false
set_option linter.unusedSimpArgs false
open Go.RowKit
theorem own_lit1 (w : World) (z : Int) (c : UInt8) (hz : z = (c.toNat : Int)) : Own (w.alloc (.cells #[.int .u8 z] 5)) w.heap.size (.slice (some ⟨w.heap.size, 0, none⟩) 1 1) [c] := by
  subst hz
  exact World.ownsRow_lit (base := w.heap.size) (e := 5) (size := 1) w #[.int .u8 (c.toNat : Int)] 1 (Nat.le_refl _) (by simp [maxLen]) rfl
theorem hiD_step (m : Nat) (suf : List UInt8) (h : m ≠ 0) : hiD m ++ suf = hiD (m / 128) ++ ([UInt8.ofNat (m % 128 + 128)] ++ suf) := by
  rw [hiD_pos m h, List.append_assoc]
theorem appendNumber_n (ao : Option Addr) (l cap : Nat) (xs : List UInt8) (hl0 : l = xs.length) (n : Nat) (w : World) (hx : Rd w ao xs) (hnil : ao = none → cap = 0) (hl : l + 10 ≤ 140737488355328) (hn : n < 18446744073709551616) :
    Calls Try.prog 55 #[.slice ao l cap, .int .u64 n] w fun e w' => ∃ v, e = .returned v ∧ Own w' w.heap.size v (xs ++ dg n) ∧ Below w.heap.size w w' := by
  subst hl0; exact appendNumber_any ao cap xs n w hx hnil hl hn
end Go.Proofs.Ytdpkommmkcmifaa
