import Derived.Test.YtgdkiejlggiakacBase
import Derived.Laws.MakeOwn
namespace Go.Proofs.Ytgdkiejlggiakac
set_option linter.unusedVariables false
set_option linter.unusedSimpArgs false
open Go.RowKit
/-- the 129 cells of a sector that is zeros -/
def z129 : Array Value := (Array.replicate 128 (.int .u8 0)).push (.bool false)
theorem info_sec : (Try.prog.info? 68).map (fun i => (i.zero, i.size, i.bytes)) = some (some (.agg z129), 129, 129) := by kernel_rfl
theorem make_secs (n : Nat) (hn : n ≤ 65536) (w : World) : (Instr.makeSlice 52 (.int .i64 (n : Int)) (.int .i64 (n : Int))).run Try.prog w = .ok (.slice (some ⟨w.heap.size, 0, none⟩) n n) (w.alloc (.cells (madeCells z129 (n * 129)) 68)) := by
  obtain ⟨i, hi, hzz⟩ := Option.map_eq_some_iff.1 info_sec
  simp only [Prod.mk.injEq] at hzz
  obtain ⟨hz, hs, hb⟩ := hzz
  have hr := run_make (P := Try.prog) (w := w) 52 68 i _ Try.underlying52 hi hz .i64 .i64 n n (by omega) (Int.le_refl _) (by rw [hb]; omega) (by omega)
  simp only [Int.toNat_natCast, hs] at hr
  exact hr
set_option maxRecDepth 20000 in
theorem new_bad (n : Int) (hn : n < 1 ∨ 65536 < n) (w : World) :
    Calls Try.prog 9 #[.int .i64 n] w fun e w' => e = .returned (.tuple #[.pointer none, .int .i64 1]) ∧ w' = w := by
  by_cases h1 : n < 1
  · go_enter Try.func9, Try.ntmps9
    go_wp2
    go_ret2
    exact ⟨rfl, rfl⟩
  · have h2 : 65536 < n := by omega
    go_enter Try.func9, Try.ntmps9
    go_wp2
    go_ret2
    exact ⟨rfl, rfl⟩
/-- the world behind New -/
def newW (w : World) (n : Nat) : World :=
  ((w.alloc (.cells (madeCells z129 (n * 129)) 68)).alloc (.map #[] 0)).alloc (.cells #[.slice (some ⟨w.heap.size, 0, none⟩) n n, .map (some (w.heap.size + 1)), .bool false, .int .i64 (-1)] 55)
set_option maxRecDepth 20000 in
theorem new_t (n : Nat) (h1 : 1 ≤ n) (h2 : n ≤ 65536) (w : World) :
    Calls Try.prog 9 #[.int .i64 (n : Int)] w fun e w' => e = .returned (.tuple #[.pointer (some ⟨w.heap.size + 2, 0, none⟩), .int .i64 0]) ∧ w' = newW w n := by
  have hm := make_secs n h2
  have hmm := @run_makeMap Try.prog
  have a1 : ¬ (n : Int) < 1 := by omega
  have a2 : ¬ (65536 : Int) < (n : Int) := by omega
  unfold newW
  go_enter Try.func9, Try.ntmps9
  go_wp2
  go_ret2
  exact ⟨rfl, rfl⟩
end Go.Proofs.Ytgdkiejlggiakac
namespace Go.Proofs.Ytgdkiejlggiakac
set_option linter.unusedVariables false
set_option linter.unusedSimpArgs false
open Go.RowKit

/-- the digits above the last one -/
def hiF : Nat → Nat → List UInt8
  | 0, _ => []
  | f + 1, n => if n = 0 then [] else hiF f (n / 128) ++ [UInt8.ofNat (n % 128 + 128)]
def hiD (n : Nat) : List UInt8 := hiF n n
/-- the bytes of a number -/
def dg (n : Nat) : List UInt8 := hiD (n / 128) ++ [UInt8.ofNat (n % 128)]
theorem hiF_zero (f : Nat) : hiF f 0 = [] := by cases f <;> simp [hiF]
theorem hiF_same : ∀ (f g n : Nat), n ≤ f → n ≤ g → hiF f n = hiF g n
  | 0, g, n, hf, _ => by obtain rfl : n = 0 := by omega
                         rw [hiF_zero, hiF_zero]
  | f + 1, 0, n, _, hg => by obtain rfl : n = 0 := by omega
                             rw [hiF_zero, hiF_zero]
  | f + 1, g + 1, n, hf, hg => by
    simp only [hiF]
    by_cases h : n = 0
    · rw [if_pos h, if_pos h]
    · rw [if_neg h, if_neg h, hiF_same f g (n / 128) (by omega) (by omega)]
theorem hiD_zero : hiD 0 = [] := hiF_zero 0
theorem hiD_pos (n : Nat) (h : n ≠ 0) : hiD n = hiD (n / 128) ++ [UInt8.ofNat (n % 128 + 128)] := by
  obtain ⟨m, rfl⟩ : ∃ m, n = m + 1 := ⟨n - 1, by omega⟩
  unfold hiD
  rw [hiF, if_neg h, hiF_same m ((m + 1) / 128) _ (by omega) (Nat.le_refl _)]
theorem hiD_len (k : Nat) : ∀ n, n < 128 ^ k → (hiD n).length ≤ k := by
  induction k with
  | zero => intro n h; have : n = 0 := by simp at h; exact h
            subst this; simp [hiD_zero]
  | succ k ih =>
    intro n h
    by_cases h0 : n = 0
    · subst h0; simp [hiD_zero]
    · rw [hiD_pos n h0, List.length_append]
      have := ih (n / 128) (by rw [Nat.pow_succ] at h; omega)
      simp only [List.length_cons, List.length_nil]; omega
theorem dg_len (n : Nat) (h : n < 18446744073709551616) : 1 ≤ (dg n).length ∧ (dg n).length ≤ 10 := by
  unfold dg
  have := hiD_len 9 (n / 128) (by omega)
  simp only [List.length_append, List.length_cons, List.length_nil]; omega

theorem pow_lim (m k : Nat) (h : m < 128 ^ (k + 1)) (h' : 128 ≤ m) : 1 ≤ k ∧ m / 128 < 128 ^ k := by
  rw [Nat.pow_succ] at h
  refine ⟨?_, by omega⟩
  rcases k with _ | k
  · simp at h; omega
  · omega
theorem u8_lo (m : Nat) : ((UInt8.ofNat (m % 128)).toNat : Int) = ((m % 128 : Nat) : Int) := by
  rw [UInt8.toNat_ofNat']; omega
theorem u8_hi (m : Nat) : ((UInt8.ofNat (m % 128 + 128)).toNat : Int) = ((m % 128 + 128 : Nat) : Int) := by
  rw [UInt8.toNat_ofNat']; omega

end Go.Proofs.Ytgdkiejlggiakac
