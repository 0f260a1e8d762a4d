import Derived.Test.YtekfolppahnpoaaDBld
import Derived.ChangeKeysEq
namespace Go.Proofs.Ytekfolppahnpoaa
set_option linter.unusedVariables false
set_option linter.unusedSimpArgs false
open Go.RowKit
theorem bv_arr (xs : List UInt8) (i : Nat) (h : i < xs.length) : (bv xs).toArray[i]? = some (.int .u8 (xs[i].toNat : Int)) := by simp [bv_get xs i h]
theorem z128_at (i : Nat) (h : i < 128) : z128[i]? = some (.int .u8 0) := by simp [z128, h]
theorem part5 (C : Array Value) (i : Nat) (v : Int) (w : World) (h : C[i]? = some (.int .u8 v)) : (part 5 C (i * 1)).run Try.prog w = .ok (.int .u8 v) w := by
  have u5 := Try.underlying5
  rw [Nat.mul_one]
  have hag : (isAgg 5).run Try.prog w = .ok false w := by
    unfold isAgg
    rw [Sem.run_bind, run_underlying u5 w]
    rfl
  simp [part, hag, h]
theorem eql5 (d : Nat) (a b : Int) (w : World) : (Op.equalIn (d + 1) 5 (.int .u8 a) (.int .u8 b)).run Try.prog w = .ok (a == b) w := by
  have u5 := Try.underlying5
  simp only [Op.equalIn, Sem.run_bind, run_underlying u5]
  rfl
theorem eqItems_zero (d : Nat) (xs : List UInt8) (hl : xs.length = 128) (w : World) : ∀ (is : List Nat), (∀ i ∈ is, i < 128) → (Op.eqItems (d + 1) 5 1 (bv xs).toArray z128 is).run Try.prog w = .ok (is.all fun i => xs.getD i 0 == 0) w
  | [], _ => by simp [Op.eqItems]
  | i :: is, h => by
    have hi : i < 128 := h i (by simp)
    have ih := eqItems_zero d xs hl w is (fun j hj => h j (by simp [hj]))
    have e1 := part5 (bv xs).toArray i _ w (bv_arr xs i (by omega))
    have e2 := part5 z128 i 0 w (z128_at i hi)
    simp only [Op.eqItems, Sem.run_bind, e1, e2, eql5, Result.andThen_ok]
    have e : (((xs[i]'(by omega)).toNat : Int) == 0) = (xs.getD i 0 == 0) := by
      rw [List.getD_eq_getElem?_getD, List.getElem?_eq_getElem (by omega), Option.getD_some, Bool.eq_iff_iff]
      simp only [beq_iff_eq]
      constructor
      · intro h; exact UInt8.toNat_inj.1 (by simp; omega)
      · intro h; rw [h]; rfl
    rw [e]
    cases hb : (xs.getD i 0 == 0)
    · simp only [Bool.not_false, if_true, Sem.run_pure, List.all_cons, hb, Bool.false_and]
    · simp only [Bool.not_true, Bool.false_eq_true, if_false, ih, List.all_cons, hb, Bool.true_and]
theorem all_range (xs : List UInt8) : ((List.range xs.length).all fun i => xs.getD i 0 == 0) = xs.all (· == 0) := by
  rw [Bool.eq_iff_iff, List.all_eq_true, List.all_eq_true]
  constructor
  · intro h x hx
    obtain ⟨i, hi, rfl⟩ := List.getElem_of_mem hx
    have := h i (by simpa using hi)
    simpa [List.getD_eq_getElem?_getD, hi] using this
  · intro h i hi
    have hi' : i < xs.length := by simpa using hi
    have := h xs[i] (List.getElem_mem hi')
    simpa [List.getD_eq_getElem?_getD, hi'] using this
theorem eq_text (d : Nat) (xs : List UInt8) (hl : xs.length = 128) (w : World) : (Op.equalIn (d + 2) 61 (.agg (bv xs).toArray) (.agg z128)).run Try.prog w = .ok (xs.all (· == 0)) w := by
  obtain ⟨i0, hi, hz0, hz1, hz2⟩ := info_parts info5
  rw [run_equalIn_array w (d + 1) _ _ Try.underlying61 hi, show Try.prog.cellsOf 5 = 1 from by kernel_rfl, eqItems_zero d xs hl w _ (fun i hi => by simpa using hi), ← hl, all_range]
theorem build_text (w : World) : (Instr.build 61 #[]).run Try.prog w = .ok (.agg z128) w := run_build w _ _ _ (by kernel_rfl)
end Go.Proofs.Ytekfolppahnpoaa
