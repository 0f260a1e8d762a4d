import Derived.Test.YtdoikcolkbjnfaaGreatApp
import Derived.Lib.AppendStr
import Derived.Deep.AppendLies
import Derived.Lib.Strings
import Derived.Laws.BytesArg
import Derived.RegionTactic
import Derived.ChangeAlike
namespace Go.Proofs.YtdoikcolkbjnfaaGreat
set_option linter.unusedVariables false
set_option linter.unusedSimpArgs false
open Go.RowKit
def marksL : List UInt8 := [11, 12, 13, 14, 15, 16, 17, 18]
def marksB : ByteArray := ⟨#[11, 12, 13, 14, 15, 16, 17, 18]⟩
theorem strCells_marks : Lib.strCells marksB = bv marksL := rfl

/-- append(v, s...), v of the call's own, s a string -/
theorem wp_app_str {w : World} {ops : Array Oper} {rest : List Oper} {o : Oper} {a : Act} {Q : Exit → Act → World → Prop} (hgd : o.guard = none) (s x : Operand)
    (ho : o.op = .call { callee := .builtin .append, args := #[s, x], argTypes := #[34, 9] }) (B : Nat) (v : Value) (xs : List UInt8)
    (hs : a.eval s = v) (hown : Own w B v xs) (hx : a.eval x = .string marksB)
    (hb : xs.length + 8 ≤ 140737488355328) (hbase : B ≤ w.heap.size)
    (h : ∀ v' w', Own w' B v' (xs ++ marksL) → w.grownBy w' v.ownBlock → wpList Tryz.prog ops Q rest (a.put o.dst v') w') : wpList Tryz.prog ops Q (o :: rest) a w := by
  obtain ⟨i0, hi, hz0, hz1, hz2⟩ := info_parts info5
  obtain ⟨v', w', hr, h2, h3, -⟩ := Lib.run_append_own_string (P := Tryz.prog) w B 34 9 o.type 5 i0 Tryz.underlying34 Tryz.underlying9 hi hz0 hz1 hz2 v xs.length (bv xs) hown marksB
    (by simp only [maxLen]; show xs.length + 8 ≤ _; omega) (by show xs.length + 8 ≤ _; omega) hbase
  refine Lib.wpList_append_run w hgd s x 34 9 ho v (.string marksB) hs hx v' w' hr ?_
  refine h v' w' ?_ h3
  unfold Own
  rw [bv_append, List.length_append, ← strCells_marks]
  exact h2

theorem conv_rd' {w : World} {ao : Option Addr} {xs : List UInt8} (h : Rd w ao xs) (n cap : Nat) (hn : n = xs.length) :
    (convert 34 9 (.slice ao n cap)).run Tryz.prog w = .ok (.string ⟨xs.toArray⟩) w := by
  subst hn
  by_cases h0 : 0 < xs.length
  · obtain ⟨b, o, rfl, hc⟩ := h h0
    rw [run_convert_bytes_arg w 34 5 Tryz.underlying34 Tryz.underlying5 b o xs.length cap (xs.map fun b => (b.toNat : Int)) (by simp) (fun i hi => by rw [hc i hi]; simp [hi]) 9 Tryz.underlying9]
    congr 2
    unfold strOfNums
    congr 2
    rw [List.map_map]
    conv => rhs; rw [← List.map_id xs]
    apply List.map_congr_left
    intro a _
    simp
  · obtain rfl : xs = [] := List.eq_nil_of_length_eq_zero (by omega)
    rw [List.length_nil, run_convert_bytes_string w 34 9 5 _ 0 cap Tryz.underlying34 Tryz.underlying5 Tryz.underlying9]
    cases ao <;> simp [Conv.bytesToString, loadCells]
    all_goals rfl

/-- every byte changed by exclusive or -/
def xorL (c : UInt8) (xs : List UInt8) : List UInt8 := xs.map (· ^^^ c)
theorem xorL_len (c : UInt8) (xs : List UInt8) : (xorL c xs).length = xs.length := by simp [xorL]
theorem set_mid (A : List UInt8) (x y : UInt8) (R : List UInt8) (k : Nat) (hk : k = A.length) : (A ++ x :: R).set k y = A ++ y :: R := by
  subst hk
  rw [List.set_append_right _ _ (Nat.le_refl _), Nat.sub_self]
  rfl
theorem get_mid (A : List UInt8) (x : UInt8) (R : List UInt8) (k : Nat) (hk : k = A.length) (h : k < (A ++ x :: R).length) : (A ++ x :: R)[k] = x := by
  subst hk
  rw [List.getElem_append_right (Nat.le_refl _)]
  simp
theorem xorL_app (c : UInt8) (xs ys : List UInt8) : xorL c (xs ++ ys) = xorL c xs ++ xorL c ys := by unfold xorL; rw [List.map_append]
theorem xorL_snoc (c : UInt8) (xs : List UInt8) (k : Nat) (h : k < xs.length) (ys : List UInt8) : (xorL c (xs.take k) ++ (xs.drop k ++ ys)).set k (xs[k] ^^^ c) = xorL c (xs.take (k + 1)) ++ (xs.drop (k + 1) ++ ys) := by
  have hl : k = (xorL c (xs.take k)).length := by rw [xorL_len, List.length_take]; omega
  rw [List.drop_eq_getElem_cons h, List.cons_append, set_mid _ _ _ _ k hl, List.take_succ_eq_append_getElem h, xorL_app, List.append_assoc]
  rfl
theorem xorL_at (c : UInt8) (xs : List UInt8) (k : Nat) (h : k < xs.length) (ys : List UInt8) (h2 : k < (xorL c (xs.take k) ++ (xs.drop k ++ ys)).length) : (xorL c (xs.take k) ++ (xs.drop k ++ ys))[k] = xs[k] := by
  have hl : k = (xorL c (xs.take k)).length := by rw [xorL_len, List.length_take]; omega
  have e : xorL c (xs.take k) ++ (xs.drop k ++ ys) = xorL c (xs.take k) ++ xs[k] :: (xs.drop (k + 1) ++ ys) := by rw [List.drop_eq_getElem_cons h, List.cons_append]
  simp only [e]
  exact get_mid _ _ _ k hl _

end Go.Proofs.YtdoikcolkbjnfaaGreat
