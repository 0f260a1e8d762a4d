import Derived.Test.YtpakkpahcpgnnaaGreatDoorXK
import Derived.Lib.AppendZeros
import Derived.Laws.AppendOwnNone
import Derived.Lib.AppendStr
import Derived.Deep.AppendLies
import Derived.Lib.Strings
import Derived.Laws.BytesArg
import Derived.RegionTactic
import Derived.ChangeAlike
set_option linter.unusedVariables false
set_option linter.unusedSimpArgs false
namespace Go.Proofs.YtpakkpahcpgnnaaGreatDoor
open Go.RowKit
theorem info5 : (Tryz.prog.info? 5).map (fun i => (i.zero, i.size, i.bytes)) = some (some (.int .u8 0), 1, 1) := by kernel_rfl
theorem wp_app {w : World} {ops : Array Oper} {rest : List Oper} {o : Oper} {a : Act} {Q : Exit → Act → World → Prop} (hgd : o.guard = none) (s x : Operand)
 (ho : o.op = .call { callee := .builtin .append, args := #[s, x], argTypes := #[22, 22] }) (B : Nat) (v : Value) (xs ys : List UInt8) (ao : Option Addr) (cap : Nat)
 (hs : a.eval s = v) (hown : Own w B v xs) (hx : a.eval x = .slice ao ys.length cap) (hr : Rd w ao ys) (hnil : ao = none → cap = 0)
 (hb : xs.length + ys.length ≤ 140737488355328) (hbase : B ≤ w.heap.size)
 (h : ∀ v' w', Own w' B v' (xs ++ ys) → w.grownBy w' v.ownBlock → wpList Tryz.prog ops Q rest (a.put o.dst v') w') : wpList Tryz.prog ops Q (o :: rest) a w := by
 obtain ⟨i0, hi, hz0, hz1, hz2⟩ := info_parts info5; rcases ao with _ | ad
 · have h0 : ys = [] := by
    rcases ys with _ | ⟨y, ys⟩
    · rfl
    · obtain ⟨b, o, h1, _⟩ := hr (by simp); cases h1
   subst h0; obtain rfl := hnil rfl; refine wpList_append_own_none hgd s x 22 ho B 5 i0 1 Tryz.underlying22 hi v xs.length (bv xs) hs hown hx ?_; exact h v w (by simpa using hown) ⟨rfl, rfl, rfl, Nat.le_refl _, fun _ _ _ => rfl⟩
 · refine wpList_append_own w hgd s x 22 ho B 5 i0 (.int .u8 0) 1 1 Tryz.underlying22 hi hz0 hz1 hz2 rfl (by decide) v xs.length (bv xs) hs hown ad ys.length cap (bv ys) hx (by simp [bv_length]) ?_ (bv_one ys) (by simp only [maxLen]; omega) (by omega) hbase ?_
   · intro j u hj
     have hlt : j < ys.length := by
      have := (List.getElem?_eq_some_iff.1 hj).1
      simpa [bv_length] using this
     obtain ⟨b, o, h1, hc⟩ := hr (by omega); cases h1; rw [bv_get ys j hlt] at hj; rw [Go.WideShapes.add_plain, hc j hlt]; exact hj
   · intro v' w' h1 h2 _; exact h v' w' (by unfold Own; rw [bv_append, List.length_append]; exact h1) h2
open Go.RowKit
theorem conv_rd' {w : World} {ao : Option Addr} {xs : List UInt8} (h : Rd w ao xs) (n cap : Nat) (hn : n = xs.length) :
 (convert 22 9 (.slice ao n cap)).run Tryz.prog w = .ok (.string ⟨xs.toArray⟩) w := by
 subst hn
 by_cases h0 : 0 < xs.length
 · obtain ⟨b, o, rfl, hc⟩ := h h0; rw [run_convert_bytes_arg w 22 5 Tryz.underlying22 Tryz.underlying5 b o xs.length cap (xs.map fun b => (b.toNat : Int)) (by simp) (fun i hi => by rw [hc i hi]; simp [hi]) 9 Tryz.underlying9]
   congr 2
   unfold strOfNums
   congr 2
   rw [List.map_map]
   conv => rhs; rw [← List.map_id xs]
   apply List.map_congr_left; intro a _; simp
 · obtain rfl : xs = [] := List.eq_nil_of_length_eq_zero (by omega); rw [List.length_nil, run_convert_bytes_string w 22 9 5 _ 0 cap Tryz.underlying22 Tryz.underlying5 Tryz.underlying9]; cases ao <;> simp [Conv.bytesToString, loadCells]
   all_goals rfl
end Go.Proofs.YtpakkpahcpgnnaaGreatDoor
