import Derived.Test.YtkdgjfjcpgiokaaGreatGEnd
namespace Go.Proofs.YtkdgjfjcpgiokaaGreat
set_option linter.unusedVariables false
set_option linter.unusedSimpArgs false
open Go.RowKit
theorem cntR_le (l : List Rg) (a : Int) : cntR l a ≤ l.length := List.countP_le_length
def LeastOut (xs : List Rg) (w : World) (e : Ending) (w' : World) : Prop := ∃ (v : Value) (out : List Rg), e = .returned v ∧ OwnR w' w.heap.size v out ∧ Lst out ∧ (∀ i, hasR out i ↔ hasR xs i) ∧ out.length ≤ xs.length ∧ Below w.heap.size w w'
def okN (l : List Rg) : Value → Value → Nat
  | f, .bool true => cntR l (intOf f) + 1
  | _, _ => 0
theorem okN_t (l : List Rg) (f : Int) : okN l (.int .i64 f) (.bool true) = cntR l f + 1 := rfl
theorem okN_f (l : List Rg) (f : Int) : okN l (.int .i64 f) (.bool false) = 0 := rfl
theorem LI.start {xs : List Rg} (h : RI xs) : LI xs [] (-9223372036854775808) := ⟨Lst.nil, by simp, (fun h => absurd rfl h), fun i hi => ⟨fun h9 => absurd h9 (hasR_nil i), fun ⟨x, hx, h1, _⟩ => by have := (h x hx).1.1; omega⟩⟩
section
set_option maxRecDepth 20000
set_option maxHeartbeats 1600000
end
end Go.Proofs.YtkdgjfjcpgiokaaGreat
namespace Go.Proofs.YtkdgjfjcpgiokaaGreat
set_option linter.unusedVariables false
set_option linter.unusedSimpArgs false
open Go.RowKit
theorem RI.app {l m : List Rg} (h1 : RI l) (h2 : RI m) : RI (l ++ m) := fun x hx => by
  rcases List.mem_append.1 hx with h | h
  · exact h1 x h
  · exact h2 x h
def addL (l : List Rg) (i : Int) : List Rg := if i = 9223372036854775807 then l else l ++ [(i, i + 1)]
theorem LeastOut.base {xs : List Rg} {w0 w : World} {e : Ending} {w' : World} (h : LeastOut xs w e w') (hb : Below w0.heap.size w0 w) : LeastOut xs w0 e w' := by
  obtain ⟨v, out, h1, h2, h3, h4, h5, h6⟩ := h
  exact ⟨v, out, h1, h2.base hb.size, h3, h4, h5, below_next hb h6⟩
section
set_option maxRecDepth 20000
set_option maxHeartbeats 1600000
end
end Go.Proofs.YtkdgjfjcpgiokaaGreat
namespace Go.Proofs.YtkdgjfjcpgiokaaGreat
set_option linter.unusedVariables false
set_option linter.unusedSimpArgs false
open Go.RowKit
theorem sumU_snoc : ∀ (l : List Rg) (s : Int) (x : Rg), sumU s (l ++ [x]) = (sumU s l + (x.2 - x.1)) % 18446744073709551616
  | [], s, x => rfl
  | y :: l, s, x => sumU_snoc l _ x
theorem sumU_in : ∀ (l : List Rg) (s : Int), 0 ≤ s ∧ s < 18446744073709551616 → 0 ≤ sumU s l ∧ sumU s l < 18446744073709551616
  | [], s, h => h
  | y :: l, s, h => sumU_in l _ (by omega)
def totI (s : Int) : Int := if s > 9223372036854775807 then 9223372036854775807 else s
def TotOut (xs : List Rg) (w : World) (e : Ending) (w' : World) : Prop := ∃ out : List Rg, Lst out ∧ (∀ i, hasR out i ↔ hasR xs i) ∧ e = .returned (.int .i64 (totI (sumU 0 out))) ∧ Below w.heap.size w w'
theorem wrap_sub1 (s x1 x2 : Int) : IntKind.u64.wrap (IntKind.u64.wrap (s + IntKind.u64.wrap x2) - IntKind.u64.wrap x1) = (s + (x2 - x1)) % 18446744073709551616 := by
  simp only [IntKind.wrap_u64]
  omega
theorem wrap_sub2 (s x1 x2 : Int) : IntKind.u64.wrap (s + IntKind.u64.wrap (IntKind.u64.wrap x2 - IntKind.u64.wrap x1)) = (s + (x2 - x1)) % 18446744073709551616 := by
  simp only [IntKind.wrap_u64]
  omega
section
set_option maxRecDepth 20000
set_option maxHeartbeats 1600000
end
end Go.Proofs.YtkdgjfjcpgiokaaGreat
