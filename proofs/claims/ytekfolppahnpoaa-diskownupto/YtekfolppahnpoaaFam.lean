import Derived.Test.YtekfolppahnpoaaApp
import Derived.Lib.AppendStr
import Derived.Deep.AppendLies
import Derived.Lib.Strings
import Derived.Laws.BytesArg
import Derived.RegionTactic
import Derived.ChangeAlike
namespace Go.Proofs.Ytekfolppahnpoaa
set_option linter.unusedVariables false
set_option linter.unusedSimpArgs false
open Go.RowKit
def marksL : List UInt8 := [11, 12, 13, 14, 15, 16, 17, 18]
def marksB : ByteArray := ⟨#[11, 12, 13, 14, 15, 16, 17, 18]⟩
theorem strCells_marks : Lib.strCells marksB = bv marksL := rfl

/-- append(v, s...), v of the call's own, s a string -/
theorem wp_app_str {w : World} {ops : Array Oper} {rest : List Oper} {o : Oper} {a : Act} {Q : Exit → Act → World → Prop} (hgd : o.guard = none) (s x : Operand)
    (ho : o.op = .call { callee := .builtin .append, args := #[s, x], argTypes := #[40, 9] }) (B : Nat) (v : Value) (xs : List UInt8)
    (hs : a.eval s = v) (hown : Own w B v xs) (hx : a.eval x = .string marksB)
    (hb : xs.length + 8 ≤ 140737488355328) (hbase : B ≤ w.heap.size)
    (h : ∀ v' w', Own w' B v' (xs ++ marksL) → w.grownBy w' v.ownBlock → wpList Try.prog ops Q rest (a.put o.dst v') w') : wpList Try.prog ops Q (o :: rest) a w := by
  obtain ⟨i0, hi, hz0, hz1, hz2⟩ := info_parts info5
  obtain ⟨v', w', hr, h2, h3, -⟩ := Lib.run_append_own_string (P := Try.prog) w B 40 9 o.type 5 i0 Try.underlying40 Try.underlying9 hi hz0 hz1 hz2 v xs.length (bv xs) hown marksB
    (by simp only [maxLen]; show xs.length + 8 ≤ _; omega) (by show xs.length + 8 ≤ _; omega) hbase
  refine Lib.wpList_append_run w hgd s x 40 9 ho v (.string marksB) hs hx v' w' hr ?_
  refine h v' w' ?_ h3
  unfold Own
  rw [bv_append, List.length_append, ← strCells_marks]
  exact h2

theorem conv_rd' {w : World} {ao : Option Addr} {xs : List UInt8} (h : Rd w ao xs) (n cap : Nat) (hn : n = xs.length) :
    (convert 40 9 (.slice ao n cap)).run Try.prog w = .ok (.string ⟨xs.toArray⟩) w := by
  subst hn
  by_cases h0 : 0 < xs.length
  · obtain ⟨b, o, rfl, hc⟩ := h h0
    rw [run_convert_bytes_arg w 40 5 Try.underlying40 Try.underlying5 b o xs.length cap (xs.map fun b => (b.toNat : Int)) (by simp) (fun i hi => by rw [hc i hi]; simp [hi]) 9 Try.underlying9]
    congr 2
    unfold strOfNums
    congr 2
    rw [List.map_map]
    conv => rhs; rw [← List.map_id xs]
    apply List.map_congr_left
    intro a _
    simp
  · obtain rfl : xs = [] := List.eq_nil_of_length_eq_zero (by omega)
    rw [List.length_nil, run_convert_bytes_string w 40 9 5 _ 0 cap Try.underlying40 Try.underlying5 Try.underlying9]
    cases ao <;> simp [Conv.bytesToString, loadCells]
    all_goals rfl

/-- every byte changed by exclusive or -/
def xorL (c : UInt8) (xs : List UInt8) : List UInt8 := xs.map (· ^^^ c)
theorem xorL_len (c : UInt8) (xs : List UInt8) : (xorL c xs).length = xs.length := by simp [xorL]
theorem set_mid (A : List UInt8) (x y : UInt8) (R : List UInt8) (k : Nat) (hk : k = A.length) : (A ++ x :: R).set k y = A ++ y :: R := by
  subst hk
  rw [List.set_append_right _ _ (Nat.le_refl _), Nat.sub_self]
  rfl
theorem get_mid (A : List UInt8) (x : UInt8) (R : List UInt8) (k : Nat) (hk : k = A.length) (h : k < (A ++ x :: R).length) : (A ++ x :: R)[k] = x := by
  subst hk
  rw [List.getElem_append_right (Nat.le_refl _)]
  simp
theorem xorL_app (c : UInt8) (xs ys : List UInt8) : xorL c (xs ++ ys) = xorL c xs ++ xorL c ys := by unfold xorL; rw [List.map_append]
theorem xorL_snoc (c : UInt8) (xs : List UInt8) (k : Nat) (h : k < xs.length) (ys : List UInt8) : (xorL c (xs.take k) ++ (xs.drop k ++ ys)).set k (xs[k] ^^^ c) = xorL c (xs.take (k + 1)) ++ (xs.drop (k + 1) ++ ys) := by
  have hl : k = (xorL c (xs.take k)).length := by rw [xorL_len, List.length_take]; omega
  rw [List.drop_eq_getElem_cons h, List.cons_append, set_mid _ _ _ _ k hl, List.take_succ_eq_append_getElem h, xorL_app, List.append_assoc]
  rfl
theorem xorL_at (c : UInt8) (xs : List UInt8) (k : Nat) (h : k < xs.length) (ys : List UInt8) (h2 : k < (xorL c (xs.take k) ++ (xs.drop k ++ ys)).length) : (xorL c (xs.take k) ++ (xs.drop k ++ ys))[k] = xs[k] := by
  have hl : k = (xorL c (xs.take k)).length := by rw [xorL_len, List.length_take]; omega
  have e : xorL c (xs.take k) ++ (xs.drop k ++ ys) = xorL c (xs.take k) ++ xs[k] :: (xs.drop (k + 1) ++ ys) := by rw [List.drop_eq_getElem_cons h, List.cons_append]
  simp only [e]
  exact get_mid _ _ _ k hl _

/-- v is the slice at the head of block g -/
theorem own_head {w : World} {B : Nat} {v : Value} {xs : List UInt8} (h : Own w B v xs) (hp : 0 < xs.length) : ∃ g cap, v = .slice (some ⟨g, 0, none⟩) xs.length cap ∧ xs.length ≤ cap ∧ cap ≤ maxLen ∧ B ≤ g ∧ g < w.heap.size := by
  rcases h.2 with ⟨-, h0⟩ | ⟨g, cap, cur, rfl, hB, hg, hn, hm, -⟩
  · omega
  · exact ⟨g, cap, rfl, hn, hm, hB, (Array.getElem?_eq_some_iff.1 hg).1⟩

theorem own_alloc {w : World} {B : Nat} {v : Value} {xs : List UInt8} (h : Own w B v xs) (o : Obj) : Own (w.alloc o) B v xs := h.below ((Below.refl _ _).alloc (Nat.le_refl _) o)
/-- what was grown from a on, the row apart or a new one -/
theorem grown_step {a b c : World} {row row' : Option Nat} (h : a.grownBy b row) (k : b.grownBy c row') (hr : row' = row ∨ ∀ j, row' = some j → a.heap.size ≤ j) : a.grownBy c row :=
  ⟨k.os.trans h.os, k.tape.trans h.tape, k.output.trans h.output, Nat.le_trans h.size k.size, fun i hi hne => (k.block i (Nat.lt_of_lt_of_le hi h.size) (by
    rcases hr with rfl | hr
    · exact hne
    · intro e; have := hr i e.symm; omega)).trans (h.block i hi hne)⟩

/-- append(v, c) of one byte that has just been laid: where the new slice lies -/
theorem wp_app1 {w : World} {ops : Array Oper} {rest : List Oper} {o : Oper} {a : Act} {Q : Exit → Act → World → Prop} (hgd : o.guard = none) (s x : Operand)
    (ho : o.op = .call { callee := .builtin .append, args := #[s, x], argTypes := #[40, 40] }) (B : Nat) (v : Value) (n : Nat) (xs : List UInt8) (c : UInt8) (ad : Addr) (cap : Nat)
    (hs : a.eval s = v) (hn : n = xs.length) (hown : Own w B v xs) (hx : a.eval x = .slice (some ad) 1 cap) (hr : Rd w (some ad) [c])
    (hb : xs.length + 1 ≤ 140737488355328) (hbase : B ≤ w.heap.size)
    (h : ∀ g cap w', Own w' B (.slice (some ⟨g, 0, none⟩) (n + 1) cap) (xs ++ [c]) → w.grownBy w' v.ownBlock → (v.ownBlock = some g ∨ g = w.heap.size) → wpList Try.prog ops Q rest (a.put o.dst (.slice (some ⟨g, 0, none⟩) (n + 1) cap)) w') : wpList Try.prog ops Q (o :: rest) a w := by
  subst hn
  obtain ⟨i0, hi, hz0, hz1, hz2⟩ := info_parts info5
  refine wpList_append_lies w hgd s x 40 ho B 5 i0 (.int .u8 0) 1 1 Try.underlying40 hi hz0 hz1 hz2 rfl (by decide) v xs.length (bv xs) hs hown ad 1 cap (bv [c]) hx (by simp [bv_length]) ?_ (bv_one [c]) (by decide) (by simp only [maxLen]; omega) (by omega) hbase w.heap.size rfl ?_
  · intro j u hj
    have hlt : j < [c].length := by
      have := (List.getElem?_eq_some_iff.1 hj).1
      simpa [bv_length] using this
    obtain ⟨b, o, h1, hc⟩ := hr (by simp)
    cases h1
    rw [bv_get [c] j hlt] at hj
    rw [Go.WideShapes.add_plain, hc j hlt]
    exact hj
  · intro g cap w' h1 h2 h3 _
    exact h g cap w' (by unfold Own; rw [bv_append, List.length_append]; exact h1) h2 h3

end Go.Proofs.Ytekfolppahnpoaa
namespace Go.Proofs.Ytekfolppahnpoaa
set_option linter.unusedVariables false
set_option linter.unusedSimpArgs false
open Go.RowKit
/-- a row of memory: the type of its elements, the slice, what it holds -/
structure Row where
  e : TypeId
  v : Value
  xs : List Value
def Row.at (r : Row) (w : World) (B : Nat) : Prop := w.ownsRow B r.e 1 r.v r.xs.length r.xs
/-- rows of memory, no two of them in one block -/
structure Fam (w : World) (B : Nat) (rs : List Row) : Prop where
  own : ∀ j (h : j < rs.length), rs[j].at w B
  dis : ∀ i j (hi : i < rs.length) (hj : j < rs.length), i ≠ j → rs[i].v.ownBlock = none ∨ rs[i].v.ownBlock ≠ rs[j].v.ownBlock
theorem Row.at_lt {r : Row} {w : World} {B : Nat} (h : r.at w B) (g : Nat) (hg : r.v.ownBlock = some g) : B ≤ g ∧ g < w.heap.size := World.ownsRow.lt h g hg
theorem Row.at_below {r : Row} {w w' : World} {B : Nat} (h : r.at w B) (hb : Below w.heap.size w w') : r.at w' B :=
  World.ownsRow.kept h ⟨hb.os, hb.tape, hb.output, hb.size, fun k hk _ => hb.block k hk⟩ (by cases hv : r.v.ownBlock <;> simp) (row := none)
theorem Row.at_base {r : Row} {w : World} {B B' : Nat} (h : r.at w B) (hB : B' ≤ B) : r.at w B' := by
  refine ⟨h.1, ?_⟩
  rcases h.2 with h0 | ⟨g, cap, cur, hv, hg, q⟩
  · exact .inl h0
  · exact .inr ⟨g, cap, cur, hv, Nat.le_trans hB hg, q⟩
theorem Fam.nil (w : World) (B : Nat) : Fam w B [] := ⟨fun j h => by simp at h, fun i j h => by simp at h⟩
theorem Fam.below {w w' : World} {B : Nat} {rs : List Row} (h : Fam w B rs) (hb : Below w.heap.size w w') : Fam w' B rs :=
  ⟨fun j hj => Row.at_below (h.own j hj) hb, h.dis⟩
theorem Fam.base {w : World} {B B' : Nat} {rs : List Row} (h : Fam w B rs) (hB : B' ≤ B) : Fam w B' rs :=
  ⟨fun j hj => Row.at_base (h.own j hj) hB, h.dis⟩
/-- a row changes: in its block, or it goes to a new one -/
theorem Fam.step {w w' : World} {B : Nat} {rs : List Row} (h : Fam w B rs) (i : Nat) (hi : i < rs.length) (hg : w.grownBy w' rs[i].v.ownBlock) (r : Row) (hr : r.at w' B) (hb : r.v.ownBlock = rs[i].v.ownBlock ∨ ∀ g, r.v.ownBlock = some g → w.heap.size ≤ g) : Fam w' B (rs.set i r) := by
  have old : ∀ j (hj : j < rs.length), j ≠ i → rs[j].v.ownBlock = none ∨ (rs[j].v.ownBlock ≠ r.v.ownBlock ∧ r.v.ownBlock ≠ rs[j].v.ownBlock) := by
    intro j hj hne
    rcases hb with hb | hb
    · rw [hb]
      rcases h.dis j i hj hi hne with h1 | h1
      · exact .inl h1
      · exact .inr ⟨h1, fun e => h1 e.symm⟩
    · cases hv : rs[j].v.ownBlock with
      | none => exact .inl rfl
      | some g =>
        have h1 := (Row.at_lt (h.own j hj) g hv).2
        right
        refine ⟨fun e => ?_, fun e => ?_⟩
        · have := hb g e.symm; omega
        · have := hb g e; omega
  refine ⟨fun j hj => ?_, fun a b ha hb' hne => ?_⟩
  · rw [List.length_set] at hj
    rw [List.getElem_set]
    split
    · exact hr
    · rename_i hne
      exact World.ownsRow.kept (h.own j hj) hg (h.dis j i hj hi (fun e => hne e.symm))
  · rw [List.length_set] at ha hb'
    rw [List.getElem_set, List.getElem_set]
    split
    · split
      · omega
      · rename_i h1 h2
        rcases old b hb' (fun e => h2 e.symm) with h3 | h3
        · by_cases h4 : r.v.ownBlock = none
          · exact .inl h4
          · right; rw [h3]; exact h4
        · exact .inr h3.2
    · split
      · rename_i h1 h2
        rcases old a ha (fun e => h1 e.symm) with h3 | h3
        · exact .inl h3
        · exact .inr h3.1
      · exact h.dis a b ha hb' hne
/-- new rows beside -/
theorem Fam.app {w w' : World} {B : Nat} {rs qs : List Row} (h : Fam w B rs) (hb : Below w.heap.size w w') (hB : B ≤ w.heap.size) (k : Fam w' w.heap.size qs) : Fam w' B (rs ++ qs) := by
  refine ⟨fun j hj => ?_, fun i j hi hj hne => ?_⟩
  · rw [List.getElem_append]
    split
    · exact Row.at_below (h.own j (by assumption)) hb
    · exact Row.at_base (k.own (j - rs.length) (by rw [List.length_append] at hj; omega)) hB
  · rw [List.length_append] at hi hj
    rw [List.getElem_append, List.getElem_append]
    split
    · rename_i h1
      split
      · exact h.dis i j h1 (by assumption) hne
      · rename_i h2
        cases hv : rs[i].v.ownBlock with
        | none => exact .inl rfl
        | some g =>
          right
          intro e
          have h3 := (Row.at_lt (h.own i h1) g hv).2
          have h4 := (Row.at_lt (k.own (j - rs.length) (by omega)) g e.symm).1
          omega
    · rename_i h1
      split
      · rename_i h2
        cases hv : qs[i - rs.length].v.ownBlock with
        | none => exact .inl rfl
        | some g =>
          right
          intro e
          have h3 := (Row.at_lt (h.own j h2) g e.symm).2
          have h4 := (Row.at_lt (k.own (i - rs.length) (by omega)) g hv).1
          omega
      · exact k.dis _ _ (by omega) (by omega) (by omega)
theorem Fam.one {w : World} {B : Nat} {r : Row} (h : r.at w B) : Fam w B [r] :=
  ⟨fun j hj => by simp at hj; subst hj; exact h, fun i j hi hj hne => by simp at hi hj; omega⟩
theorem Fam.push {w w' : World} {B : Nat} {rs : List Row} (h : Fam w B rs) (hb : Below w.heap.size w w') (hB : B ≤ w.heap.size) (r : Row) (k : r.at w' w.heap.size) : Fam w' B (rs ++ [r]) := h.app hb hB (.one k)
/-- a block that is none of the rows' changes -/
theorem Fam.far {w w' : World} {B p : Nat} {rs : List Row} (h : Fam w B rs) (hg : w.grownBy w' (some p)) (hp : ∀ j (hj : j < rs.length), rs[j].v.ownBlock ≠ some p) : Fam w' B rs :=
  ⟨fun j hj => World.ownsRow.kept (h.own j hj) hg (.inr (hp j hj)), h.dis⟩
/-- some of the rows, in another order -/
theorem Fam.perm {w : World} {B : Nat} {rs : List Row} (h : Fam w B rs) (f : Nat → Nat) (qs : List Row) (hf : ∀ j (hj : j < qs.length), ∃ hl : f j < rs.length, qs[j] = rs[f j]) (hi : ∀ i j, i < qs.length → j < qs.length → f i = f j → i = j) : Fam w B qs := by
  refine ⟨fun j hj => ?_, fun i j hi' hj hne => ?_⟩
  · obtain ⟨hl, e⟩ := hf j hj
    rw [e]; exact h.own _ hl
  · obtain ⟨hl, e⟩ := hf j hj
    obtain ⟨hl', e'⟩ := hf i hi'
    rw [e, e']
    exact h.dis _ _ hl' hl (fun e => hne (hi i j hi' hj e))
/-- two families side by side -/
theorem Fam.cat {w : World} {B lo : Nat} {rs qs : List Row} (h : Fam w B rs) (hlo : ∀ j (hj : j < rs.length) g, rs[j].v.ownBlock = some g → g < lo) (k : Fam w lo qs) (hB : B ≤ lo) : Fam w B (rs ++ qs) := by
  refine ⟨fun j hj => ?_, fun i j hi hj hne => ?_⟩
  · rw [List.getElem_append]
    split
    · exact h.own j (by assumption)
    · exact Row.at_base (k.own (j - rs.length) (by rw [List.length_append] at hj; omega)) hB
  · rw [List.length_append] at hi hj
    rw [List.getElem_append, List.getElem_append]
    split
    · rename_i h1
      split
      · exact h.dis i j h1 (by assumption) hne
      · rename_i h2
        cases hv : rs[i].v.ownBlock with
        | none => exact .inl rfl
        | some g =>
          right
          intro e
          have h3 := hlo i h1 g hv
          have h4 := (Row.at_lt (k.own (j - rs.length) (by omega)) g e.symm).1
          omega
    · rename_i h1
      split
      · rename_i h2
        cases hv : qs[i - rs.length].v.ownBlock with
        | none => exact .inl rfl
        | some g =>
          right
          intro e
          have h3 := hlo j h2 g e.symm
          have h4 := (Row.at_lt (k.own (i - rs.length) (by omega)) g hv).1
          omega
      · exact k.dis _ _ (by omega) (by omega) (by omega)
theorem Fam.lt {w : World} {B : Nat} {rs : List Row} (h : Fam w B rs) : ∀ j (hj : j < rs.length) g, rs[j].v.ownBlock = some g → g < w.heap.size := fun j hj g hg => (Row.at_lt (h.own j hj) g hg).2
theorem Fam.ge {w : World} {B p : Nat} {rs : List Row} (h : Fam w B rs) (hp : p < B) : ∀ j (hj : j < rs.length), rs[j].v.ownBlock ≠ some p := fun j hj e => by
  have := (Row.at_lt (h.own j hj) p e).1
  omega
def bRow (v : Value) (l : List UInt8) : Row := ⟨5, v, bv l⟩
theorem bRow_at {w : World} {B : Nat} {v : Value} {l : List UInt8} : (bRow v l).at w B ↔ Own w B v l := by
  unfold Row.at Own bRow
  simp only [bv_length]
end Go.Proofs.Ytekfolppahnpoaa
