import Derived.Test.YtpakkpahcpgnnaaGreatDoorRgP
import Derived.Test.YtpakkpahcpgnnaaGreatDoorXK
import Derived.Deep.MidRow
import Derived.Deep.WholeRow
import Derived.Laws.CopyOwn
import Derived.OwnWalk
import Derived.Laws.MakeOwn
import Derived.Deep.AppendLies
import Derived.Laws.AppendOwnNone
set_option linter.unusedVariables false
set_option linter.unusedSimpArgs false
namespace Go.Proofs.YtpakkpahcpgnnaaGreatDoor
open Go.RowKit
theorem al {w w1 : World} (h : Below w.heap.size w w1) (o : Obj) : Below w.heap.size w (w1.alloc o) := h.alloc h.size o
theorem exec_load {P : Program} {a : Act} {oi : Oper} {t : TypeId} {x : Operand} (ho : oi.op = .load t x) {v : Value} {w : World} (h : (Instr.loadAt t (a.eval x)).run P w = .ok v w) : (execOp a.eval oi).run P w = .ok (.value v) w := by
 unfold execOp; simp only [ho, Sem.run_bind, h, Result.andThen_ok]
 rfl
theorem rangeAt_below {w w' : World} {b o : Nat} {cs : List Value} (h : w.rangeAt b o cs) (hb : Below w.heap.size w w') : w'.rangeAt b o cs := fun j v hv => (hb.cell (World.block_lt_of_cell? w _ (h j v hv))).trans (h j v hv)
abbrev rv (x : Rg) : List Value := [.int .i64 x.1, .int .i64 x.2]
def flatR (xs : List Rg) : List Value := xs.flatMap rv
theorem flatR_len (xs : List Rg) : (flatR xs).length = xs.length * 2 := by
 induction xs with
 | nil => rfl
 | cons x xs ih =>
  unfold flatR at *; rw [List.flatMap_cons, List.length_append, ih]; simp; omega
theorem flatR_app (xs ys : List Rg) : flatR (xs ++ ys) = flatR xs ++ flatR ys := by simp [flatR]
theorem flatR_one (x : Rg) : flatR [x] = rv x := by simp [flatR]
theorem flatR_get : ∀ (xs : List Rg) (j : Nat) (h : j < xs.length), (flatR xs)[j * 2]? = some (.int .i64 xs[j].1) ∧ (flatR xs)[j * 2 + 1]? = some (.int .i64 xs[j].2)
 | [], j, h => by cases h
 | x :: xs, 0, _ => by simp [flatR]
 | x :: xs, j + 1, h => by
  have h1 := flatR_get xs j (by simpa using h); have e : flatR (x :: xs) = .int .i64 x.1 :: .int .i64 x.2 :: flatR xs := by simp [flatR]
  rw [e, show (j + 1) * 2 = j * 2 + 1 + 1 from by omega]
  simpa using h1
theorem flatR_set : ∀ (xs : List Rg) (j : Nat) (h : j < xs.length) (v : Int), (flatR xs).set (j * 2 + 1) (.int .i64 v) = flatR (xs.set j (xs[j].1, v))
 | [], j, h, _ => by cases h
 | x :: xs, 0, _, v => by simp [flatR]
 | x :: xs, j + 1, h, v => by
  have h1 := flatR_set xs j (by simpa using h) v; have e : ∀ y ys, flatR (y :: ys) = .int .i64 y.1 :: .int .i64 y.2 :: flatR ys := fun y ys => by simp [flatR]
  rw [e, show (j + 1) * 2 + 1 = j * 2 + 1 + 1 + 1 from by omega]; simp only [List.set_cons_succ, List.getElem_cons_succ]; rw [h1, e]
theorem flatR_one' (xs : List Rg) : ∀ u ∈ flatR xs, u.oneCell' = true := by
 intro u hu; obtain ⟨x, -, hx⟩ := List.mem_flatMap.1 hu; simp at hx; rcases hx with rfl | rfl <;> rfl
def RdR (w : World) (ao : Option Addr) (xs : List Rg) : Prop := ∀ j (hj : j < xs.length), ∃ b o, ao = some ⟨b, o, none⟩ ∧ w.cell? ⟨b, o + j * 2, none⟩ = some (.int .i64 xs[j].1) ∧ w.cell? ⟨b, o + j * 2 + 1, none⟩ = some (.int .i64 xs[j].2)
theorem RdR.below {w w' : World} {ao : Option Addr} {xs : List Rg} (h : RdR w ao xs) (hb : Below w.heap.size w w') : RdR w' ao xs := fun j hj => by
 obtain ⟨b, o, h1, h2, h3⟩ := h j hj; exact ⟨b, o, h1, (hb.cell (p := ⟨b, o + j * 2, none⟩) (World.block_lt_of_cell? w _ h2)).trans h2, (hb.cell (p := ⟨b, o + j * 2 + 1, none⟩) (World.block_lt_of_cell? w _ h3)).trans h3⟩
theorem RdR.range {w : World} {b o : Nat} {xs : List Rg} (h : RdR w (some ⟨b, o, none⟩) xs) (j : Nat) (hj : j < xs.length) : w.rangeAt b (o + j * 2) (rv xs[j]) := by
 obtain ⟨b', o', h1, h2, h3⟩ := h j hj; cases h1; intro k u hk
 match k with
 | 0 => simp at hk; subst hk; simpa using h2
 | 1 => simp at hk; subst hk; simpa using h3
 | k + 2 => simp at hk
theorem RdR.addr {w : World} {ao : Option Addr} {xs : List Rg} (h : RdR w ao xs) (h0 : 0 < xs.length) : ∃ b o, ao = some ⟨b, o, none⟩ ∧ b < w.heap.size := by
 obtain ⟨b, o, h1, h2, -⟩ := h 0 h0; exact ⟨b, o, h1, World.block_lt_of_cell? w _ h2⟩
def OwnR (w : World) (B : Nat) (v : Value) (xs : List Rg) : Prop := w.ownsRow B 108 2 v xs.length (flatR xs)
theorem OwnR.nil (w : World) (B : Nat) : OwnR w B (.slice none 0 0) [] := World.ownsRow_nil _ _ _ _
theorem OwnR.below {w w' : World} {B : Nat} {v : Value} {xs : List Rg} (h : OwnR w B v xs) (hb : Below w.heap.size w w') : OwnR w' B v xs := by
 refine ⟨h.1, ?_⟩; rcases h.2 with h0 | ⟨g, cap, cur, e, hB, hg, r⟩
 · exact .inl h0
 · exact .inr ⟨g, cap, cur, e, hB, (hb.block g (Array.getElem?_eq_some_iff.1 hg).1).trans hg, r⟩
theorem OwnR.base {w : World} {B B' : Nat} {v : Value} {xs : List Rg} (h : OwnR w B v xs) (hB : B' ≤ B) : OwnR w B' v xs := by
 refine ⟨h.1, ?_⟩; rcases h.2 with h0 | ⟨g, cap, cur, e, hg, r⟩
 · exact .inl h0
 · exact .inr ⟨g, cap, cur, e, Nat.le_trans hB hg, r⟩
theorem OwnR.rd {w : World} {B g cap : Nat} {xs : List Rg} (h : OwnR w B (.slice (some ⟨g, 0, none⟩) xs.length cap) xs) : RdR w (some ⟨g, 0, none⟩) xs := fun j hj => by
 obtain ⟨h1, h2⟩ := flatR_get xs j hj; exact ⟨g, 0, rfl, by rw [Nat.zero_add, World.ownsRow.cellAt h _ (by omega), h1], by rw [Nat.zero_add, World.ownsRow.cellAt h _ (by omega), h2]⟩
theorem OwnR.val {w : World} {B : Nat} {v : Value} {xs : List Rg} (h : OwnR w B v xs) : ∃ a c, v = .slice a xs.length c ∧ xs.length ≤ c ∧ c ≤ maxLen ∧ (a = none → c = 0) ∧ RdR w a xs ∧ (∀ q, a = some q → q.off = 0 ∧ q.spot = none ∧ B ≤ q.block ∧ q.block < w.heap.size) := by
 have hlt := World.ownsRow.lt h; have h' := h; rcases h.2 with ⟨rfl, h0⟩ | ⟨g, cap, cur, rfl, hB, hg, hn, hm, r⟩
 · obtain rfl : xs = [] := List.eq_nil_of_length_eq_zero h0; exact ⟨none, 0, rfl, Nat.le_refl _, Nat.zero_le _, fun _ => rfl, fun j hj => absurd hj (Nat.not_lt_zero _), fun q hq => by cases hq⟩
 · exact ⟨_, cap, rfl, hn, hm, (fun h => by cases h), OwnR.rd h', fun q hq => by cases hq; exact ⟨rfl, rfl, hlt g rfl⟩⟩
theorem infoR : (Tryz.prog.info? 108).map (fun i => (i.zero, i.size, i.bytes)) = some (some (.agg #[.int .i64 0, .int .i64 0]), 2, 16) := by kernel_rfl
theorem info_rg : (Tryz.prog.info? 108).map (fun i => (i.zero, i.size)) = some (some (.agg #[.int .i64 0, .int .i64 0]), 2) := by kernel_rfl
theorem wp_appR1 {w : World} {ops : Array Oper} {rest : List Oper} {o : Oper} {a : Act} {Q : Exit → Act → World → Prop} (hgd : o.guard = none) (s x : Operand)
 (ho : o.op = .call { callee := .builtin .append, args := #[s, x], argTypes := #[47, 47] }) (B : Nat) (v : Value) (xs : List Rg) (n : Nat) (hn : n = xs.length) (y : Rg) (g : Nat)
 (hs : a.eval s = v) (hown : OwnR w B v xs) (hx : a.eval x = .slice (some ⟨g, 0, none⟩) 1 1) (hg : w.heap[g]? = some (.cells #[.int .i64 y.1, .int .i64 y.2] 108 (0, 0))) (hb : n ≤ 1099511627776) (hbase : B ≤ w.heap.size)
 (h : ∀ g' cap w', OwnR w' B (.slice (some ⟨g', 0, none⟩) (n + 1) cap) (xs ++ [y]) → w.grownBy w' v.ownBlock → (v.ownBlock = some g' ∨ g' = w.heap.size) → wpList Tryz.prog ops Q rest (a.put o.dst (.slice (some ⟨g', 0, none⟩) (n + 1) cap)) w') : wpList Tryz.prog ops Q (o :: rest) a w := by
 subst hn; obtain ⟨i0, hi, hz0, hz1, hz2⟩ := info_parts infoR; refine wpList_append_lies w hgd s x 47 ho B 108 i0 _ 2 16 Tryz.underlying47 hi hz0 hz1 hz2 rfl (by decide) v xs.length (flatR xs) hs hown ⟨g, 0, none⟩ 1 1 (rv y) hx rfl (World.news_of_block hg) (by intro u hu; simp at hu; rcases hu with rfl | rfl <;> rfl) (by decide) (by simp only [maxLen]; omega) (by omega) hbase w.heap.size rfl ?_; intro g' cap w' h1 h2 h3 _; refine h g' cap w' ?_ h2 h3; unfold OwnR; rw [List.length_append, flatR_app, flatR_one]; exact h1
theorem wp_appR {w : World} {ops : Array Oper} {rest : List Oper} {o : Oper} {a : Act} {Q : Exit → Act → World → Prop} (hgd : o.guard = none) (s x : Operand)
 (ho : o.op = .call { callee := .builtin .append, args := #[s, x], argTypes := #[47, 47] }) (B : Nat) (v : Value) (xs ys : List Rg) (n : Nat) (ao : Option Addr) (cap : Nat) (hn : n = ys.length)
 (hs : a.eval s = v) (hown : OwnR w B v xs) (hx : a.eval x = .slice ao n cap) (hr : RdR w ao ys) (hnil : ao = none → cap = 0)
 (hb : xs.length + n ≤ 1099511627776) (hbase : B ≤ w.heap.size)
 (h : ∀ v' w', OwnR w' B v' (xs ++ ys) → w.grownBy w' v.ownBlock → wpList Tryz.prog ops Q rest (a.put o.dst v') w') : wpList Tryz.prog ops Q (o :: rest) a w := by
 subst hn; obtain ⟨i0, hi, hz0, hz1, hz2⟩ := info_parts infoR; rcases ao with _ | ad
 · have h0 : ys = [] := by
    rcases ys with _ | ⟨y, ys⟩
    · rfl
    · obtain ⟨b, o, h1, _⟩ := hr 0 (by simp); cases h1
   subst h0; obtain rfl := hnil rfl; refine wpList_append_own_none hgd s x 47 ho B 108 i0 2 Tryz.underlying47 hi v xs.length (flatR xs) hs hown hx ?_; exact h v w (by simpa using hown) ⟨rfl, rfl, rfl, Nat.le_refl _, fun _ _ _ => rfl⟩
 · refine wpList_append_own w hgd s x 47 ho B 108 i0 _ 2 16 Tryz.underlying47 hi hz0 hz1 hz2 rfl (by decide) v xs.length (flatR xs) hs hown ad ys.length cap (flatR ys) hx (flatR_len ys) ?_ (flatR_one' ys) (by simp only [maxLen]; omega) (by omega) hbase ?_
   · intro j u hj
     have hlt : j < ys.length * 2 := by
      have := (List.getElem?_eq_some_iff.1 hj).1; rw [flatR_len] at this; exact this
     obtain ⟨b, o, h1, h2, h3⟩ := hr (j / 2) (by omega); cases h1; obtain ⟨f1, f2⟩ := flatR_get ys (j / 2) (by omega); rw [Go.WideShapes.add_plain]
     by_cases e : j % 2 = 0
     · have ej : j = j / 2 * 2 := by omega
       rw [ej] at hj ⊢; rw [f1] at hj; rw [show o + j / 2 * 2 = o + j / 2 * 2 from rfl, h2]; exact hj
     · have ej : j = j / 2 * 2 + 1 := by omega
       rw [ej] at hj ⊢; rw [f2] at hj; rw [← Nat.add_assoc, h3]; exact hj
   · intro v' w' h1 h2 _; refine h v' w' ?_ h2; unfold OwnR; rw [List.length_append, flatR_app]; exact h1
theorem rd_lit1 (w : World) (x : Rg) : RdR (w.alloc (.cells #[.int .i64 x.1, .int .i64 x.2] 108 (0, 0))) (some ⟨w.heap.size, 0, none⟩) [x] := fun j hj => by
 obtain rfl : j = 0 := by simp at hj; omega
 refine ⟨_, 0, rfl, ?_, ?_⟩
 · rw [cell_of_row _ _ _ _ _ _ (heap_alloc_new w _)]; rfl
 · rw [cell_of_row _ _ _ _ _ _ (heap_alloc_new w _)]; rfl
theorem ownR_cold {w : World} {B g n cap : Nat} {xs : List Rg} (h : OwnR w B (.slice (some ⟨g, 0, none⟩) n cap) xs) (i : Nat) : w.frozen? ⟨g, i, none⟩ = false := by
 rcases h.2 with ⟨h0, _⟩ | ⟨g', cap', cur, hv, hB, hg, -⟩
 · cases h0
 · cases hv; simp [World.frozen?, hg]
end Go.Proofs.YtpakkpahcpgnnaaGreatDoor
