import Derived.Test.YtpakkpahcpgnnaaGreatDoorRgP
import Derived.Test.YtpakkpahcpgnnaaGreatDoorXK
import Derived.Deep.MidRow
import Derived.Deep.WholeRow
import Derived.Laws.CopyOwn
import Derived.OwnWalk
import Derived.Laws.MakeOwn
import Derived.Deep.AppendLies
import Derived.Laws.AppendOwnNone
import Derived.Lib.AppendZeros
import Derived.Lib.AppendStr
import Derived.Lib.Strings
import Derived.Laws.BytesArg
import Derived.RegionTactic
import Derived.ChangeAlike
import Derived.Lib.SliceRun
set_option linter.unusedVariables false
set_option linter.unusedSimpArgs false
namespace Go.Proofs.YtpakkpahcpgnnaaGreatDoor
open Go.RowKit
theorem al {w w1 : World} (h : Below w.heap.size w w1) (o : Obj) : Below w.heap.size w (w1.alloc o) := h.alloc h.size o
theorem exec_load {P : Program} {a : Act} {oi : Oper} {t : TypeId} {x : Operand} (ho : oi.op = .load t x) {v : Value} {w : World} (h : (Instr.loadAt t (a.eval x)).run P w = .ok v w) : (execOp a.eval oi).run P w = .ok (.value v) w := by
 unfold execOp; simp only [ho, Sem.run_bind, h, Result.andThen_ok]
 rfl
theorem rangeAt_below {w w' : World} {b o : Nat} {cs : List Value} (h : w.rangeAt b o cs) (hb : Below w.heap.size w w') : w'.rangeAt b o cs := fun j v hv => (hb.cell (World.block_lt_of_cell? w _ (h j v hv))).trans (h j v hv)
abbrev rv (x : Rg) : List Value := [.int .i64 x.1, .int .i64 x.2]
def flatR (xs : List Rg) : List Value := xs.flatMap rv
theorem flatR_len (xs : List Rg) : (flatR xs).length = xs.length * 2 := by
 induction xs with
 | nil => rfl
 | cons x xs ih =>
  unfold flatR at *; rw [List.flatMap_cons, List.length_append, ih]; simp; omega
theorem flatR_app (xs ys : List Rg) : flatR (xs ++ ys) = flatR xs ++ flatR ys := by simp [flatR]
theorem flatR_one (x : Rg) : flatR [x] = rv x := by simp [flatR]
theorem flatR_get : ∀ (xs : List Rg) (j : Nat) (h : j < xs.length), (flatR xs)[j * 2]? = some (.int .i64 xs[j].1) ∧ (flatR xs)[j * 2 + 1]? = some (.int .i64 xs[j].2)
 | [], j, h => by cases h
 | x :: xs, 0, _ => by simp [flatR]
 | x :: xs, j + 1, h => by
  have h1 := flatR_get xs j (by simpa using h); have e : flatR (x :: xs) = .int .i64 x.1 :: .int .i64 x.2 :: flatR xs := by simp [flatR]
  rw [e, show (j + 1) * 2 = j * 2 + 1 + 1 from by omega]
  simpa using h1
theorem flatR_set : ∀ (xs : List Rg) (j : Nat) (h : j < xs.length) (v : Int), (flatR xs).set (j * 2 + 1) (.int .i64 v) = flatR (xs.set j (xs[j].1, v))
 | [], j, h, _ => by cases h
 | x :: xs, 0, _, v => by simp [flatR]
 | x :: xs, j + 1, h, v => by
  have h1 := flatR_set xs j (by simpa using h) v; have e : ∀ y ys, flatR (y :: ys) = .int .i64 y.1 :: .int .i64 y.2 :: flatR ys := fun y ys => by simp [flatR]
  rw [e, show (j + 1) * 2 + 1 = j * 2 + 1 + 1 + 1 from by omega]; simp only [List.set_cons_succ, List.getElem_cons_succ]; rw [h1, e]
theorem flatR_one' (xs : List Rg) : ∀ u ∈ flatR xs, u.oneCell' = true := by
 intro u hu; obtain ⟨x, -, hx⟩ := List.mem_flatMap.1 hu; simp at hx; rcases hx with rfl | rfl <;> rfl
def RdR (w : World) (ao : Option Addr) (xs : List Rg) : Prop := ∀ j (hj : j < xs.length), ∃ b o, ao = some ⟨b, o, none⟩ ∧ w.cell? ⟨b, o + j * 2, none⟩ = some (.int .i64 xs[j].1) ∧ w.cell? ⟨b, o + j * 2 + 1, none⟩ = some (.int .i64 xs[j].2)
theorem RdR.below {w w' : World} {ao : Option Addr} {xs : List Rg} (h : RdR w ao xs) (hb : Below w.heap.size w w') : RdR w' ao xs := fun j hj => by
 obtain ⟨b, o, h1, h2, h3⟩ := h j hj; exact ⟨b, o, h1, (hb.cell (p := ⟨b, o + j * 2, none⟩) (World.block_lt_of_cell? w _ h2)).trans h2, (hb.cell (p := ⟨b, o + j * 2 + 1, none⟩) (World.block_lt_of_cell? w _ h3)).trans h3⟩
theorem RdR.range {w : World} {b o : Nat} {xs : List Rg} (h : RdR w (some ⟨b, o, none⟩) xs) (j : Nat) (hj : j < xs.length) : w.rangeAt b (o + j * 2) (rv xs[j]) := by
 obtain ⟨b', o', h1, h2, h3⟩ := h j hj; cases h1; intro k u hk
 match k with
 | 0 => simp at hk; subst hk; simpa using h2
 | 1 => simp at hk; subst hk; simpa using h3
 | k + 2 => simp at hk
theorem RdR.addr {w : World} {ao : Option Addr} {xs : List Rg} (h : RdR w ao xs) (h0 : 0 < xs.length) : ∃ b o, ao = some ⟨b, o, none⟩ ∧ b < w.heap.size := by
 obtain ⟨b, o, h1, h2, -⟩ := h 0 h0; exact ⟨b, o, h1, World.block_lt_of_cell? w _ h2⟩
def OwnR (w : World) (B : Nat) (v : Value) (xs : List Rg) : Prop := w.ownsRow B 108 2 v xs.length (flatR xs)
theorem OwnR.nil (w : World) (B : Nat) : OwnR w B (.slice none 0 0) [] := World.ownsRow_nil _ _ _ _
theorem OwnR.below {w w' : World} {B : Nat} {v : Value} {xs : List Rg} (h : OwnR w B v xs) (hb : Below w.heap.size w w') : OwnR w' B v xs := by
 refine ⟨h.1, ?_⟩; rcases h.2 with h0 | ⟨g, cap, cur, e, hB, hg, r⟩
 · exact .inl h0
 · exact .inr ⟨g, cap, cur, e, hB, (hb.block g (sI hg).1).trans hg, r⟩
theorem OwnR.base {w : World} {B B' : Nat} {v : Value} {xs : List Rg} (h : OwnR w B v xs) (hB : B' ≤ B) : OwnR w B' v xs := by
 refine ⟨h.1, ?_⟩; rcases h.2 with h0 | ⟨g, cap, cur, e, hg, r⟩
 · exact .inl h0
 · exact .inr ⟨g, cap, cur, e, Nat.le_trans hB hg, r⟩
theorem OwnR.rd {w : World} {B g cap : Nat} {xs : List Rg} (h : OwnR w B (.slice (some ⟨g, 0, none⟩) xs.length cap) xs) : RdR w (some ⟨g, 0, none⟩) xs := fun j hj => by
 obtain ⟨h1, h2⟩ := flatR_get xs j hj; exact ⟨g, 0, rfl, by rw [Nat.zero_add, World.ownsRow.cellAt h _ (by omega), h1], by rw [Nat.zero_add, World.ownsRow.cellAt h _ (by omega), h2]⟩
theorem OwnR.val {w : World} {B : Nat} {v : Value} {xs : List Rg} (h : OwnR w B v xs) : ∃ a c, v = .slice a xs.length c ∧ xs.length ≤ c ∧ c ≤ maxLen ∧ (a = none → c = 0) ∧ RdR w a xs ∧ (∀ q, a = some q → q.off = 0 ∧ q.spot = none ∧ B ≤ q.block ∧ q.block < w.heap.size) := by
 have hlt := World.ownsRow.lt h; have h' := h; rcases h.2 with ⟨rfl, h0⟩ | ⟨g, cap, cur, rfl, hB, hg, hn, hm, r⟩
 · obtain rfl : xs = [] := List.eq_nil_of_length_eq_zero h0; exact ⟨none, 0, rfl, Nat.le_refl _, Nat.zero_le _, fun _ => rfl, fun j hj => absurd hj (Nat.not_lt_zero _), fun q hq => by cases hq⟩
 · exact ⟨_, cap, rfl, hn, hm, (fun h => by cases h), OwnR.rd h', fun q hq => by cases hq; exact ⟨rfl, rfl, hlt g rfl⟩⟩
theorem infoR : (Tryz.prog.info? 108).map (fun i => (i.zero, i.size, i.bytes)) = some (some (.agg #[.int .i64 0, .int .i64 0]), 2, 16) := by kernel_rfl
theorem info_rg : (Tryz.prog.info? 108).map (fun i => (i.zero, i.size)) = some (some (.agg #[.int .i64 0, .int .i64 0]), 2) := by kernel_rfl
theorem wp_appR1 {w : World} {ops : Array Oper} {rest : List Oper} {o : Oper} {a : Act} {Q : Exit → Act → World → Prop} (hgd : o.guard = none) (s x : Operand)
 (ho : o.op = .call { callee := .builtin .append, args := #[s, x], argTypes := #[47, 47] }) (B : Nat) (v : Value) (xs : List Rg) (n : Nat) (hn : n = xs.length) (y : Rg) (g : Nat)
 (hs : a.eval s = v) (hown : OwnR w B v xs) (hx : a.eval x = .slice (some ⟨g, 0, none⟩) 1 1) (hg : w.heap[g]? = some (.cells #[.int .i64 y.1, .int .i64 y.2] 108 (0, 0))) (hb : n ≤ 1099511627776) (hbase : B ≤ w.heap.size)
 (h : ∀ g' cap w', OwnR w' B (.slice (some ⟨g', 0, none⟩) (n + 1) cap) (xs ++ [y]) → w.grownBy w' v.ownBlock → (v.ownBlock = some g' ∨ g' = w.heap.size) → wpList Tryz.prog ops Q rest (a.put o.dst (.slice (some ⟨g', 0, none⟩) (n + 1) cap)) w') : wpList Tryz.prog ops Q (o :: rest) a w := by
 subst hn; obtain ⟨i0, hi, hz0, hz1, hz2⟩ := info_parts infoR; refine wpList_append_lies w hgd s x 47 ho B 108 i0 _ 2 16 Tryz.underlying47 hi hz0 hz1 hz2 rfl (by decide) v xs.length (flatR xs) hs hown ⟨g, 0, none⟩ 1 1 (rv y) hx rfl (World.news_of_block hg) (by intro u hu; simp at hu; rcases hu with rfl | rfl <;> rfl) (by decide) (by simp only [maxLen]; omega) (by omega) hbase w.heap.size rfl ?_; intro g' cap w' h1 h2 h3 _; refine h g' cap w' ?_ h2 h3; unfold OwnR; rw [List.length_append, flatR_app, flatR_one]; exact h1
theorem wp_appR {w : World} {ops : Array Oper} {rest : List Oper} {o : Oper} {a : Act} {Q : Exit → Act → World → Prop} (hgd : o.guard = none) (s x : Operand)
 (ho : o.op = .call { callee := .builtin .append, args := #[s, x], argTypes := #[47, 47] }) (B : Nat) (v : Value) (xs ys : List Rg) (n : Nat) (ao : Option Addr) (cap : Nat) (hn : n = ys.length)
 (hs : a.eval s = v) (hown : OwnR w B v xs) (hx : a.eval x = .slice ao n cap) (hr : RdR w ao ys) (hnil : ao = none → cap = 0)
 (hb : xs.length + n ≤ 1099511627776) (hbase : B ≤ w.heap.size)
 (h : ∀ v' w', OwnR w' B v' (xs ++ ys) → w.grownBy w' v.ownBlock → wpList Tryz.prog ops Q rest (a.put o.dst v') w') : wpList Tryz.prog ops Q (o :: rest) a w := by
 subst hn; obtain ⟨i0, hi, hz0, hz1, hz2⟩ := info_parts infoR; rcases ao with _ | ad
 · have h0 : ys = [] := by
    rcases ys with _ | ⟨y, ys⟩
    · rfl
    · obtain ⟨b, o, h1, _⟩ := hr 0 (by simp); cases h1
   subst h0; obtain rfl := hnil rfl; refine wpList_append_own_none hgd s x 47 ho B 108 i0 2 Tryz.underlying47 hi v xs.length (flatR xs) hs hown hx ?_; exact h v w (by simpa using hown) ⟨rfl, rfl, rfl, Nat.le_refl _, fun _ _ _ => rfl⟩
 · refine wpList_append_own w hgd s x 47 ho B 108 i0 _ 2 16 Tryz.underlying47 hi hz0 hz1 hz2 rfl (by decide) v xs.length (flatR xs) hs hown ad ys.length cap (flatR ys) hx (flatR_len ys) ?_ (flatR_one' ys) (by simp only [maxLen]; omega) (by omega) hbase ?_
   · intro j u hj
     have hlt : j < ys.length * 2 := by
      have := (List.getElem?_eq_some_iff.1 hj).1; rw [flatR_len] at this; exact this
     obtain ⟨b, o, h1, h2, h3⟩ := hr (j / 2) (by omega); cases h1; obtain ⟨f1, f2⟩ := flatR_get ys (j / 2) (by omega); rw [Go.WideShapes.add_plain]
     by_cases e : j % 2 = 0
     · have ej : j = j / 2 * 2 := by omega
       rw [ej] at hj ⊢; rw [f1] at hj; rw [show o + j / 2 * 2 = o + j / 2 * 2 from rfl, h2]; exact hj
     · have ej : j = j / 2 * 2 + 1 := by omega
       rw [ej] at hj ⊢; rw [f2] at hj; rw [← Nat.add_assoc, h3]; exact hj
   · intro v' w' h1 h2 _; refine h v' w' ?_ h2; unfold OwnR; rw [List.length_append, flatR_app]; exact h1
theorem rd_lit1 (w : World) (x : Rg) : RdR (w.alloc (.cells #[.int .i64 x.1, .int .i64 x.2] 108 (0, 0))) (some ⟨w.heap.size, 0, none⟩) [x] := fun j hj => by
 obtain rfl : j = 0 := by simp at hj; omega
 refine ⟨_, 0, rfl, ?_, ?_⟩
 · rw [cR (heap_alloc_new w _)]; rfl
 · rw [cR (heap_alloc_new w _)]; rfl
theorem ownR_cold {w : World} {B g n cap : Nat} {xs : List Rg} (h : OwnR w B (.slice (some ⟨g, 0, none⟩) n cap) xs) (i : Nat) : w.frozen? ⟨g, i, none⟩ = false := by
 rcases h.2 with ⟨h0, _⟩ | ⟨g', cap', cur, hv, hB, hg, -⟩
 · cases h0
 · cases hv; simp [World.frozen?, hg]
open Go.RowKit
theorem info5 : (Tryz.prog.info? 5).map (fun i => (i.zero, i.size, i.bytes)) = some (some (.int .u8 0), 1, 1) := by kernel_rfl
theorem wp_app {w : World} {ops : Array Oper} {rest : List Oper} {o : Oper} {a : Act} {Q : Exit → Act → World → Prop} (hgd : o.guard = none) (s x : Operand)
 (ho : o.op = .call { callee := .builtin .append, args := #[s, x], argTypes := #[22, 22] }) (B : Nat) (v : Value) (xs ys : List UInt8) (ao : Option Addr) (cap : Nat)
 (hs : a.eval s = v) (hown : Own w B v xs) (hx : a.eval x = .slice ao ys.length cap) (hr : Rd w ao ys) (hnil : ao = none → cap = 0)
 (hb : xs.length + ys.length ≤ 140737488355328) (hbase : B ≤ w.heap.size)
 (h : ∀ v' w', Own w' B v' (xs ++ ys) → w.grownBy w' v.ownBlock → wpList Tryz.prog ops Q rest (a.put o.dst v') w') : wpList Tryz.prog ops Q (o :: rest) a w := by
 obtain ⟨i0, hi, hz0, hz1, hz2⟩ := info_parts info5; rcases ao with _ | ad
 · have h0 : ys = [] := by
    rcases ys with _ | ⟨y, ys⟩
    · rfl
    · obtain ⟨b, o, h1, _⟩ := hr (by simp); cases h1
   subst h0; obtain rfl := hnil rfl; refine wpList_append_own_none hgd s x 22 ho B 5 i0 1 Tryz.underlying22 hi v xs.length (bv xs) hs hown hx ?_; exact h v w (by simpa using hown) ⟨rfl, rfl, rfl, Nat.le_refl _, fun _ _ _ => rfl⟩
 · refine wpList_append_own w hgd s x 22 ho B 5 i0 (.int .u8 0) 1 1 Tryz.underlying22 hi hz0 hz1 hz2 rfl (by decide) v xs.length (bv xs) hs hown ad ys.length cap (bv ys) hx (by simp [bv_length]) ?_ (bv_one ys) (by simp only [maxLen]; omega) (by omega) hbase ?_
   · intro j u hj
     have hlt : j < ys.length := by
      have := (List.getElem?_eq_some_iff.1 hj).1
      simpa [bv_length] using this
     obtain ⟨b, o, h1, hc⟩ := hr (by omega); cases h1; rw [bv_get ys j hlt] at hj; rw [Go.WideShapes.add_plain, hc j hlt]; exact hj
   · intro v' w' h1 h2 _; exact h v' w' (by unfold Own; rw [bv_append, List.length_append]; exact h1) h2
structure Part where
 ao : Option Addr
 cap : Nat
 xs : List UInt8
def Part.v (p : Part) : Value := .slice p.ao p.xs.length p.cap
def Part.ok (w : World) (p : Part) : Prop := Rd w p.ao p.xs ∧ (p.ao = none → p.cap = 0)
open Go.RowKit
theorem conv_rd' {w : World} {ao : Option Addr} {xs : List UInt8} (h : Rd w ao xs) (n cap : Nat) (hn : n = xs.length) :
 (convert 22 9 (.slice ao n cap)).run Tryz.prog w = .ok (.string ⟨xs.toArray⟩) w := by
 subst hn
 by_cases h0 : 0 < xs.length
 · obtain ⟨b, o, rfl, hc⟩ := h h0; rw [run_convert_bytes_arg w 22 5 Tryz.underlying22 Tryz.underlying5 b o xs.length cap (xs.map fun b => (b.toNat : Int)) (by simp) (fun i hi => by rw [hc i hi]; simp [hi]) 9 Tryz.underlying9]
   congr 2
   unfold strOfNums
   congr 2
   rw [List.map_map]
   conv => rhs; rw [← List.map_id xs]
   apply List.map_congr_left; intro a _; simp
 · obtain rfl : xs = [] := List.eq_nil_of_length_eq_zero (by omega); rw [List.length_nil, run_convert_bytes_string w 22 9 5 _ 0 cap Tryz.underlying22 Tryz.underlying5 Tryz.underlying9]; cases ao <;> simp [Conv.bytesToString, loadCells]
   all_goals rfl
open Go.RowKit
theorem own_made0 (w : World) : Own (w.alloc (.cells #[] 5)) w.heap.size (.slice (some ⟨w.heap.size, 0, none⟩) 0 0) [] :=
 World.ownsRow_made w #[] 0 (Nat.le_refl _) (Nat.zero_le _) rfl
set_option maxRecDepth 20000 in
set_option maxHeartbeats 400000 in
theorem clone_any (ao : Option Addr) (cap : Nat) (xs : List UInt8) (w : World) (hx : Rd w ao xs) (hnil : ao = none → cap = 0) (hl : xs.length ≤ 140737488355328) :
 Calls Tryz.prog 38 #[.slice ao xs.length cap] w fun e w' => ∃ v, e = .returned v ∧ Own w' w.heap.size v xs ∧ Below w.heap.size w w' := by
 have q22 : ∀ (w : World) (a : Option Addr) (n c n' c' : Nat), (binOp .eql 22 (.slice a n c) (.slice none n' c')).run Tryz.prog w = .ok (.bool a.isNone) w := fun w a n c n' c' => Lib.run_eql_slice_nil w _ _ a n c n' c' Tryz.underlying22
 rcases ao with _ | a
 · obtain rfl := hnil rfl
   have h0 : xs = [] := by
    rcases xs with _ | ⟨y, ys⟩
    · rfl
    · obtain ⟨b, o, h1, _⟩ := hx (by simp); cases h1
   subst h0; clear hnil; go_enter Tryz.func38, Tryz.ntmps38
   go_wp2; go_ret; exact ⟨_, rfl, World.ownsRow_nil _ _ _ _, bR _ _⟩
 · clear hnil; go_enter Tryz.func38, Tryz.ntmps38
   go_wp2_with (at_builtin; refine wp_app rfl _ _ rfl w.heap.size _ [] xs _ _ rfl (own_made0 w) rfl (hx.alloc _) (fun h => by cases h) (by simpa using hl) (by simp) ?_; intro v2 w2 hown2 hg2)
   go_ret; refine ⟨_, rfl, hown2, ?_⟩; exact ((Below.refl _ w).alloc (Nat.le_refl _) _).grown hg2 (by simp) (fun k hk => (World.ownsRow.lt (own_made0 w) k hk).1)
theorem clone_n (ao : Option Addr) (n cap : Nat) (xs : List UInt8) (hn : n = xs.length) (w : World) (hx : Rd w ao xs) (hnil : ao = none → cap = 0) (hl : n ≤ 140737488355328) :
 Calls Tryz.prog 38 #[.slice ao n cap] w fun e w' => ∃ v, e = .returned v ∧ Own w' w.heap.size v xs ∧ Below w.heap.size w w' := by subst hn; exact clone_any ao cap xs w hx hnil hl
abbrev Seg := List UInt8
def ones (S : List Seg) : Nat → List Rg
 | 0 => []
 | k + 1 => ones S k ++ (if (S[k]?.getD []).length = 0 then [] else [((k : Int), (k : Int) + 1)])
def segN (xs : Seg) (m k : Nat) : List Seg := (List.range k).map fun i => (xs.drop (i * m)).take m
def cutN (n m : Nat) : Nat := (n + m - 1) / m
def cutE (n : Nat) (m : Int) : Int := if m < 1 ∨ 1024 < m ∨ n = 0 then 1 else if 1024 < n then 81 else if m * 64 < (n : Int) then 2 else 0
theorem segN_len (xs : Seg) (m k : Nat) : (segN xs m k).length = k := by simp [segN]
theorem segN_succ (xs : Seg) (m k : Nat) : segN xs m (k + 1) = segN xs m k ++ [(xs.drop (k * m)).take m] := by simp [segN, List.range_succ]
end Go.Proofs.YtpakkpahcpgnnaaGreatDoor
