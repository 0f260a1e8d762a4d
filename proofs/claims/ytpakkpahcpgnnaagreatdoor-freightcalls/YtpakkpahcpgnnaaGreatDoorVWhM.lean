import Derived.Test.YtpakkpahcpgnnaaGreatDoorCuP
import Derived.Lib.AppendZerosOnto
import Derived.Lib.Overlaps
set_option linter.unusedVariables false
set_option linter.unusedSimpArgs false
namespace Go.Proofs.YtpakkpahcpgnnaaGreatDoor
open Go.RowKit
structure Chg (F : Nat → Prop) (w w' : World) : Prop where
 os : w'.os = w.os
 tape : w'.tape = w.tape
 output : w'.output = w.output
 size : w.heap.size ≤ w'.heap.size
 block : ∀ k, k < w.heap.size → ¬ F k → w'.heap[k]? = w.heap[k]?
theorem Chg.of_grown {F : Nat → Prop} {w w' : World} {row : Option Nat} (h : w.grownBy w' row) (hF : ∀ b, row = some b → F b) : Chg F w w' :=
 ⟨h.os, h.tape, h.output, h.size, fun k hk hn => h.block k hk (fun e => hn (hF k e.symm))⟩
theorem Chg.of_below {F : Nat → Prop} {w w' : World} (h : Below w.heap.size w w') : Chg F w w' := ⟨h.os, h.tape, h.output, h.size, fun k hk _ => h.block k hk⟩
theorem Chg.refl (F : Nat → Prop) (w : World) : Chg F w w := Chg.of_below (bR _ _)
theorem Chg.trans {F G : Nat → Prop} {a b c : World} (h : Chg F a b) (k : Chg G b c) (hG : ∀ i, G i → F i ∨ a.heap.size ≤ i) : Chg F a c := by
 refine ⟨k.os.trans h.os, k.tape.trans h.tape, k.output.trans h.output, Nat.le_trans h.size k.size, fun i hi hn => ?_⟩; refine (k.block i (Nat.lt_of_lt_of_le hi h.size) (fun hg => ?_)).trans (h.block i hi hn); rcases hG i hg with h1 | h1
 · exact hn h1
 · omega
theorem Chg.mono {F G : Nat → Prop} {w w' : World} (h : Chg F w w') (hG : ∀ i, F i → G i) : Chg G w w' := ⟨h.os, h.tape, h.output, h.size, fun k hk hn => h.block k hk (fun hf => hn (hG k hf))⟩
theorem grow_trans {a b c : World} {r : Option Nat} (h : a.grownBy b r) (k : b.grownBy c r) : a.grownBy c r := ⟨k.os.trans h.os, k.tape.trans h.tape, k.output.trans h.output, Nat.le_trans h.size k.size, fun i hi hn => (k.block i (Nat.lt_of_lt_of_le hi h.size) hn).trans (h.block i hi hn)⟩
theorem gset1 (w : World) (b i : Nat) (v : Value) : w.grownBy (w.setCell ⟨b, i, none⟩ v) (some b) :=
 ⟨rfl, rfl, rfl, by simp, fun k _ hne => heap_setCell_other w ⟨b, i, none⟩ k v (fun e => hne (by simp [e]))⟩
structure Kd (α : Type) where
 t : TypeId
 ts : TypeId
 k : Nat
 by_ : Nat
 f : α → List Value
 z : Value
 hk : ∀ x, (f x).length = k
 h1 : ∀ x, ∀ u ∈ f x, u.oneCell' = true
 hpos : 0 < k
 ht : Tryz.prog.underlying ts = some (.slice t)
 hi : (Tryz.prog.info? t).map (fun i => (i.zero, i.size, i.bytes)) = some (some z, k, by_)
 hz : z.cells.size = k
section
variable {α : Type} (K : Kd α)
def RdG (w : World) (ao : Option Addr) (xs : List α) : Prop := ∀ j (hj : j < xs.length), ∃ b o, ao = some ⟨b, o, none⟩ ∧ w.rangeAt b (o + j * K.k) (K.f xs[j]) ∧ ∃ cur fr, w.heap[b]? = some (.cells cur K.t fr)
def Kd.flat (xs : List α) : List Value := xs.flatMap K.f
def OwnG (w : World) (B : Nat) (v : Value) (xs : List α) : Prop := w.ownsRow B K.t K.k v xs.length (K.flat xs)
variable {K}
theorem RdG.below {w w' : World} {ao : Option Addr} {xs : List α} (h : RdG K w ao xs) (hb : Below w.heap.size w w') : RdG K w' ao xs := fun j hj => by
 obtain ⟨b, o, h1, h2, cur, fr, h3⟩ := h j hj; exact ⟨b, o, h1, rangeAt_below h2 hb, cur, fr, (hb.block b (sI h3).1).trans h3⟩
theorem Kd.flat_len (xs : List α) : (K.flat xs).length = xs.length * K.k := by
 induction xs with
 | nil => simp [Kd.flat]
 | cons x xs ih =>
  unfold Kd.flat at *; rw [List.flatMap_cons, List.length_append, ih, K.hk, List.length_cons, Nat.succ_mul]; omega
theorem Kd.flat_app (xs ys : List α) : K.flat (xs ++ ys) = K.flat xs ++ K.flat ys := by simp [Kd.flat]
theorem Kd.flat_one (x : α) : K.flat [x] = K.f x := by simp [Kd.flat]
theorem Kd.flat_get : ∀ (xs : List α) (j q : Nat) (h : j < xs.length) (_ : q < K.k), (K.flat xs)[j * K.k + q]? = (K.f xs[j])[q]?
 | [], j, _, h, _ => by cases h
 | x :: xs, 0, q, _, hq => by
  have e : K.flat (x :: xs) = K.f x ++ K.flat xs := by simp [Kd.flat]
  rw [e, List.getElem?_append_left (by rw [K.hk]; omega)]; simp
 | x :: xs, j + 1, q, h, hq => by
  have h1 := Kd.flat_get xs j q (by simpa using h) hq; have e : K.flat (x :: xs) = K.f x ++ K.flat xs := by simp [Kd.flat]
  rw [e, List.getElem?_append_right (by rw [K.hk, Nat.succ_mul]; omega)]; rw [show (j + 1) * K.k + q - (K.f x).length = j * K.k + q by rw [K.hk, Nat.succ_mul]; omega, h1]
  rfl
theorem Kd.flat_one' (xs : List α) : ∀ u ∈ K.flat xs, u.oneCell' = true := by
 intro u hu; obtain ⟨x, -, hx⟩ := List.mem_flatMap.1 hu; exact K.h1 x u hx
theorem OwnG.kept {w w' : World} {B : Nat} {v : Value} {xs : List α} (h : OwnG K w B v xs) (hk : ∀ b, v.ownBlock = some b → w'.heap[b]? = w.heap[b]?) : OwnG K w' B v xs := by
 refine ⟨h.1, ?_⟩; rcases h.2 with h0 | ⟨g, cap, cur, e, hB, hg, r⟩
 · exact .inl h0
 · exact .inr ⟨g, cap, cur, e, hB, (hk g (by rw [e]; rfl)).trans hg, r⟩
theorem OwnG.lt' {w : World} {B : Nat} {v : Value} {xs : List α} (h : OwnG K w B v xs) {b : Nat} (hb : v.ownBlock = some b) : B ≤ b ∧ b < w.heap.size := World.ownsRow.lt h b hb
theorem OwnG.below {w w' : World} {B : Nat} {v : Value} {xs : List α} (h : OwnG K w B v xs) (hb : Below w.heap.size w w') : OwnG K w' B v xs := h.kept (fun b e => hb.block b (h.lt' e).2)
theorem OwnG.at_ {w : World} {B : Nat} {v : Value} {xs : List α} {b : Nat} (h : OwnG K w B v xs) (hb : v.ownBlock = some b) : ∃ cur, w.heap[b]? = some (.cells cur K.t (0, 0)) := by
 rcases h.2 with ⟨rfl, -⟩ | ⟨g, cap, cur, rfl, -, hg, -⟩
 · cases hb
 · cases hb; exact ⟨cur, hg⟩
theorem OwnG.base {w : World} {B B' : Nat} {v : Value} {xs : List α} (h : OwnG K w B v xs) (hB : B' ≤ B) : OwnG K w B' v xs :=
 ⟨h.1, h.2.imp id (fun ⟨g, cap, cur, h1, h2, h3⟩ => ⟨g, cap, cur, h1, Nat.le_trans hB h2, h3⟩)⟩
theorem OwnG.rd {w : World} {B g cap : Nat} {xs : List α} (h : OwnG K w B (.slice (some ⟨g, 0, none⟩) xs.length cap) xs) : RdG K w (some ⟨g, 0, none⟩) xs := fun j hj => by
 have hblk : ∃ cur fr, w.heap[g]? = some (.cells cur K.t fr) := by
  obtain ⟨cur, hc⟩ := h.at_ (b := g) rfl; exact ⟨cur, _, hc⟩
 refine ⟨g, 0, rfl, fun q v hv => ?_, hblk⟩; have hq : q < K.k := by have := (List.getElem?_eq_some_iff.1 hv).1; rw [K.hk] at this; exact this
 have hj2 : (j + 1) * K.k ≤ xs.length * K.k := Nat.mul_le_mul_right _ hj; rw [Nat.succ_mul] at hj2; rw [Nat.zero_add, World.ownsRow.cellAt h _ (by omega), Kd.flat_get xs j q hj hq]; exact hv
theorem OwnG.val {w : World} {B : Nat} {v : Value} {xs : List α} (h : OwnG K w B v xs) : ∃ a c, v = .slice a xs.length c ∧ xs.length ≤ c ∧ c ≤ maxLen ∧ (a = none → c = 0) ∧ RdG K w a xs := by
 have h' := h; rcases h.2 with ⟨rfl, h0⟩ | ⟨g, cap, cur, rfl, hB, hg, hn, hm, r⟩
 · obtain rfl : xs = [] := List.eq_nil_of_length_eq_zero h0; exact ⟨none, 0, rfl, Nat.le_refl _, Nat.zero_le _, fun _ => rfl, fun j hj => absurd hj (Nat.not_lt_zero _)⟩
 · exact ⟨_, cap, rfl, hn, hm, (fun h => by cases h), OwnG.rd h'⟩
theorem OwnG.one {w : World} {B : Nat} {v : Value} {xs : List α} (h : OwnG K w B v xs) (hn : 0 < xs.length) : ∃ g c, v = .slice (some ⟨g, 0, none⟩) xs.length c ∧ xs.length ≤ c ∧ c ≤ maxLen ∧ B ≤ g ∧ g < w.heap.size := by
 have h' := h; rcases h.2 with ⟨-, h0⟩ | ⟨g, cap, cur, e, hB, hg, h1, h2, -⟩
 · omega
 · exact ⟨g, cap, e, h1, h2, hB, (sI hg).1⟩
theorem OwnG.cell {w : World} {B g cap n : Nat} {xs : List α} (h : OwnG K w B (.slice (some ⟨g, 0, none⟩) n cap) xs) (hn : n = xs.length) (i q : Nat) (hi : i < xs.length) (hq : q < K.k) : w.cell? ⟨g, i * K.k + q, none⟩ = (K.f xs[i])[q]? := by
 subst hn; have hj2 : (i + 1) * K.k ≤ xs.length * K.k := Nat.mul_le_mul_right _ hi; rw [Nat.succ_mul] at hj2; exact (World.ownsRow.cellAt h (i * K.k + q) (by omega)).trans (Kd.flat_get xs i q hi hq)
theorem RdG.take {w : World} {b o : Nat} {xs : List α} (h : RdG K w (some ⟨b, o, none⟩) xs) (n : Nat) : RdG K w (some ⟨b, o, none⟩) (xs.take n) := fun j hj => by
 obtain ⟨b', o', h1, h2, h3⟩ := h j (by rw [List.length_take] at hj; omega); refine ⟨b', o', h1, ?_, h3⟩; rw [List.getElem_take]; exact h2
theorem RdG.drop {w : World} {b o : Nat} {xs : List α} (h : RdG K w (some ⟨b, o, none⟩) xs) (n : Nat) : RdG K w (some ⟨b, o + n * K.k, none⟩) (xs.drop n) := fun j hj => by
 have hl : n + j < xs.length := by rw [List.length_drop] at hj; omega
 obtain ⟨b', o', h1, h2, h3⟩ := h (n + j) hl; cases h1; refine ⟨b, o + n * K.k, rfl, ?_, h3⟩; rw [List.getElem_drop, show o + n * K.k + j * K.k = o + (n + j) * K.k by rw [Nat.add_mul]; omega]; exact h2
theorem RdG.nil (w : World) (ao : Option Addr) : RdG K w ao [] := fun j hj => absurd hj (Nat.not_lt_zero _)
theorem RdG.news {w : World} {ad : Addr} {ys : List α} (hr : RdG K w (some ad) ys) : ∀ j u, (K.flat ys)[j]? = some u → w.cell? (ad.add j) = some u := fun j u hj => by
 have hlt : j < ys.length * K.k := by
  have := (List.getElem?_eq_some_iff.1 hj).1; rw [Kd.flat_len] at this; exact this
 have hp := K.hpos; have hd : j / K.k < ys.length := (Nat.div_lt_iff_lt_mul hp).2 hlt; obtain ⟨b, o, h1, h2, -⟩ := hr (j / K.k) hd; cases h1; rw [Go.WideShapes.add_plain]; have f1 := Kd.flat_get ys (j / K.k) (j % K.k) hd (Nat.mod_lt _ hp); rw [Nat.div_add_mod' j K.k, hj] at f1; have h3 := h2 (j % K.k) u f1.symm; rw [Nat.add_assoc, Nat.div_add_mod' j K.k] at h3; exact h3
theorem rdG_lit {w : World} {g : Nat} {fr : Nat × Nat} {C : Array Value} {xs : List α} (h : w.heap[g]? = some (.cells C K.t fr)) (hC : C.toList = K.flat xs) : RdG K w (some ⟨g, 0, none⟩) xs := fun j hj => by
 refine ⟨g, 0, rfl, fun q v hv => ?_, C, fr, h⟩; have hq : q < K.k := by have := (List.getElem?_eq_some_iff.1 hv).1; rw [K.hk] at this; exact this
 rw [Nat.zero_add, cR h, ← Array.getElem?_toList, hC, Kd.flat_get xs j q hj hq]; exact hv
theorem wpo_appG {w : World} {o : Oper} {a : Act} {P : Act → World → Prop} {Q : Exit → Act → World → Prop} (s x : Operand)
 (ho : o.op = .call { callee := .builtin .append, args := #[s, x], argTypes := #[K.ts, K.ts] }) (B : Nat) (v : Value) (xs ys : List α) (n : Nat) (ao : Option Addr) (cap : Nat) (hn : n = ys.length)
 (hs : a.eval s = v) (hown : OwnG K w B v xs) (hx : a.eval x = .slice ao n cap) (hr : RdG K w ao ys) (hnil : ao = none → cap = 0)
 (hb : (xs.length + n) * K.by_ ≤ 140737488355328) (hm : xs.length + n ≤ maxLen) (hbase : B ≤ w.heap.size)
 (h : ∀ v' w', OwnG K w' B v' (xs ++ ys) → w.grownBy w' v.ownBlock → P (a.put o.dst v') w') : o.wp Tryz.prog a w P Q := by
 subst hn; obtain ⟨i0, hi, hz0, hz1, hz2⟩ := info_parts K.hi; rcases ao with _ | ad
 · have h0 : ys = [] := by
    rcases ys with _ | ⟨y, ys⟩
    · rfl
    · obtain ⟨b, o, h1, _⟩ := hr 0 (by simp); cases h1
   subst h0; obtain rfl := hnil rfl; have hrun := run_append_owned_none (P := Tryz.prog) (w := w) B K.ts o.type K.t i0 K.k K.ht hi v xs.length (K.flat xs) hown; have hx' : a.eval x = .slice none 0 0 := hx; unfold Oper.wp; simp [execOp, ho, resolve, invoke, builtin, hs, hx', hrun, Result.andThen]; exact h v w (by simpa using hown) ⟨rfl, rfl, rfl, Nat.le_refl _, fun _ _ _ => rfl⟩
 · refine wp_append_own w s x K.ts ho B K.t i0 K.z K.k K.by_ K.ht hi hz0 hz1 hz2 K.hz K.hpos v xs.length (K.flat xs) hs hown ad ys.length cap (K.flat ys) hx (Kd.flat_len ys) hr.news (Kd.flat_one' ys) hm hb hbase ?_; intro v' w' h1 h2 _; refine h v' w' ?_ h2; unfold OwnG; rw [List.length_append, Kd.flat_app]; exact h1
theorem wp_appG {w : World} {ops : Array Oper} {rest : List Oper} {o : Oper} {a : Act} {Q : Exit → Act → World → Prop} (hgd : o.guard = none) (s x : Operand)
 (ho : o.op = .call { callee := .builtin .append, args := #[s, x], argTypes := #[K.ts, K.ts] }) (B : Nat) (v : Value) (xs ys : List α) (n : Nat) (ao : Option Addr) (cap : Nat) (hn : n = ys.length)
 (hs : a.eval s = v) (hown : OwnG K w B v xs) (hx : a.eval x = .slice ao n cap) (hr : RdG K w ao ys) (hnil : ao = none → cap = 0)
 (hb : (xs.length + n) * K.by_ ≤ 140737488355328) (hm : xs.length + n ≤ maxLen) (hbase : B ≤ w.heap.size)
 (h : ∀ v' w', OwnG K w' B v' (xs ++ ys) → w.grownBy w' v.ownBlock → wpList Tryz.prog ops Q rest (a.put o.dst v') w') : wpList Tryz.prog ops Q (o :: rest) a w :=
 wpList_plain hgd fun _ hK => wpo_appG s x ho B v xs ys n ao cap hn hs hown hx hr hnil hb hm hbase fun v' w' h2 h3 => hK _ _ (h v' w' h2 h3)
theorem wpo_appG1 {w : World} {o : Oper} {a : Act} {P : Act → World → Prop} {Q : Exit → Act → World → Prop} (s x : Operand)
 (ho : o.op = .call { callee := .builtin .append, args := #[s, x], argTypes := #[K.ts, K.ts] }) (B : Nat) (v : Value) (xs : List α) (y : α) (n : Nat) (hn : n = xs.length) (ad : Addr) (cap : Nat)
 (hs : a.eval s = v) (hown : OwnG K w B v xs) (hx : a.eval x = .slice (some ad) 1 cap) (hr : RdG K w (some ad) [y])
 (hb : (n + 1) * K.by_ ≤ 140737488355328) (hm : n + 1 ≤ maxLen) (hbase : B ≤ w.heap.size)
 (h : ∀ g cap w', OwnG K w' B (.slice (some ⟨g, 0, none⟩) (n + 1) cap) (xs ++ [y]) → w.grownBy w' v.ownBlock → (v.ownBlock = some g ∨ w.heap.size ≤ g) → P (a.put o.dst (.slice (some ⟨g, 0, none⟩) (n + 1) cap)) w') : o.wp Tryz.prog a w P Q := by
 subst hn; obtain ⟨i0, hi, hz0, hz1, hz2⟩ := info_parts K.hi; refine wp_append_lies w s x K.ts ho B K.t i0 K.z K.k K.by_ K.ht hi hz0 hz1 hz2 K.hz K.hpos v xs.length (K.flat xs) hs hown ad 1 cap (K.flat [y]) hx (Kd.flat_len [y]) hr.news (Kd.flat_one' [y]) (by omega) hm hb hbase w.heap.size rfl ?_; intro g cap w' h1 h2 h3 _; refine h g cap w' ?_ h2 (h3.imp id (fun e => by omega)); unfold OwnG; rw [List.length_append, Kd.flat_app]; exact h1
theorem wp_appG1 {w : World} {ops : Array Oper} {rest : List Oper} {o : Oper} {a : Act} {Q : Exit → Act → World → Prop} (hgd : o.guard = none) (s x : Operand)
 (ho : o.op = .call { callee := .builtin .append, args := #[s, x], argTypes := #[K.ts, K.ts] }) (B : Nat) (v : Value) (xs : List α) (y : α) (n : Nat) (hn : n = xs.length) (ad : Addr) (cap : Nat)
 (hs : a.eval s = v) (hown : OwnG K w B v xs) (hx : a.eval x = .slice (some ad) 1 cap) (hr : RdG K w (some ad) [y])
 (hb : (n + 1) * K.by_ ≤ 140737488355328) (hm : n + 1 ≤ maxLen) (hbase : B ≤ w.heap.size)
 (h : ∀ g cap w', OwnG K w' B (.slice (some ⟨g, 0, none⟩) (n + 1) cap) (xs ++ [y]) → w.grownBy w' v.ownBlock → (v.ownBlock = some g ∨ w.heap.size ≤ g) → wpList Tryz.prog ops Q rest (a.put o.dst (.slice (some ⟨g, 0, none⟩) (n + 1) cap)) w') : wpList Tryz.prog ops Q (o :: rest) a w :=
 wpList_plain hgd fun _ hK => wpo_appG1 s x ho B v xs y n hn ad cap hs hown hx hr hb hm hbase fun g c w' h2 h3 h4 => hK _ _ (h g c w' h2 h3 h4)
theorem OwnG.setc {w : World} {B g cap n : Nat} {xs : List α} (h : OwnG K w B (.slice (some ⟨g, 0, none⟩) n cap) xs) (hn : n = xs.length) (i q : Nat) (hi : i < xs.length) (hq : q < K.k) (y : α) (u : Value) (hy : K.f y = (K.f xs[i]).set q u) : OwnG K (w.setCell ⟨g, i * K.k + q, none⟩ u) B (.slice (some ⟨g, 0, none⟩) n cap) (xs.set i y) := by
 subst hn; have h1 := (World.ownsRow.stored h (i * K.k + q) u).1; unfold OwnG; rw [List.length_set]
 have e : K.flat (xs.set i y) = (K.flat xs).set (i * K.k + q) u := by
  apply List.ext_getElem?; intro m
  by_cases hm : m < xs.length * K.k
  · have hp := K.hpos; have hd : m / K.k < xs.length := (Nat.div_lt_iff_lt_mul hp).2 hm; have hr := Nat.mod_lt m hp; have hme := Nat.div_add_mod' m K.k; have f1 := Kd.flat_get (K := K) (xs.set i y) (m / K.k) (m % K.k) (by rw [List.length_set]; exact hd) hr; have f2 := Kd.flat_get (K := K) xs (m / K.k) (m % K.k) hd hr; rw [hme] at f1 f2; rw [f1, List.getElem?_set, Kd.flat_len]; have hj2 : (i + 1) * K.k ≤ xs.length * K.k := Nat.mul_le_mul_right _ hi; rw [Nat.succ_mul] at hj2
    by_cases he : i = m / K.k
    · subst he; rw [List.getElem_set_self, hy, List.getElem?_set, K.hk]
      by_cases hq2 : q = m % K.k
      · rw [if_pos hq2, if_pos (by omega), if_pos (by omega), if_pos (by omega)]
      · rw [if_neg hq2, if_neg (by omega), f2]
    · rw [List.getElem_set_ne he]
      have hne : ¬ i * K.k + q = m := by
       intro e; apply he; rw [← e, Nat.mul_comm, Nat.mul_add_div hp, Nat.div_eq_of_lt hq]
       rfl
      rw [if_neg hne, f2]
  · rw [List.getElem?_eq_none (by rw [Kd.flat_len, List.length_set]; omega), List.getElem?_eq_none (by rw [List.length_set, Kd.flat_len]; omega)]
 rw [e]; exact h1
end
structure Dc where
 a : Option Addr
 n : Nat
 c : Nat
abbrev Dc.v (d : Dc) : Value := .slice d.a d.n d.c
abbrev Dc.z : Dc := ⟨none, 0, 0⟩
abbrev KL : Kd Dc := { t := 22, ts := 51, k := 1, by_ := 24, f := fun d => [d.v], z := .slice none 0 0, hk := fun _ => rfl, h1 := (fun d u hu => by simp at hu; subst hu; rfl), hpos := by decide, ht := Tryz.underlying51, hi := by kernel_rfl, hz := rfl }
structure ByV (w : World) (d : Dc) (xs : List UInt8) : Prop where
 n : d.n = xs.length
 rd : Rd w d.a xs
 nil : d.a = none → d.c = 0
 le : d.n ≤ d.c
 cm : d.c ≤ maxLen
 ty : ∀ ad, d.a = some ad → ∃ cur fr, w.heap[ad.block]? = some (.cells cur 5 fr)
theorem Rd.kept {w w' : World} {ao : Option Addr} {xs : List UInt8} (h : Rd w ao xs) (hk : ∀ ad, ao = some ad → w'.heap[ad.block]? = w.heap[ad.block]?) : Rd w' ao xs := fun hp => by
 obtain ⟨b, o, rfl, hc⟩ := h hp; exact ⟨b, o, rfl, fun i hi => (by have h9 : w'.cell? ⟨b, o + i, none⟩ = w.cell? ⟨b, o + i, none⟩ := World.cell?_of_block (hk ⟨b, o, none⟩ rfl); exact h9.trans (hc i hi))⟩
theorem ByV.of_own {w : World} {B : Nat} {a : Option Addr} {n c : Nat} {xs : List UInt8} (h : Own w B (.slice a n c) xs) : ByV w ⟨a, n, c⟩ xs ∧ ∀ ad, a = some ad → B ≤ ad.block := by
 rcases h.2 with ⟨e, h0⟩ | ⟨g, cap, cur, e, hB, hg, hn, hm, hs, ht⟩
 · cases e; exact ⟨⟨h0.symm, (by have : xs = [] := List.eq_nil_of_length_eq_zero h0; subst this; exact Rd.nil _ _), fun _ => rfl, Nat.le_refl _, Nat.zero_le _, fun ad h => by cases h⟩, fun ad h => by cases h⟩
 · obtain ⟨a', c', hv, -, -, -, hrd, -⟩ := h.val; cases e; cases hv; exact ⟨⟨rfl, hrd, (fun h => by cases h), hn, hm, fun ad h => by cases h; exact ⟨cur, _, hg⟩⟩, fun ad h => by cases h; exact hB⟩
theorem ty_of {w : World} {b : Nat} {C C' : Array Value} {t t' : TypeId} {f f' : Nat × Nat} (h : w.heap[b]? = some (.cells C t f)) (h' : w.heap[b]? = some (.cells C' t' f')) : t = t' := by
 rw [h] at h'; simp only [Option.some.injEq, Obj.cells.injEq] at h'; exact h'.2.1
theorem Own.keptb {w w' : World} {B : Nat} {v : Value} {xs : List UInt8} (h : Own w B v xs) (hk : ∀ b, v.ownBlock = some b → w'.heap[b]? = w.heap[b]?) : Own w' B v xs := by
 refine ⟨h.1, ?_⟩; rcases h.2 with h0 | ⟨g, cap, cur, e, hB, hg, r⟩
 · exact .inl h0
 · exact .inr ⟨g, cap, cur, e, hB, (hk g (by rw [e]; rfl)).trans hg, r⟩
theorem OwnG.fz {α : Type} {K : Kd α} {w : World} {B g n c : Nat} {xs : List α} (h : OwnG K w B (.slice (some ⟨g, 0, none⟩) n c) xs) (i : Nat) : w.frozen? ⟨g, i, none⟩ = false := by
 obtain ⟨cur, h1⟩ := h.at_ (b := g) rfl; simp [World.frozen?, h1]
end Go.Proofs.YtpakkpahcpgnnaaGreatDoor
namespace Go.Proofs.YtpakkpahcpgnnaaGreatDoor.Wh
open Go.RowKit
def D64 (k : Nat) : Nat := 2 ^ (6 * k)
theorem D64_add (i j : Nat) : D64 (i + j) = D64 i * D64 j := by unfold D64; rw [← Nat.pow_add]; congr 1; omega
theorem D64_succ (k : Nat) : D64 (k + 1) = D64 k * 64 := D64_add k 1
abbrev mxN : Nat := 281474976710655
def lev (a n : Nat) : Nat := (a ^^^ n).log2 / 6
def slt (a k : Nat) : Nat := a / D64 k % 64
theorem slt_lt (a k : Nat) : slt a k < 64 := Nat.mod_lt _ (by decide)
structure PosA (a n k : Nat) : Prop where
 up : a / D64 (k + 1) = n / D64 (k + 1)
 lo : n / D64 k < a / D64 k
theorem xor_div (a n i : Nat) : (a ^^^ n) / 2 ^ i = (a / 2 ^ i) ^^^ (n / 2 ^ i) := by
 rw [← Nat.shiftRight_eq_div_pow, ← Nat.shiftRight_eq_div_pow, ← Nat.shiftRight_eq_div_pow, Nat.shiftRight_xor_distrib]
theorem xor_zero {a b : Nat} (h : a ^^^ b = 0) : a = b := by
 apply Nat.eq_of_testBit_eq; intro i; have h1 := congrArg (fun x => x.testBit i) h; simp only [Nat.testBit_xor, Nat.zero_testBit] at h1; cases h2 : a.testBit i <;> cases h3 : b.testBit i <;> simp_all
theorem lev_pos {a n : Nat} (h : n < a) : PosA a n (lev a n) := by
 have hx : a ^^^ n ≠ 0 := fun e => by have := xor_zero e; omega
 have h1 : 2 ^ (a ^^^ n).log2 ≤ a ^^^ n := Nat.log2_self_le hx; have h2 : a ^^^ n < 2 ^ ((a ^^^ n).log2 + 1) := Nat.lt_log2_self; refine ⟨?_, ?_⟩
 · unfold D64; apply xor_zero; rw [← xor_div]; apply Nat.div_eq_of_lt; refine Nat.lt_of_lt_of_le h2 (Nat.pow_le_pow_right (by decide) ?_); unfold lev; omega
 · have h3 : a / D64 (lev a n) ≠ n / D64 (lev a n) := by
    intro e; unfold D64 at e; have h4 : (a ^^^ n) / 2 ^ (6 * lev a n) = 0 := by rw [xor_div, e, Nat.xor_self]
    have h5 : 2 ^ (6 * lev a n) ≤ a ^^^ n := Nat.le_trans (Nat.pow_le_pow_right (by decide) (by unfold lev; omega)) h1; have h6 := Nat.div_pos h5 (Nat.pow_pos (by decide)); omega
   have h4 := Nat.div_le_div_right (c := D64 (lev a n)) (Nat.le_of_lt h); omega
theorem div_up {a b i : Nat} (h : a / D64 i = b / D64 i) {j : Nat} (hj : i ≤ j) : a / D64 j = b / D64 j := by
 obtain ⟨d, rfl⟩ := Nat.exists_eq_add_of_le hj; rw [D64_add, ← Nat.div_div_eq_div_mul, ← Nat.div_div_eq_div_mul, h]
theorem lt_of_div {a b i : Nat} (h : a / D64 i < b / D64 i) : a < b := by
 apply Classical.byContradiction; intro h1; have := Nat.div_le_div_right (c := D64 i) (Nat.le_of_not_lt h1); omega
theorem PosA.uniq {a n k : Nat} (h : PosA a n k) : lev a n = k := by
 have hn : n < a := lt_of_div h.lo; have h' := lev_pos hn; rcases Nat.lt_trichotomy (lev a n) k with h1 | h1 | h1
 · have := div_up h'.up h1; have := h.lo; omega
 · exact h1
 · have := div_up h.up h1; have := h'.lo; omega
theorem lev_lt8 {a n : Nat} (h : n < a) (ha : a ≤ mxN) : lev a n < 8 := by
 apply Classical.byContradiction; intro h1; have h2 := (lev_pos h).lo; have h3 : D64 8 = 281474976710656 := by decide
 have ha' : a ≤ 281474976710655 := ha; have h4 : a / D64 8 = n / D64 8 := by rw [h3, Nat.div_eq_of_lt (by omega), Nat.div_eq_of_lt (by omega)]
 have := div_up h4 (Nat.le_of_not_lt h1); omega
theorem lev_never : lev (mxN + 1) mxN = 8 := by
 apply PosA.uniq; refine ⟨?_, ?_⟩ <;> decide
theorem digits (a k : Nat) : a / D64 k = a / D64 (k + 1) * 64 + slt a k := by
 unfold slt; rw [D64_succ, ← Nat.div_div_eq_div_mul]; omega
theorem lev_less {a b n : Nat} (ha : n < a) (hb : n < b) (h : lev a n < lev b n) : a < b := by
 apply lt_of_div (i := lev b n); have h1 := div_up (lev_pos ha).up h; have h2 := (lev_pos hb).lo; omega
theorem turn_below {a n n' : Nat} (ha : n < a) (hn : n < n') (h : lev a n < lev n' n) : a < n' := lev_less ha hn h
theorem turn_behind {a n n' : Nat} (ha : n < a) (hn : n < n') (h : lev a n = lev n' n) (hs : slt n' (lev n' n) < slt a (lev n' n)) : n' < a ∧ lev a n' = lev a n := by
 have h1 := (lev_pos ha).up; have h2 := (lev_pos hn).up; rw [h] at h1; have h3 : n' / D64 (lev n' n) < a / D64 (lev n' n) := by rw [digits a, digits n']; omega
 refine ⟨lt_of_div h3, ?_⟩; rw [h]; exact PosA.uniq ⟨by omega, h3⟩
theorem turn_above {a n n' : Nat} (ha : n < a) (hn : n < n') (h : lev n' n < lev a n) : n' < a ∧ lev a n' = lev a n := by
 have h1 := lev_pos ha; have h2 := div_up (lev_pos hn).up h; refine ⟨lev_less hn ha h, PosA.uniq ⟨?_, ?_⟩⟩
 · rw [h1.up]; exact (div_up (lev_pos hn).up (Nat.le_succ_of_le h)).symm
 · rw [h2]; exact h1.lo
end Go.Proofs.YtpakkpahcpgnnaaGreatDoor.Wh
