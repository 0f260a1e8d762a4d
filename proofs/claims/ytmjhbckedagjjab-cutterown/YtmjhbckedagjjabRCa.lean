import Derived.Test.YtmjhbckedagjjabCH
import Derived.Test.YtmjhbckedagjjabRL
namespace Go.Proofs.Ytmjhbckedagjjab
set_option linter.unusedVariables false
set_option linter.unusedSimpArgs false
open Go.RowKit
/-- rows of bytes -/
abbrev KB : Kd UInt8 := { t := 5, ts := 30, k := 1, by_ := 1, f := fun b => [.int .u8 (b.toNat : Int)], z := .int .u8 0, hk := fun _ => rfl, h1 := (fun d u hu => by simp at hu; subst hu; rfl), hpos := by decide, ht := Try.underlying30, hi := by kernel_rfl, hz := rfl }
theorem KB_flat (xs : List UInt8) : KB.flat xs = bv xs := by
  unfold Kd.flat bv
  induction xs with
  | nil => rfl
  | cons x r ih => rw [List.flatMap_cons, ih]; rfl
theorem ownGB {w : World} {B : Nat} {v : Value} {xs : List UInt8} : OwnG KB w B v xs ↔ Own w B v xs := by
  unfold OwnG Own
  rw [KB_flat]
/-- append of one byte -/
theorem wpo_appB1 {w : World} {o : Oper} {a : Act} {P : Act → World → Prop} {Q : Exit → Act → World → Prop} (s x : Operand)
    (ho : o.op = .call { callee := .builtin .append, args := #[s, x], argTypes := #[30, 30] }) (B : Nat) (v : Value) (xs : List UInt8) (y : UInt8) (n : Nat) (hn : n = xs.length) (b9 o9 : Nat) (cap : Nat)
    (hs : a.eval s = v) (hown : Own w B v xs) (hx : a.eval x = .slice (some ⟨b9, o9, none⟩) 1 cap) (hr : w.cell? ⟨b9, o9, none⟩ = some (.int .u8 (y.toNat : Int)))
    (hb : n + 1 ≤ 140737488355328) (hbase : B ≤ w.heap.size)
    (h : ∀ g cap w', Own w' B (.slice (some ⟨g, 0, none⟩) (n + 1) cap) (xs ++ [y]) → w.grownBy w' v.ownBlock → (v.ownBlock = some g ∨ w.heap.size ≤ g) → P (a.put o.dst (.slice (some ⟨g, 0, none⟩) (n + 1) cap)) w') : o.wp Try.prog a w P Q := by
  subst hn
  obtain ⟨i0, hi, hz0, hz1, hz2⟩ := info_parts KB.hi
  refine wp_append_lies w s x 30 ho B 5 i0 (.int .u8 0) 1 1 Try.underlying30 hi hz0 hz1 hz2 rfl (by decide) v xs.length (bv xs) hs hown ⟨b9, o9, none⟩ 1 cap (bv [y]) hx rfl (fun j u hj => ?_) (bv_one [y]) (by omega) (by simp only [maxLen]; omega) (by simpa using hb) hbase w.heap.size rfl ?_
  · have h0 : j = 0 := by
      have := (List.getElem?_eq_some_iff.1 hj).1
      simp [bv] at this
      exact this
    subst h0
    simp [bv] at hj
    subst hj
    rw [Go.WideShapes.add_plain]
    simpa using hr
  · intro g cap w' h1 h2 h3 _
    refine h g cap w' ?_ h2 (h3.imp id (fun e => by omega))
    unfold Own
    rw [List.length_append, bv_append]
    exact h1
section
variable {w w' w1 : World} {B : Nat} {v : Value} {E : List Dc} {T : List (List UInt8)}
theorem Fml.setd (h : Fml w B E T) {i : Nat} {d d' : Dc} (hd : E[i]? = some d) {t' : List UInt8} (hg : w.grownBy w1 d.v.ownBlock) (ho : Own w1 B d'.v t') (hat : ∀ b, d'.v.ownBlock = some b → d.v.ownBlock = some b ∨ w.heap.size ≤ b) : Fml w1 B (E.set i d') (T.set i t') := by
  have hi : i < E.length := (List.getElem?_eq_some_iff.1 hd).1
  have hiT : i < T.length := by rw [← h.len]; exact hi
  have old : ∀ (j : Nat) e b, j ≠ i → E[j]? = some e → e.v.ownBlock = some b → d'.v.ownBlock = some b → False := fun j e b hji he hb hb2 => by
    rcases hat b hb2 with h1 | h1
    · exact h.ap i j d e b hd he (Ne.symm hji) h1 hb
    · have := (h.lt ⟨j, e, he, hb⟩).2
      omega
  refine ⟨by rw [List.length_set, List.length_set]; exact h.len, fun j e s he hs => ?_, fun j k e f b he hf hne h1 h2 => ?_⟩
  · by_cases hij : i = j
    · subst hij
      rw [List.getElem?_set_self hi] at he
      rw [List.getElem?_set_self hiT] at hs
      cases he
      cases hs
      exact ho
    · rw [List.getElem?_set_ne hij] at he hs
      have h1 := h.own j e s he hs
      exact Own.keptb h1 (fun b hb => hg.block b (World.ownsRow.lt h1 b hb).2 (fun e2 => h.ap i j d e b hd he hij e2.symm hb))
  · by_cases hij : i = j
    · subst hij
      rw [List.getElem?_set_self hi] at he
      cases he
      rw [List.getElem?_set_ne hne] at hf
      exact old k f b (Ne.symm hne) hf h2 h1
    · rw [List.getElem?_set_ne hij] at he
      by_cases hik : i = k
      · subst hik
        rw [List.getElem?_set_self hi] at hf
        cases hf
        exact old j e b (Ne.symm hij) he h1 h2
      · rw [List.getElem?_set_ne hik] at hf
        exact h.ap j k e f b he hf hne h1 h2
/-- one of the lists grew, and its slice is stored -/
theorem Lists.setl {g n c : Nat} (h : Lists w B (.slice (some ⟨g, 0, none⟩) n c) E T) (hn : n = E.length) {i : Nat} {d d' : Dc} (hd : E[i]? = some d) {t' : List UInt8} (hg : w.grownBy w1 d.v.ownBlock) (ho : Own w1 B d'.v t') (hat : ∀ b, d'.v.ownBlock = some b → d.v.ownBlock = some b ∨ w.heap.size ≤ b) :
    Lists (w1.setCell ⟨g, i, none⟩ d'.v) B (.slice (some ⟨g, 0, none⟩) n c) (E.set i d') (T.set i t') := by
  have hi : i < E.length := (List.getElem?_eq_some_iff.1 hd).1
  have hf := h.fml.setd hd hg ho hat
  have hr1 : OwnG KL w1 B (.slice (some ⟨g, 0, none⟩) n c) E := h.row.kept (fun b e => hg.block b (h.row.lt' e).2 (fun e2 => by
    obtain ⟨cur, h1⟩ := h.row.at_ e
    obtain ⟨C, h2⟩ := h.fml.ty ⟨i, d, hd, e2.symm⟩
    exact absurd (ty_of h1 h2) (by decide)))
  refine ⟨?_, hf.keep5 (fun b C h1 => heap_setCell_other _ _ _ _ (fun e => ?_))⟩
  · have := OwnG.setc (K := KL) hr1 hn i 0 hi (by decide) d' d'.v rfl
    simpa using this
  · obtain ⟨cur, h2⟩ := hr1.at_ (b := g) rfl
    have e' : b = g := e
    rw [e'] at h1
    exact absurd (ty_of h1 h2) (by decide)
theorem Lists.cellAt {g n c : Nat} (h : Lists w B (.slice (some ⟨g, 0, none⟩) n c) E T) (hn : n = E.length) {i : Nat} {d : Dc} (hd : E[i]? = some d) : w.cell? ⟨g, i, none⟩ = some d.v := by
  obtain ⟨hi, e⟩ := List.getElem?_eq_some_iff.1 hd
  have := h.row.cell hn i 0 hi (by decide)
  rw [e] at this
  simpa using this
end
/-- the document's segments of the first bytes -/
def stT (xs : Seg) (m q r : Nat) : List Seg := segN xs m q ++ (if r = 0 then [] else [(xs.drop (q * m)).take r])
theorem stT_len (xs : Seg) (m q r : Nat) : (stT xs m q r).length = if r = 0 then q else q + 1 := by
  unfold stT
  rw [List.length_append, segN_len]
  split <;> simp
theorem take_one_more (xs : Seg) (q m r : Nat) (c : UInt8) (h : xs[q * m + r]? = some c) : (xs.drop (q * m)).take r ++ [c] = (xs.drop (q * m)).take (r + 1) := by
  rw [List.take_add_one, List.getElem?_drop, h]
  rfl
theorem stT_next (xs : Seg) (m q r : Nat) (hm : 0 < m) (hr : r < m) : segN xs m q ++ [(xs.drop (q * m)).take (r + 1)] = if r + 1 = m then stT xs m (q + 1) 0 else stT xs m q (r + 1) := by
  by_cases h : r + 1 = m
  · rw [if_pos h]
    unfold stT
    rw [if_pos rfl, List.append_nil, segN_succ, h]
  · rw [if_neg h]
    unfold stT
    rw [if_neg (by omega)]
theorem stT_end (xs : Seg) (m q r : Nat) (hm : 0 < m) (hr : r < m) (hn : xs.length = q * m + r) : stT xs m q r = segN xs m (cutN xs.length m) := by
  by_cases h : r = 0
  · subst h
    rw [cutN_of (j := q) hm (by omega) (by omega)]
    simp [stT]
  · rw [cutN_of (j := q + 1) hm (by rw [Nat.succ_mul]; omega) (by rw [Nat.succ_mul]; omega), segN_succ]
    unfold stT
    rw [if_neg h]
    congr 2
    rw [List.take_of_length_le (by rw [List.length_drop]; omega), List.take_of_length_le (by rw [List.length_drop]; omega)]
end Go.Proofs.Ytmjhbckedagjjab
