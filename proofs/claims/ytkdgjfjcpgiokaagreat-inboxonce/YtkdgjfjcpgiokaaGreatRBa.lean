import Derived.Test.YtkdgjfjcpgiokaaGreatRL
namespace Go.Proofs.YtkdgjfjcpgiokaaGreat
set_option linter.unusedVariables false
set_option linter.unusedSimpArgs false
open Go.RowKit
/-- rows of bytes -/
abbrev KB : Kd UInt8 := { t := 5, ts := 24, k := 1, by_ := 1, f := fun b => [.int .u8 (b.toNat : Int)], z := .int .u8 0, hk := fun _ => rfl, h1 := (fun d u hu => by simp at hu; subst hu; rfl), hpos := by decide, ht := Tryz.underlying24, hi := by kernel_rfl, hz := rfl }
theorem KB_flat (xs : List UInt8) : KB.flat xs = bv xs := by
  unfold Kd.flat bv
  induction xs with
  | nil => rfl
  | cons x r ih => rw [List.flatMap_cons, ih]; rfl
theorem ownGB {w : World} {B : Nat} {v : Value} {xs : List UInt8} : OwnG KB w B v xs ↔ Own w B v xs := by
  unfold OwnG Own
  rw [KB_flat]
/-- append of one byte -/
theorem wpo_appB1 {w : World} {o : Oper} {a : Act} {P : Act → World → Prop} {Q : Exit → Act → World → Prop} (s x : Operand)
    (ho : o.op = .call { callee := .builtin .append, args := #[s, x], argTypes := #[24, 24] }) (B : Nat) (v : Value) (xs : List UInt8) (y : UInt8) (n : Nat) (hn : n = xs.length) (b9 o9 : Nat) (cap : Nat)
    (hs : a.eval s = v) (hown : Own w B v xs) (hx : a.eval x = .slice (some ⟨b9, o9, none⟩) 1 cap) (hr : w.cell? ⟨b9, o9, none⟩ = some (.int .u8 (y.toNat : Int)))
    (hb : n + 1 ≤ 140737488355328) (hbase : B ≤ w.heap.size)
    (h : ∀ g cap w', Own w' B (.slice (some ⟨g, 0, none⟩) (n + 1) cap) (xs ++ [y]) → w.grownBy w' v.ownBlock → (v.ownBlock = some g ∨ w.heap.size ≤ g) → P (a.put o.dst (.slice (some ⟨g, 0, none⟩) (n + 1) cap)) w') : o.wp Tryz.prog a w P Q := by
  subst hn
  obtain ⟨i0, hi, hz0, hz1, hz2⟩ := info_parts KB.hi
  refine wp_append_lies w s x 24 ho B 5 i0 (.int .u8 0) 1 1 Tryz.underlying24 hi hz0 hz1 hz2 rfl (by decide) v xs.length (bv xs) hs hown ⟨b9, o9, none⟩ 1 cap (bv [y]) hx rfl (fun j u hj => ?_) (bv_one [y]) (by omega) (by simp only [maxLen]; omega) (by simpa using hb) hbase w.heap.size rfl ?_
  · have h0 : j = 0 := by
      have := (List.getElem?_eq_some_iff.1 hj).1
      simp [bv] at this
      exact this
    subst h0
    simp [bv] at hj
    subst hj
    rw [Go.WideShapes.add_plain]
    simpa using hr
  · intro g cap w' h1 h2 h3 _
    refine h g cap w' ?_ h2 (h3.imp id (fun e => by omega))
    unfold Own
    rw [List.length_append, bv_append]
    exact h1
section
variable {w w' w1 : World} {B : Nat} {v : Value} {E : List Dc} {T : List (List UInt8)}
theorem Fml.setd (h : Fml w B E T) {i : Nat} {d d' : Dc} (hd : E[i]? = some d) {t' : List UInt8} (hg : w.grownBy w1 d.v.ownBlock) (ho : Own w1 B d'.v t') (hat : ∀ b, d'.v.ownBlock = some b → d.v.ownBlock = some b ∨ w.heap.size ≤ b) : Fml w1 B (E.set i d') (T.set i t') := by
  have hi : i < E.length := (List.getElem?_eq_some_iff.1 hd).1
  have hiT : i < T.length := by rw [← h.len]; exact hi
  have old : ∀ (j : Nat) e b, j ≠ i → E[j]? = some e → e.v.ownBlock = some b → d'.v.ownBlock = some b → False := fun j e b hji he hb hb2 => by
    rcases hat b hb2 with h1 | h1
    · exact h.ap i j d e b hd he (Ne.symm hji) h1 hb
    · have := (h.lt ⟨j, e, he, hb⟩).2
      omega
  refine ⟨by rw [List.length_set, List.length_set]; exact h.len, fun j e s he hs => ?_, fun j k e f b he hf hne h1 h2 => ?_⟩
  · by_cases hij : i = j
    · subst hij
      rw [List.getElem?_set_self hi] at he
      rw [List.getElem?_set_self hiT] at hs
      cases he
      cases hs
      exact ho
    · rw [List.getElem?_set_ne hij] at he hs
      have h1 := h.own j e s he hs
      exact Own.keptb h1 (fun b hb => hg.block b (World.ownsRow.lt h1 b hb).2 (fun e2 => h.ap i j d e b hd he hij e2.symm hb))
  · by_cases hij : i = j
    · subst hij
      rw [List.getElem?_set_self hi] at he
      cases he
      rw [List.getElem?_set_ne hne] at hf
      exact old k f b (Ne.symm hne) hf h2 h1
    · rw [List.getElem?_set_ne hij] at he
      by_cases hik : i = k
      · subst hik
        rw [List.getElem?_set_self hi] at hf
        cases hf
        exact old j e b (Ne.symm hij) he h1 h2
      · rw [List.getElem?_set_ne hik] at hf
        exact h.ap j k e f b he hf hne h1 h2
/-- one of the lists grew, and its slice is stored -/
theorem Lists.setl {g n c : Nat} (h : Lists w B (.slice (some ⟨g, 0, none⟩) n c) E T) (hn : n = E.length) {i : Nat} {d d' : Dc} (hd : E[i]? = some d) {t' : List UInt8} (hg : w.grownBy w1 d.v.ownBlock) (ho : Own w1 B d'.v t') (hat : ∀ b, d'.v.ownBlock = some b → d.v.ownBlock = some b ∨ w.heap.size ≤ b) :
    Lists (w1.setCell ⟨g, i, none⟩ d'.v) B (.slice (some ⟨g, 0, none⟩) n c) (E.set i d') (T.set i t') := by
  have hi : i < E.length := (List.getElem?_eq_some_iff.1 hd).1
  have hf := h.fml.setd hd hg ho hat
  have hr1 : OwnG KL w1 B (.slice (some ⟨g, 0, none⟩) n c) E := h.row.kept (fun b e => hg.block b (h.row.lt' e).2 (fun e2 => by
    obtain ⟨cur, h1⟩ := h.row.at_ e
    obtain ⟨C, h2⟩ := h.fml.ty ⟨i, d, hd, e2.symm⟩
    exact absurd (ty_of h1 h2) (by decide)))
  refine ⟨?_, hf.keep5 (fun b C h1 => heap_setCell_other _ _ _ _ (fun e => ?_))⟩
  · have := OwnG.setc (K := KL) hr1 hn i 0 hi (by decide) d' d'.v rfl
    simpa using this
  · obtain ⟨cur, h2⟩ := hr1.at_ (b := g) rfl
    have e' : b = g := e
    rw [e'] at h1
    exact absurd (ty_of h1 h2) (by decide)
theorem Lists.cellAt {g n c : Nat} (h : Lists w B (.slice (some ⟨g, 0, none⟩) n c) E T) (hn : n = E.length) {i : Nat} {d : Dc} (hd : E[i]? = some d) : w.cell? ⟨g, i, none⟩ = some d.v := by
  obtain ⟨hi, e⟩ := List.getElem?_eq_some_iff.1 hd
  have := h.row.cell hn i 0 hi (by decide)
  rw [e] at this
  simpa using this
end
/-- the document's segments of the first bytes -/
def stT (xs : Seg) (m q r : Nat) : List Seg := segN xs m q ++ (if r = 0 then [] else [(xs.drop (q * m)).take r])
theorem stT_len (xs : Seg) (m q r : Nat) : (stT xs m q r).length = if r = 0 then q else q + 1 := by
  unfold stT
  rw [List.length_append, segN_len]
  split <;> simp
theorem take_one_more (xs : Seg) (q m r : Nat) (c : UInt8) (h : xs[q * m + r]? = some c) : (xs.drop (q * m)).take r ++ [c] = (xs.drop (q * m)).take (r + 1) := by
  rw [List.take_add_one, List.getElem?_drop, h]
  rfl
theorem stT_next (xs : Seg) (m q r : Nat) (hm : 0 < m) (hr : r < m) : segN xs m q ++ [(xs.drop (q * m)).take (r + 1)] = if r + 1 = m then stT xs m (q + 1) 0 else stT xs m q (r + 1) := by
  by_cases h : r + 1 = m
  · rw [if_pos h]
    unfold stT
    rw [if_pos rfl, List.append_nil, segN_succ, h]
  · rw [if_neg h]
    unfold stT
    rw [if_neg (by omega)]
theorem stT_end (xs : Seg) (m q r : Nat) (hm : 0 < m) (hr : r < m) (hn : xs.length = q * m + r) : stT xs m q r = segN xs m (cutN xs.length m) := by
  by_cases h : r = 0
  · subst h
    rw [cutN_of (j := q) hm (by omega) (by omega)]
    simp [stT]
  · rw [cutN_of (j := q + 1) hm (by rw [Nat.succ_mul]; omega) (by rw [Nat.succ_mul]; omega), segN_succ]
    unfold stT
    rw [if_neg h]
    congr 2
    rw [List.take_of_length_le (by rw [List.length_drop]; omega), List.take_of_length_le (by rw [List.length_drop]; omega)]
end Go.Proofs.YtkdgjfjcpgiokaaGreat
namespace Go.Proofs.YtkdgjfjcpgiokaaGreat
set_option linter.unusedVariables false
set_option linter.unusedSimpArgs false
open Go.RowKit
section
variable {w w' : World}
/-- what the loop of the document's Cut keeps -/
def DRel (xs : Seg) (m : Nat) (w : World) (v f : Value) (wr : World) : Prop := ∃ (q r : Nat) (E : List Dc), f = .int .i64 ((q * m + r : Nat) : Int) ∧ r < m ∧ q * m + r ≤ xs.length ∧ Lists wr w.heap.size v E (stT xs m q r) ∧ Below w.heap.size w wr
theorem Lists.rowKept {w w1 : World} {B g n c : Nat} {E : List Dc} {T : List Seg} (h : Lists w B (.slice (some ⟨g, 0, none⟩) n c) E T) (hn : n = E.length) {i : Nat} {d : Dc} (hd : E[i]? = some d) (hg : w.grownBy w1 d.v.ownBlock) : w1.cell? ⟨g, i, none⟩ = some d.v ∧ w1.frozen? ⟨g, i, none⟩ = false := by
  have h8 : w1.heap[g]? = w.heap[g]? := hg.block g (h.row.lt' (b := g) rfl).2 (fun e => by
    obtain ⟨cur, h1⟩ := h.row.at_ (b := g) rfl
    obtain ⟨C, h2⟩ := h.fml.ty ⟨i, d, hd, e.symm⟩
    exact absurd (ty_of h1 h2) (by decide))
  exact ⟨(World.cell?_of_block h8).trans (h.cellAt hn hd), (World.frozen?_of_block h8).trans (h.row.fz i)⟩
theorem rd_cell {w : World} {b o : Nat} {xs : List UInt8} (h : Rd w (some ⟨b, o, none⟩) xs) {i : Nat} {y : UInt8} (hy : xs[i]? = some y) : w.cell? ⟨b, o + i, none⟩ = some (.int .u8 (y.toNat : Int)) := by
  obtain ⟨hi, e⟩ := List.getElem?_eq_some_iff.1 hy
  obtain ⟨b2, o2, e2, h8⟩ := h (by omega)
  cases e2
  rw [h8 i hi, e]
theorem set_last (A : List Seg) (x y : Seg) : (A ++ [x]).set A.length y = A ++ [y] := by
  rw [List.set_append_right _ _ (Nat.le_refl _)]
  simp
end
end Go.Proofs.YtkdgjfjcpgiokaaGreat
namespace Go.Proofs.YtkdgjfjcpgiokaaGreat
set_option linter.unusedVariables false
set_option linter.unusedSimpArgs false
open Go.RowKit
theorem frL_at : ∀ {D : List Seg} {k : Nat} {x : Seg}, (∀ (j : Nat) y, j < k → D[j]? = some y → y.length = 0) → D[k]? = some x → x.length ≠ 0 → frL D = x.length
  | [], k, x, _, hx, _ => by simp at hx
  | z :: r, 0, x, _, hx, h0 => by
    simp at hx
    subst hx
    unfold frL
    rw [if_neg h0]
  | z :: r, k + 1, x, h, hx, h0 => by
    have hz := h 0 z (by omega) (by simp)
    unfold frL
    rw [if_pos hz]
    exact frL_at (k := k) (fun j y hj hy => h (j + 1) y (by omega) (by simpa using hy)) (by simpa using hx) h0
theorem lenS_at {S : List Seg} {k : Nat} {x : Seg} (hk : k + 1 < S.length) (h : ∀ (j : Nat) y, j < k → S[j]? = some y → y.length = 0) (hx : S[k]? = some x) (h0 : x.length ≠ 0) : lenS S = x.length := by
  unfold lenS
  refine frL_at (k := k) (fun j y hj hy => h j y hj ?_) ?_ h0
  · rw [List.getElem?_take_of_lt (by omega)] at hy; exact hy
  · rw [List.getElem?_take_of_lt (by omega)]; exact hx
theorem lenS_0 {S : List Seg} (h : ∀ (j : Nat) y, j + 1 < S.length → S[j]? = some y → y.length = 0) : lenS S = 0 := by
  unfold lenS
  refine frL_zero.2 (fun x hx => ?_)
  obtain ⟨j, hj, rfl⟩ := List.mem_iff_getElem.1 hx
  rw [List.length_take] at hj
  refine h j _ (by omega) ?_
  rw [List.getElem_take]
  exact List.getElem?_eq_getElem (by omega)
/-- a row of lists as it is read -/
structure RowL (w : World) (a : Option Addr) (n : Nat) (E : List Dc) (S : List Seg) : Prop where
  hn : n = S.length
  len : E.length = S.length
  n0 : 1 ≤ S.length
  n1 : S.length ≤ 64
  els : ∀ (i : Nat) d xs, E[i]? = some d → S[i]? = some xs → ByV w d xs ∧ xs.length ≤ 1024
  rd : RdG KL w a E
theorem RowL.kept {w w' : World} {a : Option Addr} {n : Nat} {E : List Dc} {S : List Seg} (h : RowL w a n E S) (hb : Below w.heap.size w w') : RowL w' a n E S := ⟨h.hn, h.len, h.n0, h.n1, fun i d xs hd hx => ⟨(h.els i d xs hd hx).1.below hb, (h.els i d xs hd hx).2⟩, h.rd.below hb⟩
theorem RowL.addr {w : World} {a : Option Addr} {n : Nat} {E : List Dc} {S : List Seg} (h : RowL w a n E S) : ∃ b o, a = some ⟨b, o, none⟩ := by
  obtain ⟨b, o, h1, -⟩ := h.rd 0 (by rw [h.len]; exact h.n0)
  exact ⟨b, o, h1⟩
theorem RowL.at_ {w : World} {b o n : Nat} {E : List Dc} {S : List Seg} (h : RowL w (some ⟨b, o, none⟩) n E S) {k : Nat} (hk : k < n) : ∃ d xs, E[k]? = some d ∧ S[k]? = some xs ∧ w.cell? ⟨b, o + k, none⟩ = some d.v ∧ ByV w d xs ∧ xs.length ≤ 1024 := by
  rw [h.hn] at hk
  have hE : k < E.length := by rw [h.len]; exact hk
  have h1 := List.getElem?_eq_getElem hE
  have h2 := List.getElem?_eq_getElem hk
  obtain ⟨b', o', e, h3, -⟩ := h.rd k hE
  cases e
  have h4 := h3 0 (Dc.v E[k]) rfl
  simp at h4
  exact ⟨_, _, h1, h2, h4, h.els k _ _ h1 h2⟩
section
variable {w w' : World} {a : Option Addr} {n c : Nat} {E : List Dc} {S : List Seg}
theorem lastS_at (h : RowL w a n E S) {x : Seg} (hx : S[n - 1]? = some x) : lastS S = x.length := by
  unfold lastS
  rw [← h.hn, hx]
  rfl
theorem fit_split {S : List Seg} (l z : Nat) (hl : lenS S = l) (hz : lastS S = z) (h : ∀ (j : Nat) y, j + 1 < S.length → S[j]? = some y → y.length = 0 ∨ y.length = l) : fitS S = capB S.length l z := by
  unfold fitS
  rw [hl, hz, uniD_iff.2 (fun x hx => ?_), Bool.true_and]
  obtain ⟨j, hj, rfl⟩ := List.mem_iff_getElem.1 hx
  rw [List.length_take] at hj
  refine h j _ (by omega) ?_
  rw [List.getElem_take]
  exact List.getElem?_eq_getElem (by omega)
theorem fit_split_no {S : List Seg} {k : Nat} {y : Seg} (hk : k + 1 < S.length) (hy : S[k]? = some y) (h0 : y.length ≠ 0) (h1 : y.length ≠ lenS S) : fitS S = false := by
  rcases hf : fitS S with _ | _
  · rfl
  · have hu := uniD_iff.1 (fit_uni hf) y (by
      refine List.mem_iff_getElem?.2 ⟨k, ?_⟩
      rw [List.getElem?_take_of_lt (by omega)]
      exact hy)
    omega
end
end Go.Proofs.YtkdgjfjcpgiokaaGreat
