import Derived.Test.YtkdgjfjcpgiokaaGreatRBa
import Derived.Test.YtkdgjfjcpgiokaaGreatCuP
namespace Go.Proofs.YtkdgjfjcpgiokaaGreat
set_option linter.unusedVariables false
set_option linter.unusedSimpArgs false
open Go.RowKit
/-- a box of the document in memory -/
structure Rx (w : World) (q : Nat) (v : Value) (E : List Dc) (S : List Seg) : Prop where
  hp : w.heap[q]? = some (.cells #[v] tRb (0, 0))
  row : OwnG KL w 0 v E
  len : E.length = S.length
  n0 : 1 ≤ S.length
  n1 : S.length ≤ 64
  els : ∀ (i : Nat) d xs, E[i]? = some d → S[i]? = some xs → ByV w d xs ∧ xs.length ≤ 1024
def footR (q : Nat) (v : Value) (E : List Dc) (b : Nat) : Prop := b = q ∨ v.ownBlock = some b ∨ ∃ d ∈ E, ∃ ad, d.a = some ad ∧ ad.block = b
section
variable {w w' : World} {q : Nat} {v : Value} {E : List Dc} {S : List Seg}
theorem Rx.mem (h : Rx w q v E S) {d : Dc} (hd : d ∈ E) : ∃ xs, ByV w d xs := by
  obtain ⟨i, hi, rfl⟩ := List.mem_iff_getElem.1 hd
  have hS : i < S.length := by rw [← h.len]; exact hi
  exact ⟨_, (h.els i E[i] S[i] (List.getElem?_eq_getElem hi) (List.getElem?_eq_getElem hS)).1⟩
theorem Rx.lt (h : Rx w q v E S) {b : Nat} (hb : footR q v E b) : b < w.heap.size := by
  rcases hb with rfl | hb | ⟨d, hd, ad, ha, rfl⟩
  · exact (Array.getElem?_eq_some_iff.1 h.hp).1
  · exact (h.row.lt' hb).2
  · obtain ⟨xs, hx⟩ := h.mem hd
    exact hx.lt ha
theorem Rx.kept (h : Rx w q v E S) (hk : ∀ b, footR q v E b → w'.heap[b]? = w.heap[b]?) : Rx w' q v E S :=
  ⟨(hk q (.inl rfl)).trans h.hp, h.row.kept (fun b e => hk b (.inr (.inl e))), h.len, h.n0, h.n1, fun i d xs hd hx => by
    obtain ⟨h1, h2⟩ := h.els i d xs hd hx
    exact ⟨h1.kept (fun ad ha => hk _ (.inr (.inr ⟨d, List.mem_of_getElem? hd, ad, ha, rfl⟩))), h2⟩⟩
theorem Rx.below (h : Rx w q v E S) (hb : Below w.heap.size w w') : Rx w' q v E S := h.kept (fun b hf => hb.block b (h.lt hf))
theorem Rx.c0 (h : Rx w q v E S) : w.cell? ⟨q, 0, none⟩ = some v := by rw [cell_of_row _ _ _ _ _ _ h.hp]; rfl
theorem Rx.fz (h : Rx w q v E S) (i : Nat) : w.frozen? ⟨q, i, none⟩ = false := by simp [World.frozen?, h.hp]
theorem Rx.val (h : Rx w q v E S) : ∃ g c, v = .slice (some ⟨g, 0, none⟩) S.length c := by
  obtain ⟨g, c, hv, -⟩ := h.row.one (by rw [h.len]; exact h.n0)
  rw [h.len] at hv
  exact ⟨g, c, hv⟩
theorem Rx.rowL {g c : Nat} (h : Rx w q (.slice (some ⟨g, 0, none⟩) S.length c) E S) : RowL w (some ⟨g, 0, none⟩) S.length E S :=
  ⟨rfl, h.len, h.n0, h.n1, h.els, by have h9 := h.row; rw [← h.len] at h9; exact OwnG.rd h9⟩
theorem Rx.at_ {g c : Nat} (h : Rx w q (.slice (some ⟨g, 0, none⟩) S.length c) E S) {k : Nat} (hk : k < S.length) : ∃ d xs, E[k]? = some d ∧ S[k]? = some xs ∧ w.cell? ⟨g, k, none⟩ = some d.v ∧ ByV w d xs ∧ xs.length ≤ 1024 := by
  have := h.rowL.at_ hk
  simpa using this
theorem Rx.small (h : Rx w q v E S) : ∀ xs ∈ S, xs.length ≤ 1024 := fun xs hx => by
  obtain ⟨i, hi, rfl⟩ := List.mem_iff_getElem.1 hx
  have hV : i < E.length := by rw [h.len]; exact hi
  exact (h.els i E[i] S[i] (List.getElem?_eq_getElem hV) (List.getElem?_eq_getElem hi)).2
end
section
variable {w w' : World} {q : Nat} {E : List Dc} {S : List Seg} {g c : Nat}
theorem flat_rep (r : Nat) : KL.flat (List.replicate r Dc.z) = List.replicate r (Value.slice none 0 0) := by
  unfold Kd.flat
  induction r with
  | zero => rfl
  | succ r ih => rw [List.replicate_succ, List.flatMap_cons, ih, List.replicate_succ]; rfl
theorem make_lists (n : Nat) (hn : n ≤ 65536) (w : World) : (Instr.makeSlice 44 (.int .i64 (n : Int)) (.int .i64 (n : Int))).run Tryz.prog w = .ok (.slice (some ⟨w.heap.size, 0, none⟩) n n) (w.alloc (.cells (List.replicate n (Value.slice none 0 0)).toArray 24)) := by
  obtain ⟨i0, hi, hz0, hz1, hz2⟩ := info_parts KL.hi
  have hmk := run_make (P := Tryz.prog) w 44 24 i0 (.slice none 0 0) Tryz.underlying44 hi hz0 .i64 .i64 (n : Int) (n : Int) (by omega) (Int.le_refl _) (by rw [hz2]; show ((24 : Nat) : Int) * (n : Int) ≤ _; omega) (by omega)
  rw [hmk, hz1]
  simp only [Int.toNat_natCast]
  have e : madeCells (Value.cells (.slice none 0 0)) (n * 1) = (List.replicate n (Value.slice none 0 0)).toArray := by
    apply Array.ext_getElem?
    intro j
    by_cases hj : j < n
    · simp [madeCells, Value.cells, hj, Nat.mod_one]
    · rw [Array.getElem?_eq_none (by simp [madeCells]; omega), Array.getElem?_eq_none (by simp; omega)]
  first | rw [e] | (rw [show (n * 1) = n by omega] at e; rw [e])
theorem own_rep {w : World} {g B r : Nat} (hB : B ≤ g) (h : w.heap[g]? = some (.cells (List.replicate r (Value.slice none 0 0)).toArray 24 (0, 0))) (hr : r ≤ 65536) : OwnG KL w B (.slice (some ⟨g, 0, none⟩) r r) (List.replicate r Dc.z) := by
  refine ⟨by rw [Kd.flat_len], .inr ⟨g, r, _, by rw [List.length_replicate], hB, h, by simp, by simp only [maxLen]; omega, by simp, ?_⟩⟩
  rw [flat_rep]
  simp
theorem foot_new {r a : Nat} {b : Nat} (hb : footR (a + 1) (.slice (some ⟨a, 0, none⟩) r r) (List.replicate r Dc.z) b) : a ≤ b := by
  rcases hb with rfl | hb | ⟨d, hd, ad, ha, -⟩
  · omega
  · cases hb; exact Nat.le_refl _
  · rw [List.eq_of_mem_replicate hd] at ha
    cases ha
end
end Go.Proofs.YtkdgjfjcpgiokaaGreat
namespace Go.Proofs.YtkdgjfjcpgiokaaGreat
set_option linter.unusedVariables false
set_option linter.unusedSimpArgs false
open Go.RowKit
section
variable {w w' : World} {q : Nat} {E : List Dc} {S : List Seg} {g c : Nat}
/-- what the copying keeps -/
def PRel (E : List Dc) (w : World) (v j : Value) (wr : World) : Prop := ∃ k : Nat, k ≤ E.length ∧ j = .int .i64 (k : Int) ∧ OwnG KL wr w.heap.size v (E.take k) ∧ Below w.heap.size w wr
theorem Rx.set (h : Rx w q (.slice (some ⟨g, 0, none⟩) S.length c) E S) (hb : Below w.heap.size w w') {k : Nat} {d : Dc} {xs : Seg} (hx1 : xs.length ≤ 1024) (hd : ByV w' d xs) {v : Value} (hr : OwnG KL w' 0 v (E.set k d)) (hvq : v.ownBlock ≠ some q) (hdq : ∀ ad, d.a = some ad → ad.block ≠ q) :
    Rx (w'.setCell ⟨q, 0, none⟩ v) q v (E.set k d) (S.set k xs) := by
  have h' := h.below hb
  have hoth : ∀ b, b ≠ q → (w'.setCell ⟨q, 0, none⟩ v).heap[b]? = w'.heap[b]? := fun b hb => heap_setCell_other _ _ _ _ hb
  refine ⟨(heap_setCell_same _ _ _ _ _ _ h'.hp).trans rfl, hr.kept (fun b e => hoth b (fun e2 => hvq (by rw [← e2]; exact e))), by rw [List.length_set, List.length_set]; exact h.len, by rw [List.length_set]; exact h.n0, by rw [List.length_set]; exact h.n1, fun i e ys he hy => ?_⟩
  by_cases hi : k = i
  · subst hi
    rw [List.getElem?_set] at he hy
    simp only [if_true] at he hy
    split at he
    · rename_i hk
      rw [if_pos (by rw [← h.len]; exact hk)] at hy
      cases he
      cases hy
      exact ⟨hd.kept (fun ad ha => hoth _ (hdq ad ha)), hx1⟩
    · cases he
  · rw [List.getElem?_set_ne hi] at he hy
    obtain ⟨h1, h2⟩ := h'.els i e ys he hy
    refine ⟨h1.kept (fun ad ha => hoth _ (fun e2 => ?_)), h2⟩
    obtain ⟨cur, fr, h3⟩ := h1.ty ad ha
    rw [e2] at h3
    exact absurd (ty_of h'.hp h3) (by decide)
theorem footR_set {v v' : Value} {k : Nat} {d : Dc} {b : Nat} (hb : footR q v' (E.set k d) b) : footR q v E b ∨ v'.ownBlock = some b ∨ ∃ ad, d.a = some ad ∧ ad.block = b := by
  rcases hb with hb | hb | ⟨e, he, ad, ha, hb⟩
  · exact .inl (.inl hb)
  · exact .inr (.inl hb)
  · rcases List.mem_or_eq_of_mem_set he with h1 | rfl
    · exact .inl (.inr (.inr ⟨e, h1, ad, ha, hb⟩))
    · exact .inr (.inr ⟨ad, ha, hb⟩)
theorem row_after {wr w4 : World} {B : Nat} {v : Value} {E : List Dc} (h : OwnG KL wr B v E) (hg : (wr.alloc (.cells #[] 5)).grownBy w4 (some wr.heap.size)) : OwnG KL w4 B v E :=
  h.kept (fun b e => (hg.block b (Nat.lt_of_lt_of_le (h.lt' e).2 (by simp)) (fun e2 => by have := (h.lt' e).2; cases e2; omega)).trans (Below.heap_alloc _ _ _ (h.lt' e).2))
theorem OwnG.cell1 {w : World} {B g n c : Nat} {E : List Dc} (h : OwnG KL w B (.slice (some ⟨g, 0, none⟩) n c) E) (hn : n = E.length) {k : Nat} {d : Dc} (hd : E[k]? = some d) : w.cell? ⟨g, k, none⟩ = some d.v := by
  obtain ⟨hk, e⟩ := List.getElem?_eq_some_iff.1 hd
  have h9 := h.cell hn k 0 hk (by decide)
  rw [e] at h9
  simpa using h9
end
end Go.Proofs.YtkdgjfjcpgiokaaGreat
namespace Go.Proofs.YtkdgjfjcpgiokaaGreat
set_option linter.unusedVariables false
set_option linter.unusedSimpArgs false
/-- the document's ranges of the first k -/
def gS (S : List Seg) : Nat → List Rg
  | 0 => []
  | k + 1 => if (S[k]?.getD []).length = 0 then gS S k else mstep (gS S k) ((k : Int), (k : Int) + 1)
theorem gS_mi (S : List Seg) : ∀ k, MI (gS S k) (ones S k)
  | 0 => MI.nil
  | k + 1 => by
    have ih := gS_mi S k
    unfold gS ones
    by_cases h : (S[k]?.getD []).length = 0
    · rw [if_pos h, if_pos h, List.append_nil]
      exact ih
    · rw [if_neg h, if_neg h]
      exact ih.step (fun z hz => by have := ones_mem S k z hz; omega)
theorem mstep_cases (out : List Rg) (k : Int) : (out = [] ∧ mstep out (k, k + 1) = [(k, k + 1)]) ∨ (∃ o y, out = o ++ [y] ∧ mstep out (k, k + 1) = if k ≤ y.2 then o ++ [(y.1, max y.2 (k + 1))] else o ++ [y] ++ [(k, k + 1)]) := by
  rcases List.eq_nil_or_concat out with h | ⟨o, y, h⟩
  · subst h
    refine .inl ⟨rfl, ?_⟩
    unfold mstep
    rw [if_neg (by omega)]
    rfl
  · rw [List.concat_eq_append] at h
    subst h
    refine .inr ⟨o, y, rfl, ?_⟩
    unfold mstep
    rw [if_neg (by simp only; omega)]
    simp
theorem gS_le (S : List Seg) : ∀ k, ∀ y ∈ gS S k, y.2 ≤ (k : Int)
  | 0, y, h => by cases h
  | k + 1, y, h => by
    have ih := gS_le S k
    unfold gS at h
    by_cases h0 : (S[k]?.getD []).length = 0
    · rw [if_pos h0] at h
      have := ih y h
      omega
    · rw [if_neg h0] at h
      rcases mstep_cases (gS S k) (k : Int) with ⟨-, e⟩ | ⟨o, z, e1, e⟩
      · rw [e] at h
        simp at h
        subst h
        simp
      · have hz := ih z (by rw [e1]; simp)
        rw [e] at h
        split at h
        · rcases List.mem_append.1 h with h1 | h1
          · have := ih y (by rw [e1]; simp [h1])
            omega
          · simp at h1
            subst h1
            simp only
            omega
        · rcases List.mem_append.1 h with h1 | h1
          · have := ih y (by rw [e1]; exact h1)
            omega
          · simp at h1
            subst h1
            simp
theorem gS_empty (S : List Seg) (k : Nat) (h : (S[k]?.getD []).length = 0) : gS S (k + 1) = gS S k := if_pos h
theorem gS_last (S : List Seg) (k : Nat) (h : (S[k]?.getD []).length ≠ 0) : ∃ o a, gS S (k + 1) = o ++ [(a, (k : Int) + 1)] := by
  unfold gS
  rw [if_neg h]
  rcases mstep_cases (gS S k) (k : Int) with ⟨-, e⟩ | ⟨o, z, e1, e⟩
  · exact ⟨[], k, by rw [e]; rfl⟩
  · have hz := gS_le S k z (by rw [e1]; simp)
    rw [e]
    split
    · exact ⟨o, z.1, by rw [show max z.2 ((k : Int) + 1) = (k : Int) + 1 by omega]⟩
    · exact ⟨_, _, rfl⟩
theorem gS_grow (S : List Seg) (k : Nat) (o : List Rg) (a : Int) (h : (S[k]?.getD []).length ≠ 0) (e : gS S k = o ++ [(a, (k : Int))]) : gS S (k + 1) = o ++ [(a, (k : Int) + 1)] := by
  unfold gS
  rw [if_neg h, e]
  unfold mstep
  rw [if_neg (by simp only; omega)]
  simp
  omega
theorem gS_push (S : List Seg) (k : Nat) (h : (S[k]?.getD []).length ≠ 0) (hl : k = 0 ∨ ∃ j, k = j + 1 ∧ (S[j]?.getD []).length = 0) : gS S (k + 1) = gS S k ++ [((k : Int), (k : Int) + 1)] := by
  have hlt : ∀ y ∈ gS S k, y.2 < (k : Int) := fun y hy => by
    rcases hl with rfl | ⟨j, rfl, hj⟩
    · cases hy
    · rw [gS_empty S j hj] at hy
      have := gS_le S j y hy
      push_cast
      omega
  rcases mstep_cases (gS S k) (k : Int) with ⟨e1, e⟩ | ⟨o, z, e1, e⟩
  · conv => lhs; unfold gS
    rw [if_neg h, e, e1]
    rfl
  · have hz := hlt z (by rw [e1]; simp)
    conv => lhs; unfold gS
    rw [if_neg h, e, if_neg (by omega), e1]
theorem gS_len (S : List Seg) : ∀ k, (gS S k).length ≤ k
  | 0 => Nat.le_refl _
  | k + 1 => by
    have ih := gS_len S k
    unfold gS
    split
    · omega
    · rcases mstep_cases (gS S k) (k : Int) with ⟨e1, e⟩ | ⟨o, z, e1, e⟩
      · rw [e]; simp
      · rw [e1] at ih
        rw [e]
        split <;> simp at ih ⊢ <;> omega
theorem gS_got (S : List Seg) : GotIs (gS S S.length) (some S) := ⟨(gS_mi S S.length).lst, (gS_mi S S.length).has⟩
end Go.Proofs.YtkdgjfjcpgiokaaGreat
