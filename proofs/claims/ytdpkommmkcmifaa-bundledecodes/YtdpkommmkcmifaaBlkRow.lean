import Derived.Test.YtdpkommmkcmifaaRdBl
import Derived.Deep.AppendLies
namespace Go.Proofs.Ytdpkommmkcmifaa
set_option linter.unusedVariables false
set_option linter.unusedSimpArgs false
open Go.RowKit
theorem infoBB : (Try.prog.info? 37).map (fun i => (i.zero, i.size, i.bytes)) = some (some (.agg #[.int .u64 0, .int .u64 0, .int .u64 0, .slice none 0 0]), 4, 48) := by kernel_rfl
/-- a row of blocks of the call's own, from block B on; so their data -/
def RowB (w : World) (B : Nat) (v : Value) (l : List Blk) : Prop :=
  ∃ cells : List Value, w.ownsRow B 37 4 v l.length cells ∧ ∀ j (hj : j < l.length), ∃ a c, cells[j * 4]? = some (.int .u64 l[j].t) ∧ cells[j * 4 + 1]? = some (.int .u64 l[j].n) ∧ cells[j * 4 + 2]? = some (.int .u64 l[j].f) ∧ cells[j * 4 + 3]? = some (.slice a l[j].d.length c) ∧ Own w B (.slice a l[j].d.length c) l[j].d ∧ ((Value.slice a l[j].d.length c).ownBlock = none ∨ (Value.slice a l[j].d.length c).ownBlock ≠ v.ownBlock)
theorem RowB.nil (w : World) (B : Nat) : RowB w B (.slice none 0 0) [] := ⟨[], World.ownsRow_nil _ _ _ _, fun j hj => by cases hj⟩
theorem RowB.grown {w w' : World} {B r : Nat} {v : Value} {l : List Blk} (h : RowB w B v l) (hg : w.grownBy w' (some r)) (hr : r < B) : RowB w' B v l := by
  obtain ⟨cells, h1, h2⟩ := h
  refine ⟨cells, World.ownsRow.kept h1 hg ?_, fun j hj => ?_⟩
  · have hlt := World.ownsRow.lt h1
    cases e : v.ownBlock with
    | none => left; rfl
    | some q => right; have := (hlt q e).1; simp; omega
  · obtain ⟨a, c, k0, k1, k2, k3, k4, k5⟩ := h2 j hj
    refine ⟨a, c, k0, k1, k2, k3, k4.grown hg ?_, k5⟩
    have hlt := World.ownsRow.lt k4
    cases e : (Value.slice a l[j].d.length c).ownBlock with
    | none => left; rfl
    | some q => right; have := (hlt q e).1; simp; omega
theorem RowB.below {w w' : World} {B : Nat} {v : Value} {l : List Blk} (h : RowB w B v l) (hb : Below w.heap.size w w') : RowB w' B v l := by
  obtain ⟨cells, h1, h2⟩ := h
  refine ⟨cells, World.ownsRow.kept h1 (gr_below (World.grownBy.refl w none) hb) ?_, fun j hj => ?_⟩
  · cases e : v.ownBlock with
    | none => left; rfl
    | some q => right; simp
  · obtain ⟨a, c, k0, k1, k2, k3, k4, k5⟩ := h2 j hj
    exact ⟨a, c, k0, k1, k2, k3, k4.below hb, k5⟩
theorem RowB.rd {w : World} {B n c : Nat} {a : Option Addr} {l : List Blk} (h : RowB w B (.slice a n c) l) : RdBlks w a l ∧ l.length ≤ c ∧ (a = none → c = 0) ∧ (∀ q, a = some q → B ≤ q.block ∧ q.block < w.heap.size) := by
  obtain ⟨cells, h1, h2⟩ := h
  have hlt := World.ownsRow.lt h1
  rcases h1.2 with ⟨e, h0⟩ | ⟨g, cap, cur, e, hB, hg, hn, hm, hs, ht⟩
  · simp only [Value.slice.injEq] at e
    obtain ⟨rfl, -, rfl⟩ := e
    exact ⟨fun hp => by omega, by omega, fun _ => rfl, fun q hq => by cases hq⟩
  · simp only [Value.slice.injEq] at e
    obtain ⟨rfl, -, rfl⟩ := e
    refine ⟨fun _ => ⟨g, 0, rfl, fun j hj => ?_⟩, hn, (fun e => by cases e), fun q hq => by cases hq; exact ⟨hB, (hlt g rfl).2⟩⟩
    obtain ⟨a, c, k0, k1, k2, k3, k4, k5⟩ := h2 j hj
    obtain ⟨aq, cq, hv, hlc, -, hnn, hrd, -⟩ := k4.val
    simp only [Value.slice.injEq, true_and] at hv
    obtain ⟨rfl, rfl⟩ := hv
    have hcell : ∀ i u, i < l.length * 4 → cells[i]? = some u → w.cell? ⟨g, i, none⟩ = some u := by
      intro i u hi hu
      rw [cell_of_row w g i _ _ _ hg, ← Array.getElem?_toList, ← List.getElem?_take_of_lt hi, ht]
      exact hu
    rw [Nat.zero_add]
    exact ⟨a, c, hcell _ _ (by omega) k0, hcell _ _ (by omega) k1, hcell _ _ (by omega) k2, hcell _ _ (by omega) k3, hrd, hlc, hnn⟩
/-- append(v, x), at an operation -/
theorem wpo_appB {w : World} {o : Oper} {a : Act} {K : Act → World → Prop} {Q : Exit → Act → World → Prop} (s x : Operand)
    (ho : o.op = .call { callee := .builtin .append, args := #[s, x], argTypes := #[32, 32] }) (B : Nat) (v : Value) (l : List Blk) (b : Blk) (da : Option Addr) (dc g : Nat)
    (hs : a.eval s = v) (hrow : RowB w B v l) (hx : a.eval x = .slice (some ⟨g, 0, none⟩) 1 1) (hg : w.heap[g]? = some (.cells #[.int .u64 b.t, .int .u64 b.n, .int .u64 b.f, .slice da b.d.length dc] 37 (0, 0)))
    (hd : Own w B (.slice da b.d.length dc) b.d) (hne : (Value.slice da b.d.length dc).ownBlock = none ∨ (Value.slice da b.d.length dc).ownBlock ≠ v.ownBlock)
    (hb : l.length ≤ 1000) (hbase : B ≤ w.heap.size)
    (h : ∀ g' cap w', RowB w' B (.slice (some ⟨g', 0, none⟩) (l.length + 1) cap) (l ++ [b]) → w.grownBy w' v.ownBlock → (v.ownBlock = some g' ∨ g' = w.heap.size) → K (a.put o.dst (.slice (some ⟨g', 0, none⟩) (l.length + 1) cap)) w') : Oper.wp Try.prog o a w K Q := by
  obtain ⟨i0, hi, hz0, hz1, hz2⟩ := info_parts infoBB
  obtain ⟨cells, h1, h2⟩ := hrow
  refine wp_append_lies w s x 32 ho B 37 i0 _ 4 48 Try.underlying32 hi hz0 hz1 hz2 rfl (by decide) v l.length cells hs h1 ⟨g, 0, none⟩ 1 1 _ hx rfl (World.news_of_block hg) (by intro u hu; simp at hu; rcases hu with rfl | rfl | rfl | rfl <;> rfl) (by decide) (by simp only [maxLen]; omega) (by omega) hbase w.heap.size rfl ?_
  intro g' cap w' hown hgr hwh hlt
  refine h g' cap w' ⟨_, by rw [List.length_append]; exact hown, fun j hj => ?_⟩ hgr hwh
  have hcl : cells.length = l.length * 4 := h1.1
  have hold : ∀ (a' : Option Addr) (n' c' : Nat) (d : List UInt8), Own w B (.slice a' n' c') d → ((Value.slice a' n' c').ownBlock = none ∨ (Value.slice a' n' c').ownBlock ≠ v.ownBlock) → Own w' B (.slice a' n' c') d ∧ ((Value.slice a' n' c').ownBlock = none ∨ (Value.slice a' n' c').ownBlock ≠ (Value.slice (some ⟨g', 0, none⟩) (l.length + 1) cap).ownBlock) := by
    intro a' n' c' d k4 k5
    refine ⟨k4.grown hgr k5, ?_⟩
    rcases k5 with k5 | k5
    · exact .inl k5
    · rcases hwh with e | e
      · right
        rw [e] at k5
        exact k5
      · subst e
        have hq := World.ownsRow.lt k4
        cases e : (Value.slice a' n' c').ownBlock with
        | none => left; rfl
        | some q =>
          right
          have := (hq q e).2
          simp [Value.ownBlock]
          omega
  by_cases hjl : j < l.length
  · obtain ⟨a', c', k0, k1, k2, k3, k4, k5⟩ := h2 j hjl
    have e : (l ++ [b])[j] = l[j] := List.getElem_append_left hjl
    rw [e]
    obtain ⟨m4, m5⟩ := hold _ _ _ _ k4 k5
    refine ⟨a', c', ?_, ?_, ?_, ?_, m4, m5⟩
    · rw [List.getElem?_append_left (by omega)]; exact k0
    · rw [List.getElem?_append_left (by omega)]; exact k1
    · rw [List.getElem?_append_left (by omega)]; exact k2
    · rw [List.getElem?_append_left (by omega)]; exact k3
  · have hj' : j = l.length := by simp at hj; omega
    subst hj'
    have e : (l ++ [b])[l.length] = b := by simp
    rw [e]
    obtain ⟨m4, m5⟩ := hold _ _ _ _ hd hne
    refine ⟨da, dc, ?_, ?_, ?_, ?_, m4, m5⟩
    · rw [List.getElem?_append_right (by omega), show l.length * 4 - cells.length = 0 by omega]; rfl
    · rw [List.getElem?_append_right (by omega), show l.length * 4 + 1 - cells.length = 1 by omega]; rfl
    · rw [List.getElem?_append_right (by omega), show l.length * 4 + 2 - cells.length = 2 by omega]; rfl
    · rw [List.getElem?_append_right (by omega), show l.length * 4 + 3 - cells.length = 3 by omega]; rfl
theorem infoBD : (Try.prog.info? 40).map (fun i => (i.zero, i.size, i.bytes)) = some (some (.agg #[.int .u64 0, .int .u64 0, .int .u64 0, .slice none 0 0]), 4, 48) := by kernel_rfl
/-- a row of blocks of the call's own, from block B on; so their data -/
def RowD (w : World) (B : Nat) (v : Value) (l : List Blk) : Prop :=
  ∃ cells : List Value, w.ownsRow B 40 4 v l.length cells ∧ ∀ j (hj : j < l.length), ∃ a c, cells[j * 4]? = some (.int .u64 l[j].t) ∧ cells[j * 4 + 1]? = some (.int .u64 l[j].n) ∧ cells[j * 4 + 2]? = some (.int .u64 l[j].f) ∧ cells[j * 4 + 3]? = some (.slice a l[j].d.length c) ∧ Own w B (.slice a l[j].d.length c) l[j].d ∧ ((Value.slice a l[j].d.length c).ownBlock = none ∨ (Value.slice a l[j].d.length c).ownBlock ≠ v.ownBlock)
theorem RowD.nil (w : World) (B : Nat) : RowD w B (.slice none 0 0) [] := ⟨[], World.ownsRow_nil _ _ _ _, fun j hj => by cases hj⟩
theorem RowD.grown {w w' : World} {B r : Nat} {v : Value} {l : List Blk} (h : RowD w B v l) (hg : w.grownBy w' (some r)) (hr : r < B) : RowD w' B v l := by
  obtain ⟨cells, h1, h2⟩ := h
  refine ⟨cells, World.ownsRow.kept h1 hg ?_, fun j hj => ?_⟩
  · have hlt := World.ownsRow.lt h1
    cases e : v.ownBlock with
    | none => left; rfl
    | some q => right; have := (hlt q e).1; simp; omega
  · obtain ⟨a, c, k0, k1, k2, k3, k4, k5⟩ := h2 j hj
    refine ⟨a, c, k0, k1, k2, k3, k4.grown hg ?_, k5⟩
    have hlt := World.ownsRow.lt k4
    cases e : (Value.slice a l[j].d.length c).ownBlock with
    | none => left; rfl
    | some q => right; have := (hlt q e).1; simp; omega
theorem RowD.below {w w' : World} {B : Nat} {v : Value} {l : List Blk} (h : RowD w B v l) (hb : Below w.heap.size w w') : RowD w' B v l := by
  obtain ⟨cells, h1, h2⟩ := h
  refine ⟨cells, World.ownsRow.kept h1 (gr_below (World.grownBy.refl w none) hb) ?_, fun j hj => ?_⟩
  · cases e : v.ownBlock with
    | none => left; rfl
    | some q => right; simp
  · obtain ⟨a, c, k0, k1, k2, k3, k4, k5⟩ := h2 j hj
    exact ⟨a, c, k0, k1, k2, k3, k4.below hb, k5⟩
theorem RowD.rd {w : World} {B n c : Nat} {a : Option Addr} {l : List Blk} (h : RowD w B (.slice a n c) l) : RdBlks w a l ∧ l.length ≤ c ∧ (a = none → c = 0) ∧ (∀ q, a = some q → B ≤ q.block ∧ q.block < w.heap.size) := by
  obtain ⟨cells, h1, h2⟩ := h
  have hlt := World.ownsRow.lt h1
  rcases h1.2 with ⟨e, h0⟩ | ⟨g, cap, cur, e, hB, hg, hn, hm, hs, ht⟩
  · simp only [Value.slice.injEq] at e
    obtain ⟨rfl, -, rfl⟩ := e
    exact ⟨fun hp => by omega, by omega, fun _ => rfl, fun q hq => by cases hq⟩
  · simp only [Value.slice.injEq] at e
    obtain ⟨rfl, -, rfl⟩ := e
    refine ⟨fun _ => ⟨g, 0, rfl, fun j hj => ?_⟩, hn, (fun e => by cases e), fun q hq => by cases hq; exact ⟨hB, (hlt g rfl).2⟩⟩
    obtain ⟨a, c, k0, k1, k2, k3, k4, k5⟩ := h2 j hj
    obtain ⟨aq, cq, hv, hlc, -, hnn, hrd, -⟩ := k4.val
    simp only [Value.slice.injEq, true_and] at hv
    obtain ⟨rfl, rfl⟩ := hv
    have hcell : ∀ i u, i < l.length * 4 → cells[i]? = some u → w.cell? ⟨g, i, none⟩ = some u := by
      intro i u hi hu
      rw [cell_of_row w g i _ _ _ hg, ← Array.getElem?_toList, ← List.getElem?_take_of_lt hi, ht]
      exact hu
    rw [Nat.zero_add]
    exact ⟨a, c, hcell _ _ (by omega) k0, hcell _ _ (by omega) k1, hcell _ _ (by omega) k2, hcell _ _ (by omega) k3, hrd, hlc, hnn⟩
/-- append(v, x), at an operation -/
theorem wpo_appD {w : World} {o : Oper} {a : Act} {K : Act → World → Prop} {Q : Exit → Act → World → Prop} (s x : Operand)
    (ho : o.op = .call { callee := .builtin .append, args := #[s, x], argTypes := #[26, 26] }) (B : Nat) (v : Value) (l : List Blk) (b : Blk) (da : Option Addr) (dc g : Nat)
    (hs : a.eval s = v) (hrow : RowD w B v l) (hx : a.eval x = .slice (some ⟨g, 0, none⟩) 1 1) (hg : w.heap[g]? = some (.cells #[.int .u64 b.t, .int .u64 b.n, .int .u64 b.f, .slice da b.d.length dc] 40 (0, 0)))
    (hd : Own w B (.slice da b.d.length dc) b.d) (hne : (Value.slice da b.d.length dc).ownBlock = none ∨ (Value.slice da b.d.length dc).ownBlock ≠ v.ownBlock)
    (hb : l.length ≤ 1000) (hbase : B ≤ w.heap.size)
    (h : ∀ g' cap w', RowD w' B (.slice (some ⟨g', 0, none⟩) (l.length + 1) cap) (l ++ [b]) → w.grownBy w' v.ownBlock → (v.ownBlock = some g' ∨ g' = w.heap.size) → K (a.put o.dst (.slice (some ⟨g', 0, none⟩) (l.length + 1) cap)) w') : Oper.wp Try.prog o a w K Q := by
  obtain ⟨i0, hi, hz0, hz1, hz2⟩ := info_parts infoBD
  obtain ⟨cells, h1, h2⟩ := hrow
  refine wp_append_lies w s x 26 ho B 40 i0 _ 4 48 Try.underlying26 hi hz0 hz1 hz2 rfl (by decide) v l.length cells hs h1 ⟨g, 0, none⟩ 1 1 _ hx rfl (World.news_of_block hg) (by intro u hu; simp at hu; rcases hu with rfl | rfl | rfl | rfl <;> rfl) (by decide) (by simp only [maxLen]; omega) (by omega) hbase w.heap.size rfl ?_
  intro g' cap w' hown hgr hwh hlt
  refine h g' cap w' ⟨_, by rw [List.length_append]; exact hown, fun j hj => ?_⟩ hgr hwh
  have hcl : cells.length = l.length * 4 := h1.1
  have hold : ∀ (a' : Option Addr) (n' c' : Nat) (d : List UInt8), Own w B (.slice a' n' c') d → ((Value.slice a' n' c').ownBlock = none ∨ (Value.slice a' n' c').ownBlock ≠ v.ownBlock) → Own w' B (.slice a' n' c') d ∧ ((Value.slice a' n' c').ownBlock = none ∨ (Value.slice a' n' c').ownBlock ≠ (Value.slice (some ⟨g', 0, none⟩) (l.length + 1) cap).ownBlock) := by
    intro a' n' c' d k4 k5
    refine ⟨k4.grown hgr k5, ?_⟩
    rcases k5 with k5 | k5
    · exact .inl k5
    · rcases hwh with e | e
      · right
        rw [e] at k5
        exact k5
      · subst e
        have hq := World.ownsRow.lt k4
        cases e : (Value.slice a' n' c').ownBlock with
        | none => left; rfl
        | some q =>
          right
          have := (hq q e).2
          simp [Value.ownBlock]
          omega
  by_cases hjl : j < l.length
  · obtain ⟨a', c', k0, k1, k2, k3, k4, k5⟩ := h2 j hjl
    have e : (l ++ [b])[j] = l[j] := List.getElem_append_left hjl
    rw [e]
    obtain ⟨m4, m5⟩ := hold _ _ _ _ k4 k5
    refine ⟨a', c', ?_, ?_, ?_, ?_, m4, m5⟩
    · rw [List.getElem?_append_left (by omega)]; exact k0
    · rw [List.getElem?_append_left (by omega)]; exact k1
    · rw [List.getElem?_append_left (by omega)]; exact k2
    · rw [List.getElem?_append_left (by omega)]; exact k3
  · have hj' : j = l.length := by simp at hj; omega
    subst hj'
    have e : (l ++ [b])[l.length] = b := by simp
    rw [e]
    obtain ⟨m4, m5⟩ := hold _ _ _ _ hd hne
    refine ⟨da, dc, ?_, ?_, ?_, ?_, m4, m5⟩
    · rw [List.getElem?_append_right (by omega), show l.length * 4 - cells.length = 0 by omega]; rfl
    · rw [List.getElem?_append_right (by omega), show l.length * 4 + 1 - cells.length = 1 by omega]; rfl
    · rw [List.getElem?_append_right (by omega), show l.length * 4 + 2 - cells.length = 2 by omega]; rfl
    · rw [List.getElem?_append_right (by omega), show l.length * 4 + 3 - cells.length = 3 by omega]; rfl
end Go.Proofs.Ytdpkommmkcmifaa
