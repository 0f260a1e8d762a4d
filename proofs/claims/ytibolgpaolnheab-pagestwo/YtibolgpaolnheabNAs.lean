import Derived.Test.YtibolgpaolnheabNT
import Derived.Test.YtibolgpaolnheabNXq
namespace Go.Proofs.Ytibolgpaolnheab
set_option linter.unusedVariables false
set_option linter.unusedSimpArgs false
open Go.RowKit Go.Shelf
/-- along's ranging: the boxes of the row (H + 1), of the most (H + 2) and of the count (C) -/
structure Alg (w z V : World) (H C m : Nat) (Z : BlkS) (pre : List Ent) (vl : Value) : Prop where
  bel : Below H w V
  l : V.heap[H + 1]? = some (.cells #[vl] tUs (0, 0))
  o : OwnU V z.heap.size vl (nmE pre)
  c : V.heap[C]? = some (.cells #[.int .i64 (pre.length : Int)] 3 (0, 0))
  mo : V.heap[H + 1 + 1]? = some (.cells #[.int .i64 (m : Int)] 3 (0, 0))
  zl : ¬ Z (H + 1)
  zc : ¬ Z C
  zr : ∀ b, vl.ownBlock = some b → ¬ Z b
  zb : ∀ k, Z k → k < V.heap.size
  sz : z.heap.size ≤ V.heap.size
variable {w z V V' : World} {H C m : Nat} {Z : BlkS} {pre : List Ent} {vl : Value}
theorem Alg.grow {row : Option Nat} (h : Alg w z V H C m Z pre vl) (hH : H ≤ z.heap.size) (hg : V.grownBy V' row) (hr : ∀ r, row = some r → z.heap.size ≤ r ∧ ∃ o : Obj, V.heap[r]? = some o ∧ o.isCells = false) : Alg w z V' H C m (fun j => Z j ∨ (V.heap.size ≤ j ∧ j < V'.heap.size)) pre vl := by
  have kp : ∀ {k : Nat} {cs : Array Value} {t : TypeId} {fr : Nat × Nat}, V.heap[k]? = some (.cells cs t fr) → V'.heap[k]? = some (.cells cs t fr) := fun hk => heap_kept hk hg (fun r e => (hr r e).2)
  have lt : ∀ {k : Nat} {o : Obj}, V.heap[k]? = some o → k < V.heap.size := fun hk => (Array.getElem?_eq_some_iff.1 hk).1
  refine ⟨h.bel.grown hg (Nat.le_trans hH h.sz) (fun r e => Nat.le_trans hH (hr r e).1), kp h.l, row_kept h.o (fun b hb => ?_), kp h.c, kp h.mo, ?_, ?_, ?_, ?_, Nat.le_trans h.sz hg.size⟩
  · obtain ⟨cur, h9⟩ := rowX_blk h.o b hb
    rw [kp h9, h9]
  · rintro (hz | ⟨hz, -⟩)
    · exact h.zl hz
    · have := lt h.l; omega
  · rintro (hz | ⟨hz, -⟩)
    · exact h.zc hz
    · have := lt h.c; omega
  · intro b hb
    rintro (hz | ⟨hz, -⟩)
    · exact h.zr b hb hz
    · obtain ⟨cur, h9⟩ := rowX_blk h.o b hb
      have := lt h9; omega
  · rintro k (hz | ⟨-, hz⟩)
    · exact Nat.lt_of_lt_of_le (h.zb k hz) hg.size
    · exact hz
theorem Alg.less {Z' : BlkS} (h : Alg w z V H C m Z pre vl) (hz : ∀ j, Z' j → Z j) : Alg w z V H C m Z' pre vl :=
  ⟨h.bel, h.l, h.o, h.c, h.mo, fun h9 => h.zl (hz _ h9), fun h9 => h.zc (hz _ h9), fun b hb h9 => h.zr b hb (hz _ h9), fun k hk => h.zb k (hz k hk), h.sz⟩
/-- a round -/
theorem Alg.step (h : Alg w z V H C m Z pre vl) (hH : H ≤ z.heap.size) (hHC : H + 3 ≤ C) (x : Ent) (V2 : World) (v2 : Value) (hg : V.grownBy V2 vl.ownBlock) (ho : OwnU V2 z.heap.size v2 (nmE pre ++ [x.st.1, x.st.2, x.n])) (hb : ∀ b, v2.ownBlock = some b → vl.ownBlock = some b ∨ V.heap.size ≤ b) (hCz : C < z.heap.size)
    (u : World) (hu : u = (V2.setCell ⟨H + 1, 0, none⟩ v2).setCell ⟨C, 0, none⟩ (.int .i64 ((pre.length : Int) + 1))) : KeepsFrom z.heap.size V u ∧ KeepZ Z V u ∧ Alg w z u H C m Z (pre ++ [x]) v2 := by
  have hro : ∀ b, vl.ownBlock = some b → z.heap.size ≤ b := fun b hb => (World.ownsRow.lt h.o b hb).1
  have k1 : KeepsOthers V u := by
    rw [hu]
    refine ((KeepsOthers.of_grownBy hg (fun j o e hj => ?_)).trans (KeepsOthers.setCell _ _ _)).trans (KeepsOthers.setCell _ _ _)
    obtain ⟨cur, h9⟩ := rowX_blk h.o j e
    rw [h9] at hj; cases hj; rfl
  have hh2 : ∀ k, k < V.heap.size → vl.ownBlock ≠ some k → V2.heap[k]? = V.heap[k]? := fun k hk hn => hg.block k hk (fun e => hn e.symm)
  have l2 : V2.heap[H + 1]? = some (.cells #[vl] tUs (0, 0)) := (hh2 _ (Array.getElem?_eq_some_iff.1 h.l).1 (fun e => by have := hro _ e; omega)).trans h.l
  have c2 : V2.heap[C]? = some (.cells #[.int .i64 (pre.length : Int)] 3 (0, 0)) := (hh2 _ (Array.getElem?_eq_some_iff.1 h.c).1 (fun e => by have := hro _ e; omega)).trans h.c
  have m2 : V2.heap[H + 1 + 1]? = some (.cells #[.int .i64 (m : Int)] 3 (0, 0)) := (hh2 _ (Array.getElem?_eq_some_iff.1 h.mo).1 (fun e => by have := hro _ e; omega)).trans h.mo
  have hoth : ∀ k, k ≠ H + 1 → k ≠ C → u.heap[k]? = V2.heap[k]? := fun k h1 h2 => by
    rw [hu, heap_setCell_other _ _ _ _ (by simpa using h2), heap_setCell_other _ _ _ _ (by simpa using h1)]
  have hsz : u.heap.size = V2.heap.size := by rw [hu]; simp
  refine ⟨k1.from _, fun k hk => ?_, ?_⟩
  · rw [hoth k (fun e => h.zl (e ▸ hk)) (fun e => h.zc (e ▸ hk))]
    exact hh2 k (h.zb k hk) (fun e => h.zr k e hk)
  · refine ⟨?_, ?_, ?_, ?_, ?_, h.zl, h.zc, fun b hb2 hz => ?_, fun k hk => ?_, ?_⟩
    · rw [hu]
      exact ((h.bel.grown hg (Nat.le_trans hH h.sz) (fun r e => by have := hro r e; omega)).setCell (p := ⟨H + 1, 0, none⟩) (by simp) _).setCell (p := ⟨C, 0, none⟩) (by simp; omega) _
    · rw [hu, heap_setCell_other _ _ _ _ (by simp; omega), heap_setCell_same V2 (H + 1) 0 _ _ _ l2]; rfl
    · rw [nmE_snoc]
      exact row_kept ho (fun b hb2 => hoth b (fun e => by have := (World.ownsRow.lt ho b hb2).1; omega) (fun e => by have := (World.ownsRow.lt ho b hb2).1; omega))
    · have c3 : (V2.setCell ⟨H + 1, 0, none⟩ v2).heap[C]? = some (.cells #[.int .i64 (pre.length : Int)] 3 (0, 0)) := (heap_setCell_other _ _ _ _ (by simp; omega)).trans c2
      rw [hu, heap_setCell_same _ C 0 _ _ _ c3, List.length_append, show ((pre.length + [x].length : Nat) : Int) = (pre.length : Int) + 1 by simp]; rfl
    · rw [hoth _ (by omega) (by omega)]; exact m2
    · rcases hb b hb2 with h9 | h9
      · exact h.zr b h9 hz
      · have := h.zb b hz; omega
    · have := h.zb k hk; have := hg.size; omega
    · have := h.sz; have := hg.size; omega
end Go.Proofs.Ytibolgpaolnheab
