import Derived.Test.YtdpkommmkcmifaaNumb
import Derived.Test.YtdpkommmkcmifaaRdr3
import Derived.Laws.Rows
import Derived.Laws.ResultCell
namespace Go.Proofs.Ytdpkommmkcmifaa
set_option linter.unusedVariables false
set_option linter.unusedSimpArgs false
open Go.RowKit
theorem box_cell {w : World} {g : Nat} {L : List Value} {t : TypeId} (h : w.heap[g]? = some (.cells L.toArray t (0, 0))) (i : Nat) (v : Value) (hi : L[i]? = some v) : w.cell? ⟨g, i, none⟩ = some v := by
  rw [cell_of_row w g i _ t _ h]; simpa using hi
theorem box_froz {w : World} {g : Nat} {L : List Value} {t : TypeId} (h : w.heap[g]? = some (.cells L.toArray t (0, 0))) (i : Nat) : w.frozen? ⟨g, i, none⟩ = false := frozen_of_row w g i _ t h
theorem box_on {w w' : World} {g : Nat} {c : Obj} (h : w.heap[g]? = some c) (hb : Below w.heap.size w w') : w'.heap[g]? = some c := (hb.block g (Array.getElem?_eq_some_iff.1 h).1).trans h
/-- a block whose data have marks behind them -/
def BlkG (w : World) (b o : Nat) (x : Blk) : Prop :=
  ∃ g, b < g ∧ w.cell? ⟨b, o, none⟩ = some (.int .u64 x.t) ∧ w.cell? ⟨b, o + 1, none⟩ = some (.int .u64 x.n) ∧ w.cell? ⟨b, o + 2, none⟩ = some (.int .u64 x.f) ∧ w.cell? ⟨b, o + 3, none⟩ = some (.slice (some ⟨g, 0, none⟩) x.d.length (x.d.length + 4)) ∧ Rd w (some ⟨g, 0, none⟩) (x.d ++ m4)
/-- a bundle as it is handed in -/
structure GivR (w : World) (b : Bun) (ba pa : Nat) : Prop where
  rp : Rd w (some ⟨pa, 0, none⟩) (b.py ++ m4)
  bl : ∀ j (h : j < b.bl.length), BlkG w ba (j * 4) b.bl[j]
  m77 : w.cell? ⟨ba, b.bl.length * 4 + 2, none⟩ = some (.int .u64 77)
  m78 : w.cell? ⟨ba, (b.bl.length + 1) * 4 + 2, none⟩ = some (.int .u64 78)
  ok : b.ok
theorem BlkG.below {w w' : World} {b o : Nat} {x : Blk} (h : BlkG w b o x) (hb : Below w.heap.size w w') : BlkG w' b o x := by
  obtain ⟨g, hg, h0, h1, h2, h3, h4⟩ := h
  exact ⟨g, hg, cell_on hb h0, cell_on hb h1, cell_on hb h2, cell_on hb h3, h4.below hb⟩
theorem GivR.below {w w' : World} {b : Bun} {ba pa : Nat} (h : GivR w b ba pa) (hb : Below w.heap.size w w') : GivR w' b ba pa :=
  ⟨h.rp.below hb, fun j hj => (h.bl j hj).below hb, cell_on hb h.m77, cell_on hb h.m78, h.ok⟩
theorem rd_m4 {w : World} {g : Nat} {xs : List UInt8} (h : Rd w (some ⟨g, 0, none⟩) (xs ++ m4)) : Rd w (some ⟨g, 0, none⟩) xs := by
  have := h.take xs.length
  rwa [List.take_left' rfl] at this
theorem GivR.toR {w : World} {b : Bun} {ba pa : Nat} (h : GivR w b ba pa) : BunR w b (some ⟨ba, 0, none⟩) (b.bl.length + 2) (some ⟨pa, 0, none⟩) (b.py.length + 4) :=
  ⟨fun _ => ⟨ba, 0, rfl, fun j hj => by
      obtain ⟨g, -, h0, h1, h2, h3, h4⟩ := h.bl j hj
      rw [Nat.zero_add]
      exact ⟨_, _, h0, h1, h2, h3, rd_m4 h4, by omega, fun e => by cases e⟩⟩, by omega, fun e => (by cases e), rd_m4 h.rp, by omega, fun e => (by cases e), h.ok⟩
theorem box12 {W : World} {g : Nat} {t : TypeId} {v0 v1 v2 v3 v4 v5 v6 v7 v8 v9 v10 v11 : Value} (h : W.heap[g]? = some (.cells #[v0, v1, v2, v3, v4, v5, v6, v7, v8, v9, v10, v11] t (0, 0))) : (∀ u, Below W.heap.size W u → u.cell? ⟨g, 0, none⟩ = some v0) ∧ (∀ u, Below W.heap.size W u → u.cell? ⟨g, 1, none⟩ = some v1) ∧ (∀ u, Below W.heap.size W u → u.cell? ⟨g, 2, none⟩ = some v2) ∧ (∀ u, Below W.heap.size W u → u.cell? ⟨g, 3, none⟩ = some v3) ∧ (∀ u, Below W.heap.size W u → u.cell? ⟨g, 4, none⟩ = some v4) ∧ (∀ u, Below W.heap.size W u → u.cell? ⟨g, 5, none⟩ = some v5) ∧ (∀ u, Below W.heap.size W u → u.cell? ⟨g, 6, none⟩ = some v6) ∧ (∀ u, Below W.heap.size W u → u.cell? ⟨g, 7, none⟩ = some v7) ∧ (∀ u, Below W.heap.size W u → u.cell? ⟨g, 8, none⟩ = some v8) ∧ (∀ u, Below W.heap.size W u → u.cell? ⟨g, 9, none⟩ = some v9) ∧ (∀ u, Below W.heap.size W u → u.cell? ⟨g, 10, none⟩ = some v10) ∧ (∀ u, Below W.heap.size W u → u.cell? ⟨g, 11, none⟩ = some v11) :=
  ⟨fun u hu => by rw [cell_of_row u g 0 _ t _ (box_on h hu)]; rfl, fun u hu => by rw [cell_of_row u g 1 _ t _ (box_on h hu)]; rfl, fun u hu => by rw [cell_of_row u g 2 _ t _ (box_on h hu)]; rfl, fun u hu => by rw [cell_of_row u g 3 _ t _ (box_on h hu)]; rfl, fun u hu => by rw [cell_of_row u g 4 _ t _ (box_on h hu)]; rfl, fun u hu => by rw [cell_of_row u g 5 _ t _ (box_on h hu)]; rfl, fun u hu => by rw [cell_of_row u g 6 _ t _ (box_on h hu)]; rfl, fun u hu => by rw [cell_of_row u g 7 _ t _ (box_on h hu)]; rfl, fun u hu => by rw [cell_of_row u g 8 _ t _ (box_on h hu)]; rfl, fun u hu => by rw [cell_of_row u g 9 _ t _ (box_on h hu)]; rfl, fun u hu => by rw [cell_of_row u g 10 _ t _ (box_on h hu)]; rfl, fun u hu => by rw [cell_of_row u g 11 _ t _ (box_on h hu)]; rfl⟩
theorem cells12 {W : World} {g : Nat} {t : TypeId} {v0 v1 v2 v3 v4 v5 v6 v7 v8 v9 v10 v11 : Value} (h : W.heap[g]? = some (.cells #[v0, v1, v2, v3, v4, v5, v6, v7, v8, v9, v10, v11] t (0, 0))) : W.cell? ⟨g, 0, none⟩ = some v0 ∧ W.cell? ⟨g, 1, none⟩ = some v1 ∧ W.cell? ⟨g, 2, none⟩ = some v2 ∧ W.cell? ⟨g, 3, none⟩ = some v3 ∧ W.cell? ⟨g, 4, none⟩ = some v4 ∧ W.cell? ⟨g, 5, none⟩ = some v5 ∧ W.cell? ⟨g, 6, none⟩ = some v6 ∧ W.cell? ⟨g, 7, none⟩ = some v7 ∧ W.cell? ⟨g, 8, none⟩ = some v8 ∧ W.cell? ⟨g, 9, none⟩ = some v9 ∧ W.cell? ⟨g, 10, none⟩ = some v10 ∧ W.cell? ⟨g, 11, none⟩ = some v11 ∧ W.frozen? ⟨g, 0, none⟩ = false ∧ W.frozen? ⟨g, 1, none⟩ = false ∧ W.frozen? ⟨g, 2, none⟩ = false ∧ W.frozen? ⟨g, 3, none⟩ = false ∧ W.frozen? ⟨g, 4, none⟩ = false ∧ W.frozen? ⟨g, 5, none⟩ = false ∧ W.frozen? ⟨g, 6, none⟩ = false ∧ W.frozen? ⟨g, 7, none⟩ = false ∧ W.frozen? ⟨g, 8, none⟩ = false ∧ W.frozen? ⟨g, 9, none⟩ = false ∧ W.frozen? ⟨g, 10, none⟩ = false ∧ W.frozen? ⟨g, 11, none⟩ = false :=
  ⟨by rw [cell_of_row W g 0 _ t _ h]; rfl, by rw [cell_of_row W g 1 _ t _ h]; rfl, by rw [cell_of_row W g 2 _ t _ h]; rfl, by rw [cell_of_row W g 3 _ t _ h]; rfl, by rw [cell_of_row W g 4 _ t _ h]; rfl, by rw [cell_of_row W g 5 _ t _ h]; rfl, by rw [cell_of_row W g 6 _ t _ h]; rfl, by rw [cell_of_row W g 7 _ t _ h]; rfl, by rw [cell_of_row W g 8 _ t _ h]; rfl, by rw [cell_of_row W g 9 _ t _ h]; rfl, by rw [cell_of_row W g 10 _ t _ h]; rfl, by rw [cell_of_row W g 11 _ t _ h]; rfl, frozen_of_row W g 0 _ t h, frozen_of_row W g 1 _ t h, frozen_of_row W g 2 _ t h, frozen_of_row W g 3 _ t h, frozen_of_row W g 4 _ t h, frozen_of_row W g 5 _ t h, frozen_of_row W g 6 _ t h, frozen_of_row W g 7 _ t h, frozen_of_row W g 8 _ t h, frozen_of_row W g 9 _ t h, frozen_of_row W g 10 _ t h, frozen_of_row W g 11 _ t h⟩
theorem two_new (w : World) (o1 o2 : Obj) : ((w.alloc o1).alloc o2).heap[w.heap.size]? = some o1 ∧ ((w.alloc o1).alloc o2).heap[w.heap.size + 1]? = some o2 :=
  ⟨box_on (heap_alloc_new w o1) (al (Below.refl _ _) _), by have := heap_alloc_new (w.alloc o1) o2; simpa using this⟩
theorem infoB : (Try.prog.info? 37).map (fun i => (i.zero, i.size, i.bytes)) = some (some (.agg #[.int .u64 0, .int .u64 0, .int .u64 0, .slice none 0 0]), 4, 48) := by kernel_rfl
theorem below_set12 {W w : World} {g : Nat} {v0 v1 v2 v3 v4 v5 v6 v7 v8 v9 v10 v11 : Value} (h : Below W.heap.size W w) (hg : W.heap.size ≤ g) : Below W.heap.size W ((((((((((((w.setCell ⟨g, 0, none⟩ v0).setCell ⟨g, 1, none⟩ v1).setCell ⟨g, 2, none⟩ v2).setCell ⟨g, 3, none⟩ v3).setCell ⟨g, 4, none⟩ v4).setCell ⟨g, 5, none⟩ v5).setCell ⟨g, 6, none⟩ v6).setCell ⟨g, 7, none⟩ v7).setCell ⟨g, 8, none⟩ v8).setCell ⟨g, 9, none⟩ v9).setCell ⟨g, 10, none⟩ v10).setCell ⟨g, 11, none⟩ v11) :=
  Below.setCell (p := ⟨g, _, none⟩) (Below.setCell (p := ⟨g, _, none⟩) (Below.setCell (p := ⟨g, _, none⟩) (Below.setCell (p := ⟨g, _, none⟩) (Below.setCell (p := ⟨g, _, none⟩) (Below.setCell (p := ⟨g, _, none⟩) (Below.setCell (p := ⟨g, _, none⟩) (Below.setCell (p := ⟨g, _, none⟩) (Below.setCell (p := ⟨g, _, none⟩) (Below.setCell (p := ⟨g, _, none⟩) (Below.setCell (p := ⟨g, _, none⟩) (Below.setCell (p := ⟨g, _, none⟩) (h) hg _) hg _) hg _) hg _) hg _) hg _) hg _) hg _) hg _) hg _) hg _) hg _
theorem heap_set12 {w : World} {g : Nat} {t : TypeId} {u0 u1 u2 u3 u4 u5 u6 u7 u8 u9 u10 u11 v0 v1 v2 v3 v4 v5 v6 v7 v8 v9 v10 v11 : Value} (h : w.heap[g]? = some (.cells #[u0, u1, u2, u3, u4, u5, u6, u7, u8, u9, u10, u11] t (0, 0))) : ((((((((((((w.setCell ⟨g, 0, none⟩ v0).setCell ⟨g, 1, none⟩ v1).setCell ⟨g, 2, none⟩ v2).setCell ⟨g, 3, none⟩ v3).setCell ⟨g, 4, none⟩ v4).setCell ⟨g, 5, none⟩ v5).setCell ⟨g, 6, none⟩ v6).setCell ⟨g, 7, none⟩ v7).setCell ⟨g, 8, none⟩ v8).setCell ⟨g, 9, none⟩ v9).setCell ⟨g, 10, none⟩ v10).setCell ⟨g, 11, none⟩ v11).heap[g]? = some (.cells #[v0, v1, v2, v3, v4, v5, v6, v7, v8, v9, v10, v11] t (0, 0)) := by
  have h0 := heap_setCell_same _ g 0 _ t v0 h
  simp only [List.setIfInBounds_toArray, List.set_cons_zero, List.set_cons_succ] at h0
  have h1 := heap_setCell_same _ g 1 _ t v1 h0
  simp only [List.setIfInBounds_toArray, List.set_cons_zero, List.set_cons_succ] at h1
  have h2 := heap_setCell_same _ g 2 _ t v2 h1
  simp only [List.setIfInBounds_toArray, List.set_cons_zero, List.set_cons_succ] at h2
  have h3 := heap_setCell_same _ g 3 _ t v3 h2
  simp only [List.setIfInBounds_toArray, List.set_cons_zero, List.set_cons_succ] at h3
  have h4 := heap_setCell_same _ g 4 _ t v4 h3
  simp only [List.setIfInBounds_toArray, List.set_cons_zero, List.set_cons_succ] at h4
  have h5 := heap_setCell_same _ g 5 _ t v5 h4
  simp only [List.setIfInBounds_toArray, List.set_cons_zero, List.set_cons_succ] at h5
  have h6 := heap_setCell_same _ g 6 _ t v6 h5
  simp only [List.setIfInBounds_toArray, List.set_cons_zero, List.set_cons_succ] at h6
  have h7 := heap_setCell_same _ g 7 _ t v7 h6
  simp only [List.setIfInBounds_toArray, List.set_cons_zero, List.set_cons_succ] at h7
  have h8 := heap_setCell_same _ g 8 _ t v8 h7
  simp only [List.setIfInBounds_toArray, List.set_cons_zero, List.set_cons_succ] at h8
  have h9 := heap_setCell_same _ g 9 _ t v9 h8
  simp only [List.setIfInBounds_toArray, List.set_cons_zero, List.set_cons_succ] at h9
  have h10 := heap_setCell_same _ g 10 _ t v10 h9
  simp only [List.setIfInBounds_toArray, List.set_cons_zero, List.set_cons_succ] at h10
  have h11 := heap_setCell_same _ g 11 _ t v11 h10
  simp only [List.setIfInBounds_toArray, List.set_cons_zero, List.set_cons_succ] at h11
  exact h11
theorem gr_set12 {w : World} {g : Nat} {v0 v1 v2 v3 v4 v5 v6 v7 v8 v9 v10 v11 : Value} : w.grownBy ((((((((((((w.setCell ⟨g, 0, none⟩ v0).setCell ⟨g, 1, none⟩ v1).setCell ⟨g, 2, none⟩ v2).setCell ⟨g, 3, none⟩ v3).setCell ⟨g, 4, none⟩ v4).setCell ⟨g, 5, none⟩ v5).setCell ⟨g, 6, none⟩ v6).setCell ⟨g, 7, none⟩ v7).setCell ⟨g, 8, none⟩ v8).setCell ⟨g, 9, none⟩ v9).setCell ⟨g, 10, none⟩ v10).setCell ⟨g, 11, none⟩ v11) (some g) :=
  gr_set (gr_set (gr_set (gr_set (gr_set (gr_set (gr_set (gr_set (gr_set (gr_set (gr_set (gr_set (World.grownBy.refl _ _) _ _) _ _) _ _) _ _) _ _) _ _) _ _) _ _) _ _) _ _) _ _) _ _
theorem blk_set {w : World} {Q k M g : Nat} {t : TypeId} {C : Array Value} (x : Blk) (hC : w.heap[Q]? = some (.cells C t (0, 0))) (hs : C.size = M * 4) (hk : k < M) (hg : Q < g) (hr : Rd w (some ⟨g, 0, none⟩) (x.d ++ m4)) :
    (∃ C', ((((w.setCell ⟨Q, k * 4, none⟩ (.int .u64 x.t)).setCell ⟨Q, k * 4 + 1, none⟩ (.int .u64 x.n)).setCell ⟨Q, k * 4 + 2, none⟩ (.int .u64 x.f)).setCell ⟨Q, k * 4 + 3, none⟩ (.slice (some ⟨g, 0, none⟩) x.d.length (x.d.length + 4))).heap[Q]? = some (.cells C' t (0, 0)) ∧ C'.size = M * 4) ∧ BlkG ((((w.setCell ⟨Q, k * 4, none⟩ (.int .u64 x.t)).setCell ⟨Q, k * 4 + 1, none⟩ (.int .u64 x.n)).setCell ⟨Q, k * 4 + 2, none⟩ (.int .u64 x.f)).setCell ⟨Q, k * 4 + 3, none⟩ (.slice (some ⟨g, 0, none⟩) x.d.length (x.d.length + 4))) Q (k * 4) x ∧ (∀ j y, j ≠ k → BlkG w Q (j * 4) y → BlkG ((((w.setCell ⟨Q, k * 4, none⟩ (.int .u64 x.t)).setCell ⟨Q, k * 4 + 1, none⟩ (.int .u64 x.n)).setCell ⟨Q, k * 4 + 2, none⟩ (.int .u64 x.f)).setCell ⟨Q, k * 4 + 3, none⟩ (.slice (some ⟨g, 0, none⟩) x.d.length (x.d.length + 4))) Q (j * 4) y) ∧ w.grownBy ((((w.setCell ⟨Q, k * 4, none⟩ (.int .u64 x.t)).setCell ⟨Q, k * 4 + 1, none⟩ (.int .u64 x.n)).setCell ⟨Q, k * 4 + 2, none⟩ (.int .u64 x.f)).setCell ⟨Q, k * 4 + 3, none⟩ (.slice (some ⟨g, 0, none⟩) x.d.length (x.d.length + 4))) (some Q) := by
  have h1 := heap_setCell_same w Q (k * 4) C t (.int .u64 x.t) hC
  have h2 := heap_setCell_same _ Q (k * 4 + 1) _ t (.int .u64 x.n) h1
  have h3 := heap_setCell_same _ Q (k * 4 + 2) _ t (.int .u64 x.f) h2
  have h4 := heap_setCell_same _ Q (k * 4 + 3) _ t (.slice (some ⟨g, 0, none⟩) x.d.length (x.d.length + 4)) h3
  have hgr : w.grownBy ((((w.setCell ⟨Q, k * 4, none⟩ (.int .u64 x.t)).setCell ⟨Q, k * 4 + 1, none⟩ (.int .u64 x.n)).setCell ⟨Q, k * 4 + 2, none⟩ (.int .u64 x.f)).setCell ⟨Q, k * 4 + 3, none⟩ (.slice (some ⟨g, 0, none⟩) x.d.length (x.d.length + 4))) (some Q) := gr_set (gr_set (gr_set (gr_set (World.grownBy.refl _ _) _ _) _ _) _ _) _ _
  refine ⟨⟨_, h4, by simp [hs]⟩, ⟨g, hg, ?_, ?_, ?_, ?_, hr.grown hgr (fun a ha => by cases ha; simp; omega)⟩, ?_, hgr⟩
  · rw [cell_of_row _ Q _ _ t _ h4, Array.getElem?_setIfInBounds_ne (by omega), Array.getElem?_setIfInBounds_ne (by omega), Array.getElem?_setIfInBounds_ne (by omega), Array.getElem?_setIfInBounds_self_of_lt (by (try simp only [Array.size_setIfInBounds]); omega)]
  · rw [cell_of_row _ Q _ _ t _ h4, Array.getElem?_setIfInBounds_ne (by omega), Array.getElem?_setIfInBounds_ne (by omega), Array.getElem?_setIfInBounds_self_of_lt (by (try simp only [Array.size_setIfInBounds]); omega)]
  · rw [cell_of_row _ Q _ _ t _ h4, Array.getElem?_setIfInBounds_ne (by omega), Array.getElem?_setIfInBounds_self_of_lt (by (try simp only [Array.size_setIfInBounds]); omega)]
  · rw [cell_of_row _ Q _ _ t _ h4, Array.getElem?_setIfInBounds_self_of_lt (by (try simp only [Array.size_setIfInBounds]); omega)]
  · intro j y hj ⟨g', hg', c0, c1, c2, c3, hr'⟩
    refine ⟨g', hg', ?_, ?_, ?_, ?_, hr'.grown hgr (fun a ha => by cases ha; simp; omega)⟩
    · rw [← c0, cell_of_row _ Q _ _ t _ h4, cell_of_row _ Q _ _ t _ hC]
      rw [Array.getElem?_setIfInBounds_ne (by omega), Array.getElem?_setIfInBounds_ne (by omega), Array.getElem?_setIfInBounds_ne (by omega), Array.getElem?_setIfInBounds_ne (by omega)]
    · rw [← c1, cell_of_row _ Q _ _ t _ h4, cell_of_row _ Q _ _ t _ hC]
      rw [Array.getElem?_setIfInBounds_ne (by omega), Array.getElem?_setIfInBounds_ne (by omega), Array.getElem?_setIfInBounds_ne (by omega), Array.getElem?_setIfInBounds_ne (by omega)]
    · rw [← c2, cell_of_row _ Q _ _ t _ h4, cell_of_row _ Q _ _ t _ hC]
      rw [Array.getElem?_setIfInBounds_ne (by omega), Array.getElem?_setIfInBounds_ne (by omega), Array.getElem?_setIfInBounds_ne (by omega), Array.getElem?_setIfInBounds_ne (by omega)]
    · rw [← c3, cell_of_row _ Q _ _ t _ h4, cell_of_row _ Q _ _ t _ hC]
      rw [Array.getElem?_setIfInBounds_ne (by omega), Array.getElem?_setIfInBounds_ne (by omega), Array.getElem?_setIfInBounds_ne (by omega), Array.getElem?_setIfInBounds_ne (by omega)]
theorem gr_drw {w : World} (row : Option Nat) : w.grownBy w.drew row := gr_below (World.grownBy.refl _ _) (Below.refl _ _).drew
theorem box4 {W : World} {g Q : Nat} {t : TypeId} {v0 v1 v2 v3 : Value} (h : W.heap[g]? = some (.cells #[v0, v1, v2, v3] t (0, 0))) (hne : g ≠ Q) : (∀ u, W.grownBy u (some Q) → u.cell? ⟨g, 0, none⟩ = some v0) ∧ (∀ u, W.grownBy u (some Q) → u.cell? ⟨g, 1, none⟩ = some v1) ∧ (∀ u, W.grownBy u (some Q) → u.cell? ⟨g, 2, none⟩ = some v2) ∧ (∀ u, W.grownBy u (some Q) → u.cell? ⟨g, 3, none⟩ = some v3) := by
  have hlt : g < W.heap.size := (Array.getElem?_eq_some_iff.1 h).1
  refine ⟨fun u hu => ?_, fun u hu => ?_, fun u hu => ?_, fun u hu => ?_⟩ <;> (rw [cell_of_row u g _ _ t _ ((hu.block g hlt (by simp; omega)).trans h)]; rfl)
/-- the cells of a row of blocks -/
theorem row4 {w : World} {Q M k : Nat} {t : TypeId} {C : Array Value} (h : w.heap[Q]? = some (.cells C t (0, 0))) (hs : C.size = M * 4) (hk : k < M) : ∃ u0 u1 u2 u3, w.cell? ⟨Q, k * 4, none⟩ = some u0 ∧ w.cell? ⟨Q, k * 4 + 1, none⟩ = some u1 ∧ w.cell? ⟨Q, k * 4 + 2, none⟩ = some u2 ∧ w.cell? ⟨Q, k * 4 + 3, none⟩ = some u3 ∧ w.frozen? ⟨Q, k * 4, none⟩ = false ∧ w.frozen? ⟨Q, k * 4 + 1, none⟩ = false ∧ w.frozen? ⟨Q, k * 4 + 2, none⟩ = false ∧ w.frozen? ⟨Q, k * 4 + 3, none⟩ = false := by
  refine ⟨C[k * 4]'(by omega), C[k * 4 + 1]'(by omega), C[k * 4 + 2]'(by omega), C[k * 4 + 3]'(by omega), ?_, ?_, ?_, ?_, frozen_of_row w Q _ _ t h, frozen_of_row w Q _ _ t h, frozen_of_row w Q _ _ t h, frozen_of_row w Q _ _ t h⟩ <;> (rw [cell_of_row w Q _ _ t _ h, Array.getElem?_eq_getElem])
theorem cell_same {w w' : World} {g : Nat} (e : w'.heap[g]? = w.heap[g]?) (i : Nat) : w'.cell? ⟨g, i, none⟩ = w.cell? ⟨g, i, none⟩ := by simp [World.cell?, e]
theorem Rd.same {w w' : World} {g : Nat} {o : Nat} {xs : List UInt8} (h : Rd w (some ⟨g, o, none⟩) xs) (e : w'.heap[g]? = w.heap[g]?) : Rd w' (some ⟨g, o, none⟩) xs := by
  intro hp
  obtain ⟨b, o', e', hc⟩ := h hp
  cases e'
  exact ⟨g, o, rfl, fun i hi => (cell_same e _).trans (hc i hi)⟩
theorem BlkG.move {w w' : World} {b o : Nat} {x : Blk} (h : BlkG w b o x) (hc : ∀ i, i < 4 → w'.cell? ⟨b, o + i, none⟩ = w.cell? ⟨b, o + i, none⟩) (hr : ∀ g, b < g → w'.heap[g]? = w.heap[g]?) : BlkG w' b o x := by
  obtain ⟨g, hg, h0, h1, h2, h3, h4⟩ := h
  exact ⟨g, hg, (hc 0 (by omega)).trans h0, (hc 1 (by omega)).trans h1, (hc 2 (by omega)).trans h2, (hc 3 (by omega)).trans h3, h4.same (hr g hg)⟩
theorem results_ct {P : Program} {fn : Func} {p u : Tmp} {ty : TypeId} (h : fn.results = #[.cell p ty, .tmp u]) (tmps : Array Value) (w : World) (g : Nat) (t : TypeId) (cs : Array Value) (fr : Nat × Nat) (d : TypeDesc)
    (hp : tmps.getD p undef = .pointer (some ⟨g, 0, none⟩)) (hg : w.heap[g]? = some (.cells cs t fr))
    (hu : P.underlying ty = some d) (hd : (match d with | .struct _ | .array _ _ => true | _ => false) = true) (hi : (P.info? ty).map (·.size) = some cs.size) :
    (results fn tmps).run P w = .ok (.tuple #[.agg cs, tmps.getD u undef]) w := by
  rw [results_cell_tmp h]
  rw [hp]
  simp [asAddr, run_loadVar_row w g t ty cs fr d hg hu hd hi, Result.andThen]
end Go.Proofs.Ytdpkommmkcmifaa
namespace Go.Proofs.Ytdpkommmkcmifaa
set_option linter.unusedVariables false
set_option linter.unusedSimpArgs false
open Go.RowKit
/-- Reader.Take: what it gives, how far it goes on, the fault then -/
def rTake (n : Int) (ys : List UInt8) (f : Int) : List UInt8 × Nat × Int :=
  if f = 0 then (if n < 0 then ([], 0, 1) else if (ys.length : Int) < n then ([], 0, 10) else (ys.take n.toNat, n.toNat, 0)) else ([], 0, f)
theorem RdrAt.below {w w' : World} {p : Nat} {ao : Option Addr} {cap : Nat} {xs : List UInt8} {pl : Nat} {f : Int} (h : RdrAt w p ao cap xs pl f) (hb : Below w.heap.size w w') : RdrAt w' p ao cap xs pl f :=
  h.grown (gr_below (World.grownBy.refl w none) hb) (by simp) (by simp)
theorem own_setR {w : World} {B : Nat} {v : Value} {xs : List UInt8} (h : Own w B v xs) (p i : Nat) (u : Value) (hp : p < B) : Own (w.setCell ⟨p, i, none⟩ u) B v xs := by
  refine h.grown (Lib.grownBy_setCell w p i u) ?_
  cases hv : v.ownBlock with
  | none => exact .inl rfl
  | some g =>
    right
    have := World.ownsRow.lt h g hv
    simp
    omega
set_option maxRecDepth 20000 in
set_option maxHeartbeats 1600000 in
theorem take_r {p : Nat} {ao : Option Addr} {cap : Nat} {xs : List UInt8} {pl : Nat} {f : Int} (n : Int) (w : World) (h : RdrAt w p ao cap xs pl f) :
    Calls Try.prog 56 #[.pointer (some ⟨p, 0, none⟩), .int .i64 n] w fun e w' => ∃ v, e = .returned v ∧ Own w' w.heap.size v (rTake n (xs.drop pl) f).1 ∧ RdrAt w' p ao cap xs (pl + (rTake n (xs.drop pl) f).2.1) (rTake n (xs.drop pl) f).2.2 ∧ w.grownBy w' (some p) := by
  have hp := h.hp
  have hl := h.hl
  have hc := h.hc
  by_cases hf : f = 0
  · subst hf
    by_cases hn : n < 0
    · have HV : Hid (rTake n (xs.drop pl) 0 = ([], 0, 1)) := by unfold Hid rTake; rw [if_pos rfl, if_pos hn]
      have k4 := h.f3
      have k5 := h.c3
      go_enter Try.func56, Try.ntmps56
      go_wp2_with fail
      refine (err_r w h).mono ?_
      rintro e w1 ⟨rfl, hw1⟩
      subst hw1
      go_wp2
      go_ret
      rw [HV.out]
      exact ⟨_, rfl, World.ownsRow_nil _ _ _ _, h.setF _, gr_set (World.grownBy.refl _ _) _ _⟩
    · obtain ⟨N, rfl⟩ : ∃ N : Nat, n = N := ⟨n.toNat, by omega⟩
      by_cases hlt : xs.length - pl < N
      · have HV : Hid (rTake N (xs.drop pl) 0 = ([], 0, 10)) := by unfold Hid rTake; rw [if_pos rfl, if_neg hn, if_pos (by simp; omega)]
        go_enter Try.func56, Try.ntmps56
        go_wp2_with fail
        refine (err_r w h).mono ?_
        rintro e w1 ⟨rfl, hw1⟩
        subst hw1
        go_wp2_with fail
        refine (left_r w1 h).mono ?_
        rintro e w2 ⟨rfl, q, hw2⟩
        have h2 : RdrAt w2 p ao cap xs pl 0 := by rw [hw2]; exact h.drewN q
        have hg2 : w1.grownBy w2 (some p) := by rw [hw2]; exact gr_drewN (World.grownBy.refl _ _) q
        have k4 := h2.f3
        have k5 := h2.c3
        clear hw2
        go_wp2
        go_ret
        rw [HV.out]
        exact ⟨_, rfl, World.ownsRow_nil _ _ _ _, h2.setF _, gr_set hg2 _ _⟩
      · have HV : Hid (rTake N (xs.drop pl) 0 = ((xs.drop pl).take N, N, 0)) := by unfold Hid rTake; rw [if_pos rfl, if_neg hn, if_neg (by simp; omega)]; rfl
        have hNle : N ≤ xs.length - pl := by omega
        clear hlt hn
        go_enter Try.func56, Try.ntmps56
        go_wp2_with fail
        refine (err_r w h).mono ?_
        rintro e w1 ⟨rfl, hw1⟩
        subst hw1
        go_wp2_with fail
        refine (left_r w1 h).mono ?_
        rintro e w2 ⟨rfl, q, hw2⟩
        have h2 : RdrAt w2 p ao cap xs pl 0 := by rw [hw2]; exact h.drewN q
        have hg2 : w1.grownBy w2 (some p) := by rw [hw2]; exact gr_drewN (World.grownBy.refl _ _) q
        have hz12 : w1.heap.size ≤ w2.heap.size := hg2.size
        clear hw2
        have hdec : decide (((xs.length - pl : Nat) : Int) < (N : Int)) = false := by simp; omega
        have c1 := h2.c1
        have c2 := h2.c2
        have hr := h2.rd
        have hpl1 : p < w1.heap.size := World.block_lt_of_cell? w1 _ h.c2
        rcases h2.sp with hao | ⟨b, o, hao⟩
        · have hcap := h2.hn hao
          subst hao
          subst hcap
          obtain rfl : xs = [] := List.eq_nil_of_length_eq_zero (by omega)
          simp only [List.length_nil, Nat.le_zero, Nat.zero_sub] at hp hNle
          subst hp
          subst hNle
          have hrt : Rd w2 none [] := Rd.nil _ _
          have hw : IntKind.i64.wrap 0 = 0 := by decide
          have hb3' : (∀ {u : World}, Below w2.heap.size w2 u → u.cell? ⟨p, 1, none⟩ = some (.slice none 0 0)) ∧ (∀ {u : World}, Below w2.heap.size w2 u → u.cell? ⟨p, 2, none⟩ = some (.int .i64 0)) := ⟨fun hu => (h2.below hu).c1, fun hu => (h2.below hu).c2⟩
          clear hr hc hdec
          go_wp2_with fail
          refine wp_region_noPanic ?_
          refine wp_region_held_drew (S := (fun u => Below w2.heap.size w2 u ∧ u.cell? ⟨p, 1, none⟩ = some (.slice none 0 0) ∧ u.cell? ⟨p, 2, none⟩ = some (.int .i64 0))) (by kernel_rfl) (by first | exact ⟨(Below.refl _ _).drew, by simpa using c1, by simpa using c2⟩ | assumption) (fun hHeld => ?_)
          refine take_at (i := 0) 21 (v := ?_) rfl rfl (by kernel_rfl) (by kernel_rfl) (by kernel_rfl) (fun _ _ _ h => h) (by rfl) ?_ hHeld ?_
          rotate_left
          · (intro w hSw; (try dsimp only at hSw); go_simp; try with_reducible rfl)
          simp only [Act.put, List.setIfInBounds_toArray, List.set_cons_zero, List.set_cons_succ]
          refine take_at (i := 1) 22 (v := ?_) rfl rfl (by kernel_rfl) (by kernel_rfl) (by kernel_rfl) (fun _ _ _ h => h) (by rfl) ?_ hHeld ?_
          rotate_left
          · (intro w hSw; (try dsimp only at hSw); go_simp; try with_reducible rfl)
          simp only [Act.put, List.setIfInBounds_toArray, List.set_cons_zero, List.set_cons_succ]
          refine take_at (i := 2) 23 (v := ?_) rfl rfl (by kernel_rfl) (by kernel_rfl) (by kernel_rfl) (fun _ _ _ h => h) (by rfl) ?_ hHeld ?_
          rotate_left
          · (intro w hSw; (try dsimp only at hSw); go_simp; try with_reducible rfl)
          simp only [Act.put, List.setIfInBounds_toArray, List.set_cons_zero, List.set_cons_succ]
          refine take_at (i := 3) 24 (v := ?_) rfl rfl (by kernel_rfl) (by kernel_rfl) (by kernel_rfl) (fun _ _ _ h => h) (by rfl) ?_ hHeld ?_
          rotate_left
          · (intro w hSw; (try dsimp only at hSw); go_simp; try with_reducible rfl)
          simp only [Act.put, List.setIfInBounds_toArray, List.set_cons_zero, List.set_cons_succ]
          refine take_at (i := 4) 25 (v := ?_) rfl rfl (by kernel_rfl) (by kernel_rfl) (by kernel_rfl) (fun _ _ _ h => h) (by rfl) ?_ hHeld ?_
          rotate_left
          · (intro w hSw; (try dsimp only at hSw); go_simp; try with_reducible rfl)
          simp only [Act.put, List.setIfInBounds_toArray, List.set_cons_zero, List.set_cons_succ]
          refine take_at (i := 5) 26 (v := ?_) rfl rfl (by kernel_rfl) (by kernel_rfl) (by kernel_rfl) (fun _ _ _ h => h) (by rfl) ?_ hHeld ?_
          rotate_left
          · (intro w hSw; (try dsimp only at hSw); go_simp; try with_reducible rfl)
          simp only [Act.put, List.setIfInBounds_toArray, List.set_cons_zero, List.set_cons_succ]
          refine take_at (i := 6) 27 (v := ?_) rfl rfl (by kernel_rfl) (by kernel_rfl) (by kernel_rfl) (fun _ _ _ h => h) (by rfl) ?_ hHeld ?_
          rotate_left
          · (intro w hSw; (try dsimp only at hSw); go_simp; try with_reducible rfl)
          simp only [Act.put, List.setIfInBounds_toArray, List.set_cons_zero, List.set_cons_succ]
          refine take_at (i := 7) 28 (v := ?_) rfl rfl (by kernel_rfl) (by kernel_rfl) (by kernel_rfl) (fun _ _ _ h => h) (by rfl) ?_ hHeld ?_
          rotate_left
          · (intro w hSw; (try dsimp only at hSw); go_simp; try with_reducible rfl)
          simp only [Act.put, List.setIfInBounds_toArray, List.set_cons_zero, List.set_cons_succ]
          refine take_at (i := 8) 29 (v := ?_) rfl rfl (by kernel_rfl) (by kernel_rfl) (by kernel_rfl) (fun _ _ _ h => h) (by rfl) ?_ hHeld ?_
          rotate_left
          · (intro w hSw; (try dsimp only at hSw); go_simp; try with_reducible rfl)
          simp only [Act.put, List.setIfInBounds_toArray, List.set_cons_zero, List.set_cons_succ]
          refine take_at (i := 9) 30 (v := ?_) rfl rfl (by kernel_rfl) (by kernel_rfl) (by kernel_rfl) (fun _ _ _ h => h) (by rfl) ?_ hHeld ?_
          rotate_left
          · (intro w hSw; (try dsimp only at hSw); go_simp; try with_reducible rfl)
          simp only [Act.put, List.setIfInBounds_toArray, List.set_cons_zero, List.set_cons_succ]
          refine take_at (i := 10) 31 (v := ?_) rfl rfl (by kernel_rfl) (by kernel_rfl) (by kernel_rfl) (fun _ _ _ h => h) (by rfl) ?_ hHeld ?_
          rotate_left
          · (intro w hSw; (try dsimp only at hSw); go_simp; try with_reducible rfl)
          simp only [Act.put, List.setIfInBounds_toArray, List.set_cons_zero, List.set_cons_succ]
          refine take_at (i := 11) 32 (v := ?_) rfl rfl (by kernel_rfl) (by kernel_rfl) (by kernel_rfl) (fun _ _ _ h => h) (by rfl) ?_ hHeld ?_
          rotate_left
          · (intro w hSw; (try dsimp only at hSw); go_simp; try with_reducible rfl)
          simp only [Act.put, List.setIfInBounds_toArray, List.set_cons_zero, List.set_cons_succ]
          refine take_at (i := 12) 33 (v := ?_) rfl rfl (by kernel_rfl) (by kernel_rfl) (by kernel_rfl) (fun _ _ _ h => h) (by rfl) ?_ hHeld ?_
          rotate_left
          · (intro w hSw; (try dsimp only at hSw); go_simp; try with_reducible rfl)
          simp only [Act.put, List.setIfInBounds_toArray, List.set_cons_zero, List.set_cons_succ]
          refine take_at (i := 13) 34 (v := ?_) rfl rfl (by kernel_rfl) (by kernel_rfl) (by kernel_rfl) (fun _ _ _ h => h) (by rfl) ?_ hHeld ?_
          rotate_left
          · (intro w hSw; (try dsimp only at hSw); go_simp; try with_reducible rfl)
          simp only [Act.put, List.setIfInBounds_toArray, List.set_cons_zero, List.set_cons_succ]
          refine val_at (i := 14) 35 (v := ?_) rfl rfl (by kernel_rfl) (by rfl) ?_ ?_ ?_
          rotate_left
          · (go_simp; try with_reducible rfl)
          · (first | exact ⟨(Below.refl _ _).drew, by simpa using c1, by simpa using c2⟩ | assumption)
          intro hHeld2
          clear hHeld
          have hHeld := hHeld2
          clear hHeld2
          simp only [Act.put, List.setIfInBounds_toArray, List.set_cons_zero, List.set_cons_succ]
          refine run_at (i := 15) rfl (by kernel_rfl) (by rfl) (fun K hK => ?_)
          simp only [List.getElem_toArray, List.getElem_cons_zero, List.getElem_cons_succ]
          go_simp
          (go_at_call 35; refine (clone_n _ 0 0 [] rfl _ (hrt.below (Below.refl _ _).drew) (fun h => by rfl) (by omega)).mono ?_; rintro e w3 ⟨v3, rfl, hown3, hb3⟩; have hS3 := below_next (B := w2) (Below.refl _ _).drew hb3; have hS3' : Below w2.heap.size w2 w3 ∧ w3.cell? ⟨p, 1, none⟩ = some (.slice none 0 0) ∧ w3.cell? ⟨p, 2, none⟩ = some (.int .i64 0) := ⟨hS3, hb3'.1 hS3, hb3'.2 hS3⟩)
          go_wp2_with fail
          refine hK.out _ _ (by first | exact ⟨(Below.refl _ _).drew, by simpa using c1, by simpa using c2⟩ | assumption) ?_
          clear hK K
          intro hHeld2
          clear hHeld
          have hHeld := hHeld2
          clear hHeld2
          try simp only [Act.put, List.setIfInBounds_toArray, List.set_cons_zero, List.set_cons_succ]
          refine take_at (i := 16) 5 (v := ?_) rfl rfl (by kernel_rfl) (by kernel_rfl) (by kernel_rfl) (fun _ _ _ h => h) (by rfl) ?_ hHeld ?_
          rotate_left
          · (intro w hSw; (try dsimp only at hSw); go_simp; try with_reducible rfl)
          simp only [Act.put, List.setIfInBounds_toArray, List.set_cons_zero, List.set_cons_succ]
          refine wpAnyH_done (by kernel_rfl) ?_ _
          refine NoPanic.normal ?_
          have h3 := h2.below hS3
          have c23 := h3.c2
          have f23 := h3.f2
          have hpl2 : p < w2.heap.size := World.block_lt_of_cell? w2 _ c2
          have hown3' : Own w3 w1.heap.size v3 _ := hown3.base (by simpa using hz12)
          go_wp2
          go_ret
          rw [HV.out]
          exact ⟨_, rfl, own_setR hown3' p _ _ hpl1, h3.setP _ 0 (by go_num) (by simp), gr_set (gr_below hg2 hS3) _ _⟩
        · subst hao
          by_cases hcp : cap = pl
          · have hxl : xs.length = pl := by omega
            obtain rfl : N = 0 := by omega
            rw [hxl, hcp] at c1
            have hrt : Rd w2 (some ⟨b, o, none⟩) [] := Rd.nil _ _
            have hb3' : (∀ {u : World}, Below w2.heap.size w2 u → u.cell? ⟨p, 1, none⟩ = some (.slice (some ⟨b, o, none⟩) pl pl)) ∧ (∀ {u : World}, Below w2.heap.size w2 u → u.cell? ⟨p, 2, none⟩ = some (.int .i64 pl)) := ⟨fun hu => by have := (h2.below hu).c1; rwa [hxl, hcp] at this, fun hu => (h2.below hu).c2⟩
            have hw : IntKind.i64.wrap (pl : Int) = (pl : Int) := by rw [IntKind.wrap_i64]; omega
            have HXL : Hid (xs.length = pl) := hxl
            have HNL : Hid (0 ≤ xs.length - pl) := hNle
            rw [hxl, Nat.sub_self]
            clear hr hc hdec hcp hxl hNle hp hl
            go_wp2_with fail
            refine wp_region_noPanic ?_
            refine wp_region_held_drew (S := (fun u => Below w2.heap.size w2 u ∧ u.cell? ⟨p, 1, none⟩ = some (.slice (some ⟨b, o, none⟩) pl pl) ∧ u.cell? ⟨p, 2, none⟩ = some (.int .i64 pl))) (by kernel_rfl) (by first | exact ⟨(Below.refl _ _).drew, by simpa using c1, by simpa using c2⟩ | assumption) (fun hHeld => ?_)
            refine take_at (i := 0) 21 (v := ?_) rfl rfl (by kernel_rfl) (by kernel_rfl) (by kernel_rfl) (fun _ _ _ h => h) (by rfl) ?_ hHeld ?_
            rotate_left
            · (intro w hSw; (try dsimp only at hSw); go_simp; try with_reducible rfl)
            simp only [Act.put, List.setIfInBounds_toArray, List.set_cons_zero, List.set_cons_succ]
            refine take_at (i := 1) 22 (v := ?_) rfl rfl (by kernel_rfl) (by kernel_rfl) (by kernel_rfl) (fun _ _ _ h => h) (by rfl) ?_ hHeld ?_
            rotate_left
            · (intro w hSw; (try dsimp only at hSw); go_simp; try with_reducible rfl)
            simp only [Act.put, List.setIfInBounds_toArray, List.set_cons_zero, List.set_cons_succ]
            refine take_at (i := 2) 23 (v := ?_) rfl rfl (by kernel_rfl) (by kernel_rfl) (by kernel_rfl) (fun _ _ _ h => h) (by rfl) ?_ hHeld ?_
            rotate_left
            · (intro w hSw; (try dsimp only at hSw); go_simp; try with_reducible rfl)
            simp only [Act.put, List.setIfInBounds_toArray, List.set_cons_zero, List.set_cons_succ]
            refine take_at (i := 3) 24 (v := ?_) rfl rfl (by kernel_rfl) (by kernel_rfl) (by kernel_rfl) (fun _ _ _ h => h) (by rfl) ?_ hHeld ?_
            rotate_left
            · (intro w hSw; (try dsimp only at hSw); go_simp; try with_reducible rfl)
            simp only [Act.put, List.setIfInBounds_toArray, List.set_cons_zero, List.set_cons_succ]
            refine take_at (i := 4) 25 (v := ?_) rfl rfl (by kernel_rfl) (by kernel_rfl) (by kernel_rfl) (fun _ _ _ h => h) (by rfl) ?_ hHeld ?_
            rotate_left
            · (intro w hSw; (try dsimp only at hSw); go_simp; try with_reducible rfl)
            simp only [Act.put, List.setIfInBounds_toArray, List.set_cons_zero, List.set_cons_succ]
            refine take_at (i := 5) 26 (v := ?_) rfl rfl (by kernel_rfl) (by kernel_rfl) (by kernel_rfl) (fun _ _ _ h => h) (by rfl) ?_ hHeld ?_
            rotate_left
            · (intro w hSw; (try dsimp only at hSw); go_simp; try with_reducible rfl)
            simp only [Act.put, List.setIfInBounds_toArray, List.set_cons_zero, List.set_cons_succ]
            refine take_at (i := 6) 27 (v := ?_) rfl rfl (by kernel_rfl) (by kernel_rfl) (by kernel_rfl) (fun _ _ _ h => h) (by rfl) ?_ hHeld ?_
            rotate_left
            · (intro w hSw; (try dsimp only at hSw); go_simp; try with_reducible rfl)
            simp only [Act.put, List.setIfInBounds_toArray, List.set_cons_zero, List.set_cons_succ]
            refine take_at (i := 7) 28 (v := ?_) rfl rfl (by kernel_rfl) (by kernel_rfl) (by kernel_rfl) (fun _ _ _ h => h) (by rfl) ?_ hHeld ?_
            rotate_left
            · (intro w hSw; (try dsimp only at hSw); go_simp; try with_reducible rfl)
            simp only [Act.put, List.setIfInBounds_toArray, List.set_cons_zero, List.set_cons_succ]
            refine take_at (i := 8) 29 (v := ?_) rfl rfl (by kernel_rfl) (by kernel_rfl) (by kernel_rfl) (fun _ _ _ h => h) (by rfl) ?_ hHeld ?_
            rotate_left
            · (intro w hSw; (try dsimp only at hSw); go_simp; try with_reducible rfl)
            simp only [Act.put, List.setIfInBounds_toArray, List.set_cons_zero, List.set_cons_succ]
            refine take_at (i := 9) 30 (v := ?_) rfl rfl (by kernel_rfl) (by kernel_rfl) (by kernel_rfl) (fun _ _ _ h => h) (by rfl) ?_ hHeld ?_
            rotate_left
            · (intro w hSw; (try dsimp only at hSw); go_simp; try with_reducible rfl)
            simp only [Act.put, List.setIfInBounds_toArray, List.set_cons_zero, List.set_cons_succ]
            refine take_at (i := 10) 31 (v := ?_) rfl rfl (by kernel_rfl) (by kernel_rfl) (by kernel_rfl) (fun _ _ _ h => h) (by rfl) ?_ hHeld ?_
            rotate_left
            · (intro w hSw; (try dsimp only at hSw); go_simp; try with_reducible rfl)
            simp only [Act.put, List.setIfInBounds_toArray, List.set_cons_zero, List.set_cons_succ]
            refine take_at (i := 11) 32 (v := ?_) rfl rfl (by kernel_rfl) (by kernel_rfl) (by kernel_rfl) (fun _ _ _ h => h) (by rfl) ?_ hHeld ?_
            rotate_left
            · (intro w hSw; (try dsimp only at hSw); go_simp; try with_reducible rfl)
            simp only [Act.put, List.setIfInBounds_toArray, List.set_cons_zero, List.set_cons_succ]
            refine take_at (i := 12) 33 (v := ?_) rfl rfl (by kernel_rfl) (by kernel_rfl) (by kernel_rfl) (fun _ _ _ h => h) (by rfl) ?_ hHeld ?_
            rotate_left
            · (intro w hSw; (try dsimp only at hSw); go_simp; try with_reducible rfl)
            simp only [Act.put, List.setIfInBounds_toArray, List.set_cons_zero, List.set_cons_succ]
            refine take_at (i := 13) 34 (v := ?_) rfl rfl (by kernel_rfl) (by kernel_rfl) (by kernel_rfl) (fun _ _ _ h => h) (by rfl) ?_ hHeld ?_
            rotate_left
            · (intro w hSw; (try dsimp only at hSw); go_simp; try with_reducible rfl)
            simp only [Act.put, List.setIfInBounds_toArray, List.set_cons_zero, List.set_cons_succ]
            refine val_at (i := 14) 35 (v := ?_) rfl rfl (by kernel_rfl) (by rfl) ?_ ?_ ?_
            rotate_left
            · (go_simp; try with_reducible rfl)
            · (first | exact ⟨(Below.refl _ _).drew, by simpa using c1, by simpa using c2⟩ | assumption)
            intro hHeld2
            clear hHeld
            have hHeld := hHeld2
            clear hHeld2
            simp only [Act.put, List.setIfInBounds_toArray, List.set_cons_zero, List.set_cons_succ]
            refine run_at (i := 15) rfl (by kernel_rfl) (by rfl) (fun K hK => ?_)
            simp only [List.getElem_toArray, List.getElem_cons_zero, List.getElem_cons_succ]
            go_simp
            (go_at_call 35; refine (clone_n _ 0 0 [] rfl _ (hrt.below (Below.refl _ _).drew) (fun h => by cases h) (by omega)).mono ?_; rintro e w3 ⟨v3, rfl, hown3, hb3⟩; have hS3 := below_next (B := w2) (Below.refl _ _).drew hb3; have hS3' : Below w2.heap.size w2 w3 ∧ w3.cell? ⟨p, 1, none⟩ = some (.slice (some ⟨b, o, none⟩) pl pl) ∧ w3.cell? ⟨p, 2, none⟩ = some (.int .i64 pl) := ⟨hS3, hb3'.1 hS3, hb3'.2 hS3⟩)
            go_wp2_with fail
            refine hK.out _ _ (by first | exact ⟨(Below.refl _ _).drew, by simpa using c1, by simpa using c2⟩ | assumption) ?_
            clear hK K
            intro hHeld2
            clear hHeld
            have hHeld := hHeld2
            clear hHeld2
            try simp only [Act.put, List.setIfInBounds_toArray, List.set_cons_zero, List.set_cons_succ]
            refine take_at (i := 16) 5 (v := ?_) rfl rfl (by kernel_rfl) (by kernel_rfl) (by kernel_rfl) (fun _ _ _ h => h) (by rfl) ?_ hHeld ?_
            rotate_left
            · (intro w hSw; (try dsimp only at hSw); go_simp; try with_reducible rfl)
            simp only [Act.put, List.setIfInBounds_toArray, List.set_cons_zero, List.set_cons_succ]
            refine wpAnyH_done (by kernel_rfl) ?_ _
            refine NoPanic.normal ?_
            have h3 := h2.below hS3
            have c23 := h3.c2
            have f23 := h3.f2
            have hpl2 : p < w2.heap.size := World.block_lt_of_cell? w2 _ c2
            have hown3' : Own w3 w1.heap.size v3 _ := hown3.base (by simpa using hz12)
            go_wp2
            go_ret
            rw [HV.out]
            exact ⟨_, rfl, own_setR hown3' p _ _ hpl1, h3.setP _ pl (by go_num) (by rw [HXL.out]; exact Nat.le_refl _), gr_set (gr_below hg2 hS3) _ _⟩
          · have hrt : Rd w2 (some ⟨b, o + pl, none⟩) ((xs.drop pl).take N) := (hr.drop pl).take N
            obtain ⟨M, hM⟩ : ∃ M : Nat, M = pl + N := ⟨_, rfl⟩
            have hw : IntKind.i64.wrap ((pl : Int) + (N : Int)) = (M : Int) := by rw [IntKind.wrap_i64]; omega
            have HLEN : Hid (M - pl = ((xs.drop pl).take N).length) := by unfold Hid; simp; omega
            have HM : Hid (M = pl + N) := hM
            have hc' : pl ≤ cap := by omega
            have hcN : M ≤ cap := by omega
            have hcM : pl ≤ M := by omega
            have hcN2 : M ≤ xs.length := by omega
            clear hr hp hc hM
            have hb3' : (∀ {u : World}, Below w2.heap.size w2 u → u.cell? ⟨p, 1, none⟩ = some (.slice (some ⟨b, o, none⟩) xs.length cap)) ∧ (∀ {u : World}, Below w2.heap.size w2 u → u.cell? ⟨p, 2, none⟩ = some (.int .i64 pl)) := ⟨fun hu => (h2.below hu).c1, fun hu => (h2.below hu).c2⟩
            go_wp2_with fail
            refine wp_region_noPanic ?_
            refine wp_region_held_drew (S := (fun u => Below w2.heap.size w2 u ∧ u.cell? ⟨p, 1, none⟩ = some (.slice (some ⟨b, o, none⟩) xs.length cap) ∧ u.cell? ⟨p, 2, none⟩ = some (.int .i64 pl))) (by kernel_rfl) (by first | exact ⟨(Below.refl _ _).drew, by simpa using c1, by simpa using c2⟩ | assumption) (fun hHeld => ?_)
            refine take_at (i := 0) 21 (v := ?_) rfl rfl (by kernel_rfl) (by kernel_rfl) (by kernel_rfl) (fun _ _ _ h => h) (by rfl) ?_ hHeld ?_
            rotate_left
            · (intro w hSw; (try dsimp only at hSw); go_simp; try with_reducible rfl)
            simp only [Act.put, List.setIfInBounds_toArray, List.set_cons_zero, List.set_cons_succ]
            refine take_at (i := 1) 22 (v := ?_) rfl rfl (by kernel_rfl) (by kernel_rfl) (by kernel_rfl) (fun _ _ _ h => h) (by rfl) ?_ hHeld ?_
            rotate_left
            · (intro w hSw; (try dsimp only at hSw); go_simp; try with_reducible rfl)
            simp only [Act.put, List.setIfInBounds_toArray, List.set_cons_zero, List.set_cons_succ]
            refine take_at (i := 2) 23 (v := ?_) rfl rfl (by kernel_rfl) (by kernel_rfl) (by kernel_rfl) (fun _ _ _ h => h) (by rfl) ?_ hHeld ?_
            rotate_left
            · (intro w hSw; (try dsimp only at hSw); go_simp; try with_reducible rfl)
            simp only [Act.put, List.setIfInBounds_toArray, List.set_cons_zero, List.set_cons_succ]
            refine take_at (i := 3) 24 (v := ?_) rfl rfl (by kernel_rfl) (by kernel_rfl) (by kernel_rfl) (fun _ _ _ h => h) (by rfl) ?_ hHeld ?_
            rotate_left
            · (intro w hSw; (try dsimp only at hSw); go_simp; try with_reducible rfl)
            simp only [Act.put, List.setIfInBounds_toArray, List.set_cons_zero, List.set_cons_succ]
            refine take_at (i := 4) 25 (v := ?_) rfl rfl (by kernel_rfl) (by kernel_rfl) (by kernel_rfl) (fun _ _ _ h => h) (by rfl) ?_ hHeld ?_
            rotate_left
            · (intro w hSw; (try dsimp only at hSw); go_simp; try with_reducible rfl)
            simp only [Act.put, List.setIfInBounds_toArray, List.set_cons_zero, List.set_cons_succ]
            refine take_at (i := 5) 26 (v := ?_) rfl rfl (by kernel_rfl) (by kernel_rfl) (by kernel_rfl) (fun _ _ _ h => h) (by rfl) ?_ hHeld ?_
            rotate_left
            · (intro w hSw; (try dsimp only at hSw); go_simp; try with_reducible rfl)
            simp only [Act.put, List.setIfInBounds_toArray, List.set_cons_zero, List.set_cons_succ]
            refine take_at (i := 6) 27 (v := ?_) rfl rfl (by kernel_rfl) (by kernel_rfl) (by kernel_rfl) (fun _ _ _ h => h) (by rfl) ?_ hHeld ?_
            rotate_left
            · (intro w hSw; (try dsimp only at hSw); go_simp; try with_reducible rfl)
            simp only [Act.put, List.setIfInBounds_toArray, List.set_cons_zero, List.set_cons_succ]
            refine take_at (i := 7) 28 (v := ?_) rfl rfl (by kernel_rfl) (by kernel_rfl) (by kernel_rfl) (fun _ _ _ h => h) (by rfl) ?_ hHeld ?_
            rotate_left
            · (intro w hSw; (try dsimp only at hSw); go_simp; try with_reducible rfl)
            simp only [Act.put, List.setIfInBounds_toArray, List.set_cons_zero, List.set_cons_succ]
            refine take_at (i := 8) 29 (v := ?_) rfl rfl (by kernel_rfl) (by kernel_rfl) (by kernel_rfl) (fun _ _ _ h => h) (by rfl) ?_ hHeld ?_
            rotate_left
            · (intro w hSw; (try dsimp only at hSw); go_simp; try with_reducible rfl)
            simp only [Act.put, List.setIfInBounds_toArray, List.set_cons_zero, List.set_cons_succ]
            refine take_at (i := 9) 30 (v := ?_) rfl rfl (by kernel_rfl) (by kernel_rfl) (by kernel_rfl) (fun _ _ _ h => h) (by rfl) ?_ hHeld ?_
            rotate_left
            · (intro w hSw; (try dsimp only at hSw); go_simp; try with_reducible rfl)
            simp only [Act.put, List.setIfInBounds_toArray, List.set_cons_zero, List.set_cons_succ]
            refine take_at (i := 10) 31 (v := ?_) rfl rfl (by kernel_rfl) (by kernel_rfl) (by kernel_rfl) (fun _ _ _ h => h) (by rfl) ?_ hHeld ?_
            rotate_left
            · (intro w hSw; (try dsimp only at hSw); go_simp; try with_reducible rfl)
            simp only [Act.put, List.setIfInBounds_toArray, List.set_cons_zero, List.set_cons_succ]
            refine take_at (i := 11) 32 (v := ?_) rfl rfl (by kernel_rfl) (by kernel_rfl) (by kernel_rfl) (fun _ _ _ h => h) (by rfl) ?_ hHeld ?_
            rotate_left
            · (intro w hSw; (try dsimp only at hSw); go_simp; try with_reducible rfl)
            simp only [Act.put, List.setIfInBounds_toArray, List.set_cons_zero, List.set_cons_succ]
            refine take_at (i := 12) 33 (v := ?_) rfl rfl (by kernel_rfl) (by kernel_rfl) (by kernel_rfl) (fun _ _ _ h => h) (by rfl) ?_ hHeld ?_
            rotate_left
            · (intro w hSw; (try dsimp only at hSw); go_simp; try with_reducible rfl)
            simp only [Act.put, List.setIfInBounds_toArray, List.set_cons_zero, List.set_cons_succ]
            refine take_at (i := 13) 34 (v := ?_) rfl rfl (by kernel_rfl) (by kernel_rfl) (by kernel_rfl) (fun _ _ _ h => h) (by rfl) ?_ hHeld ?_
            rotate_left
            · (intro w hSw; (try dsimp only at hSw); go_simp; try with_reducible rfl)
            simp only [Act.put, List.setIfInBounds_toArray, List.set_cons_zero, List.set_cons_succ]
            refine val_at (i := 14) 35 (v := ?_) rfl rfl (by kernel_rfl) (by rfl) ?_ ?_ ?_
            rotate_left
            · (go_simp; try with_reducible rfl)
            · (first | exact ⟨(Below.refl _ _).drew, by simpa using c1, by simpa using c2⟩ | assumption)
            intro hHeld2
            clear hHeld
            have hHeld := hHeld2
            clear hHeld2
            simp only [Act.put, List.setIfInBounds_toArray, List.set_cons_zero, List.set_cons_succ]
            refine run_at (i := 15) rfl (by kernel_rfl) (by rfl) (fun K hK => ?_)
            simp only [List.getElem_toArray, List.getElem_cons_zero, List.getElem_cons_succ]
            go_simp
            (go_at_call 35; refine (clone_n _ (M - pl) (cap - pl) ((xs.drop pl).take N) HLEN.out _ (hrt.below (Below.refl _ _).drew) (fun h => by cases h) (by omega)).mono ?_; rintro e w3 ⟨v3, rfl, hown3, hb3⟩; have hS3 := below_next (B := w2) (Below.refl _ _).drew hb3; have hS3' : Below w2.heap.size w2 w3 ∧ w3.cell? ⟨p, 1, none⟩ = some (.slice (some ⟨b, o, none⟩) xs.length cap) ∧ w3.cell? ⟨p, 2, none⟩ = some (.int .i64 pl) := ⟨hS3, hb3'.1 hS3, hb3'.2 hS3⟩)
            go_wp2_with fail
            refine hK.out _ _ (by first | exact ⟨(Below.refl _ _).drew, by simpa using c1, by simpa using c2⟩ | assumption) ?_
            clear hK K
            intro hHeld2
            clear hHeld
            have hHeld := hHeld2
            clear hHeld2
            try simp only [Act.put, List.setIfInBounds_toArray, List.set_cons_zero, List.set_cons_succ]
            refine take_at (i := 16) 5 (v := ?_) rfl rfl (by kernel_rfl) (by kernel_rfl) (by kernel_rfl) (fun _ _ _ h => h) (by rfl) ?_ hHeld ?_
            rotate_left
            · (intro w hSw; (try dsimp only at hSw); go_simp; try with_reducible rfl)
            simp only [Act.put, List.setIfInBounds_toArray, List.set_cons_zero, List.set_cons_succ]
            refine wpAnyH_done (by kernel_rfl) ?_ _
            refine NoPanic.normal ?_
            have h3 := h2.below hS3
            have c23 := h3.c2
            have f23 := h3.f2
            have hpl2 : p < w2.heap.size := World.block_lt_of_cell? w2 _ c2
            have hown3' : Own w3 w1.heap.size v3 _ := hown3.base (by simpa using hz12)
            go_wp2
            go_ret
            rw [HV.out]
            exact ⟨_, rfl, own_setR hown3' p _ _ hpl1, h3.setP _ (pl + N) (by have := HM.out; go_num) (by have := HM.out; omega), gr_set (gr_below hg2 hS3) _ _⟩
  · have HV : Hid (rTake n (xs.drop pl) f = ([], 0, f)) := by unfold Hid rTake; rw [if_neg hf]
    go_enter Try.func56, Try.ntmps56
    go_wp2_with fail
    refine (err_r w h).mono ?_
    rintro e w1 ⟨rfl, hw1⟩
    subst hw1
    go_wp2
    go_ret
    rw [HV.out]
    exact ⟨_, rfl, World.ownsRow_nil _ _ _ _, h, World.grownBy.refl _ _⟩
end Go.Proofs.Ytdpkommmkcmifaa
namespace Go.Proofs.Ytdpkommmkcmifaa
set_option linter.unusedVariables false
set_option linter.unusedSimpArgs false
open Go.RowKit
theorem cells4 {W : World} {g : Nat} {t : TypeId} {v0 v1 v2 v3 : Value} (h : W.heap[g]? = some (.cells #[v0, v1, v2, v3] t (0, 0))) : W.cell? ⟨g, 0, none⟩ = some v0 ∧ W.cell? ⟨g, 1, none⟩ = some v1 ∧ W.cell? ⟨g, 2, none⟩ = some v2 ∧ W.cell? ⟨g, 3, none⟩ = some v3 ∧ W.frozen? ⟨g, 0, none⟩ = false ∧ W.frozen? ⟨g, 1, none⟩ = false ∧ W.frozen? ⟨g, 2, none⟩ = false ∧ W.frozen? ⟨g, 3, none⟩ = false :=
  ⟨by rw [cell_of_row W g 0 _ t _ h]; rfl, by rw [cell_of_row W g 1 _ t _ h]; rfl, by rw [cell_of_row W g 2 _ t _ h]; rfl, by rw [cell_of_row W g 3 _ t _ h]; rfl, frozen_of_row W g 0 _ t h, frozen_of_row W g 1 _ t h, frozen_of_row W g 2 _ t h, frozen_of_row W g 3 _ t h⟩
theorem below_set4 {W w : World} {g : Nat} {v0 v1 v2 v3 : Value} (h : Below W.heap.size W w) (hg : W.heap.size ≤ g) : Below W.heap.size W ((((w.setCell ⟨g, 0, none⟩ v0).setCell ⟨g, 1, none⟩ v1).setCell ⟨g, 2, none⟩ v2).setCell ⟨g, 3, none⟩ v3) :=
  Below.setCell (p := ⟨g, _, none⟩) (Below.setCell (p := ⟨g, _, none⟩) (Below.setCell (p := ⟨g, _, none⟩) (Below.setCell (p := ⟨g, _, none⟩) (h) hg _) hg _) hg _) hg _
theorem heap_set4 {w : World} {g : Nat} {t : TypeId} {u0 u1 u2 u3 v0 v1 v2 v3 : Value} (h : w.heap[g]? = some (.cells #[u0, u1, u2, u3] t (0, 0))) : ((((w.setCell ⟨g, 0, none⟩ v0).setCell ⟨g, 1, none⟩ v1).setCell ⟨g, 2, none⟩ v2).setCell ⟨g, 3, none⟩ v3).heap[g]? = some (.cells #[v0, v1, v2, v3] t (0, 0)) := by
  have h0 := heap_setCell_same _ g 0 _ t v0 h
  simp only [List.setIfInBounds_toArray, List.set_cons_zero, List.set_cons_succ] at h0
  have h1 := heap_setCell_same _ g 1 _ t v1 h0
  simp only [List.setIfInBounds_toArray, List.set_cons_zero, List.set_cons_succ] at h1
  have h2 := heap_setCell_same _ g 2 _ t v2 h1
  simp only [List.setIfInBounds_toArray, List.set_cons_zero, List.set_cons_succ] at h2
  have h3 := heap_setCell_same _ g 3 _ t v3 h2
  simp only [List.setIfInBounds_toArray, List.set_cons_zero, List.set_cons_succ] at h3
  exact h3
theorem gr_set4 {w : World} {g : Nat} {v0 v1 v2 v3 : Value} : w.grownBy ((((w.setCell ⟨g, 0, none⟩ v0).setCell ⟨g, 1, none⟩ v1).setCell ⟨g, 2, none⟩ v2).setCell ⟨g, 3, none⟩ v3) (some g) :=
  gr_set (gr_set (gr_set (gr_set (World.grownBy.refl _ _) _ _) _ _) _ _) _ _
theorem heap_set1 {w : World} {g i : Nat} {t : TypeId} {C : List Value} {v : Value} (h : w.heap[g]? = some (.cells C.toArray t (0, 0))) : (w.setCell ⟨g, i, none⟩ v).heap[g]? = some (.cells (C.set i v).toArray t (0, 0)) := by
  have := heap_setCell_same w g i _ t v h
  simpa only [List.setIfInBounds_toArray] using this
set_option maxRecDepth 20000 in
set_option maxHeartbeats 800000 in
theorem blkClone_any (x : Blk) (a : Option Addr) (c : Nat) (w : World) (hx : Rd w a x.d) (hn : a = none → c = 0) (hl : x.d.length ≤ 140737488351232) :
    Calls Try.prog 31 #[blkV x a c] w fun e w' => ∃ a' c', e = .returned (blkV x a' c') ∧ Own w' w.heap.size (.slice a' x.d.length c') x.d ∧ Below w.heap.size w w' := by
  unfold blkV
  obtain ⟨W0, hW0⟩ : ∃ W0 : World, W0 = (w.alloc (.cells #[.int .u64 x.t, .int .u64 x.n, .int .u64 x.f, .slice a x.d.length c] 37)).alloc (.cells #[.int .u64 0, .int .u64 0, .int .u64 0, .slice none 0 0] 37) := ⟨_, rfl⟩
  have hI : W0.heap[w.heap.size]? = some (.cells #[.int .u64 x.t, .int .u64 x.n, .int .u64 x.f, .slice a x.d.length c] 37 (0, 0)) := by rw [hW0]; exact (two_new w _ _).1
  have hR : W0.heap[w.heap.size + 1]? = some (.cells #[.int .u64 0, .int .u64 0, .int .u64 0, .slice none 0 0] 37 (0, 0)) := by rw [hW0]; exact (two_new w _ _).2
  have hb0 : Below w.heap.size w W0 := by rw [hW0]; exact al (al (Below.refl _ _) _) _
  have hs0 : W0.heap.size = w.heap.size + 2 := by rw [hW0]; simp
  have HN : Hid (a = none → c = 0) := hn
  clear hn
  go_enter Try.func31, Try.ntmps31
  go_wp2_with fail
  rw [← hW0]
  refine (clone_n a _ c x.d rfl W0 (hx.below hb0) HN.out (by omega)).mono ?_
  rintro e w1 ⟨v1, rfl, hown1, hb1⟩
  clear hW0
  obtain ⟨a', c', rfl, -, -, -, -, -⟩ := hown1.val
  have hI1 := box_on hI hb1
  have hR1 := box_on hR hb1
  obtain ⟨p0, p1, p2, p3, f0, f1, f2, f3⟩ := cells4 hI1
  obtain ⟨r0, r1, r2, r3, e0, e1, e2, e3⟩ := cells4 hR1
  have HI1 : Hid _ := hI1
  have HR1 : Hid _ := hR1
  clear hI1 hR1 hI hR
  go_wp2
  obtain ⟨X, hX⟩ : ∃ X : World, X = w1.setCell ⟨w.heap.size, 3, none⟩ (.slice a' x.d.length c') := ⟨_, rfl⟩
  rw [← hX]
  have hbX : Below w.heap.size w X := by rw [hX]; exact Below.setCell (p := ⟨w.heap.size, 3, none⟩) (below_next hb0 hb1) (Nat.le_refl _) _
  have hXR : X.heap[w.heap.size + 1]? = some (.cells #[.int .u64 0, .int .u64 0, .int .u64 0, .slice none 0 0] 37 (0, 0)) := by
    rw [hX, heap_setCell_other _ _ _ _ (by simp)]; exact HR1.out
  have hoX : Own X w.heap.size (.slice a' x.d.length c') x.d := by
    rw [hX]
    exact Own.base (own_setR hown1 w.heap.size 3 _ (by omega)) hb0.size
  have hfin := heap_set4 (v0 := .int .u64 x.t) (v1 := .int .u64 x.n) (v2 := .int .u64 x.f) (v3 := .slice a' x.d.length c') hXR
  refine bodyPost_ret (results_cell_row rfl _ _ (w.heap.size + 1) 37 _ (0, 0) _ rfl hfin Try.underlying37 rfl (by kernel_rfl)) rfl ?_
  refine ⟨a', c', rfl, ?_, below_set4 hbX (Nat.le_succ _)⟩
  have ho2 : Own X W0.heap.size (.slice a' x.d.length c') x.d := by rw [hX]; exact own_setR hown1 w.heap.size 3 _ (by omega)
  have h5 := own_setR (own_setR (own_setR (own_setR ho2 (w.heap.size + 1) 0 (.int .u64 x.t) (by omega)) (w.heap.size + 1) 1 (.int .u64 x.n) (by omega)) (w.heap.size + 1) 2 (.int .u64 x.f) (by omega)) (w.heap.size + 1) 3 (.slice a' x.d.length c') (by omega)
  exact Own.base h5 hb0.size
end Go.Proofs.Ytdpkommmkcmifaa
