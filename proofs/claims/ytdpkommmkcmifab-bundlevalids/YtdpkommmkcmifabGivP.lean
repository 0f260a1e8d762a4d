import Derived.Test.YtdpkommmkcmifabIs
import Derived.Test.YtdpkommmkcmifabRdr3
import Derived.Laws.Rows
import Derived.Laws.ResultCell
namespace Go.Proofs.Ytdpkommmkcmifab
set_option linter.unusedVariables false
set_option linter.unusedSimpArgs false
open Go.RowKit
theorem box_cell {w : World} {g : Nat} {L : List Value} {t : TypeId} (h : w.heap[g]? = some (.cells L.toArray t (0, 0))) (i : Nat) (v : Value) (hi : L[i]? = some v) : w.cell? ⟨g, i, none⟩ = some v := by
  rw [cell_of_row w g i _ t _ h]; simpa using hi
theorem box_froz {w : World} {g : Nat} {L : List Value} {t : TypeId} (h : w.heap[g]? = some (.cells L.toArray t (0, 0))) (i : Nat) : w.frozen? ⟨g, i, none⟩ = false := frozen_of_row w g i _ t h
theorem box_on {w w' : World} {g : Nat} {c : Obj} (h : w.heap[g]? = some c) (hb : Below w.heap.size w w') : w'.heap[g]? = some c := (hb.block g (Array.getElem?_eq_some_iff.1 h).1).trans h
/-- a block whose data have marks behind them -/
def BlkG (w : World) (b o : Nat) (x : Blk) : Prop :=
  ∃ g, b < g ∧ w.cell? ⟨b, o, none⟩ = some (.int .u64 x.t) ∧ w.cell? ⟨b, o + 1, none⟩ = some (.int .u64 x.n) ∧ w.cell? ⟨b, o + 2, none⟩ = some (.int .u64 x.f) ∧ w.cell? ⟨b, o + 3, none⟩ = some (.slice (some ⟨g, 0, none⟩) x.d.length (x.d.length + 4)) ∧ Rd w (some ⟨g, 0, none⟩) (x.d ++ m4)
/-- a bundle as it is handed in -/
structure GivR (w : World) (b : Bun) (ba pa : Nat) : Prop where
  rp : Rd w (some ⟨pa, 0, none⟩) (b.py ++ m4)
  bl : ∀ j (h : j < b.bl.length), BlkG w ba (j * 4) b.bl[j]
  m77 : w.cell? ⟨ba, b.bl.length * 4 + 2, none⟩ = some (.int .u64 77)
  m78 : w.cell? ⟨ba, (b.bl.length + 1) * 4 + 2, none⟩ = some (.int .u64 78)
  ok : b.ok
theorem BlkG.below {w w' : World} {b o : Nat} {x : Blk} (h : BlkG w b o x) (hb : Below w.heap.size w w') : BlkG w' b o x := by
  obtain ⟨g, hg, h0, h1, h2, h3, h4⟩ := h
  exact ⟨g, hg, cell_on hb h0, cell_on hb h1, cell_on hb h2, cell_on hb h3, h4.below hb⟩
theorem GivR.below {w w' : World} {b : Bun} {ba pa : Nat} (h : GivR w b ba pa) (hb : Below w.heap.size w w') : GivR w' b ba pa :=
  ⟨h.rp.below hb, fun j hj => (h.bl j hj).below hb, cell_on hb h.m77, cell_on hb h.m78, h.ok⟩
theorem rd_m4 {w : World} {g : Nat} {xs : List UInt8} (h : Rd w (some ⟨g, 0, none⟩) (xs ++ m4)) : Rd w (some ⟨g, 0, none⟩) xs := by
  have := h.take xs.length
  rwa [List.take_left' rfl] at this
theorem GivR.toR {w : World} {b : Bun} {ba pa : Nat} (h : GivR w b ba pa) : BunR w b (some ⟨ba, 0, none⟩) (b.bl.length + 2) (some ⟨pa, 0, none⟩) (b.py.length + 4) :=
  ⟨fun _ => ⟨ba, 0, rfl, fun j hj => by
      obtain ⟨g, -, h0, h1, h2, h3, h4⟩ := h.bl j hj
      rw [Nat.zero_add]
      exact ⟨_, _, h0, h1, h2, h3, rd_m4 h4, by omega, fun e => by cases e⟩⟩, by omega, fun e => (by cases e), rd_m4 h.rp, by omega, fun e => (by cases e), h.ok⟩
theorem box12 {W : World} {g : Nat} {t : TypeId} {v0 v1 v2 v3 v4 v5 v6 v7 v8 v9 v10 v11 : Value} (h : W.heap[g]? = some (.cells #[v0, v1, v2, v3, v4, v5, v6, v7, v8, v9, v10, v11] t (0, 0))) : (∀ u, Below W.heap.size W u → u.cell? ⟨g, 0, none⟩ = some v0) ∧ (∀ u, Below W.heap.size W u → u.cell? ⟨g, 1, none⟩ = some v1) ∧ (∀ u, Below W.heap.size W u → u.cell? ⟨g, 2, none⟩ = some v2) ∧ (∀ u, Below W.heap.size W u → u.cell? ⟨g, 3, none⟩ = some v3) ∧ (∀ u, Below W.heap.size W u → u.cell? ⟨g, 4, none⟩ = some v4) ∧ (∀ u, Below W.heap.size W u → u.cell? ⟨g, 5, none⟩ = some v5) ∧ (∀ u, Below W.heap.size W u → u.cell? ⟨g, 6, none⟩ = some v6) ∧ (∀ u, Below W.heap.size W u → u.cell? ⟨g, 7, none⟩ = some v7) ∧ (∀ u, Below W.heap.size W u → u.cell? ⟨g, 8, none⟩ = some v8) ∧ (∀ u, Below W.heap.size W u → u.cell? ⟨g, 9, none⟩ = some v9) ∧ (∀ u, Below W.heap.size W u → u.cell? ⟨g, 10, none⟩ = some v10) ∧ (∀ u, Below W.heap.size W u → u.cell? ⟨g, 11, none⟩ = some v11) :=
  ⟨fun u hu => by rw [cell_of_row u g 0 _ t _ (box_on h hu)]; rfl, fun u hu => by rw [cell_of_row u g 1 _ t _ (box_on h hu)]; rfl, fun u hu => by rw [cell_of_row u g 2 _ t _ (box_on h hu)]; rfl, fun u hu => by rw [cell_of_row u g 3 _ t _ (box_on h hu)]; rfl, fun u hu => by rw [cell_of_row u g 4 _ t _ (box_on h hu)]; rfl, fun u hu => by rw [cell_of_row u g 5 _ t _ (box_on h hu)]; rfl, fun u hu => by rw [cell_of_row u g 6 _ t _ (box_on h hu)]; rfl, fun u hu => by rw [cell_of_row u g 7 _ t _ (box_on h hu)]; rfl, fun u hu => by rw [cell_of_row u g 8 _ t _ (box_on h hu)]; rfl, fun u hu => by rw [cell_of_row u g 9 _ t _ (box_on h hu)]; rfl, fun u hu => by rw [cell_of_row u g 10 _ t _ (box_on h hu)]; rfl, fun u hu => by rw [cell_of_row u g 11 _ t _ (box_on h hu)]; rfl⟩
theorem cells12 {W : World} {g : Nat} {t : TypeId} {v0 v1 v2 v3 v4 v5 v6 v7 v8 v9 v10 v11 : Value} (h : W.heap[g]? = some (.cells #[v0, v1, v2, v3, v4, v5, v6, v7, v8, v9, v10, v11] t (0, 0))) : W.cell? ⟨g, 0, none⟩ = some v0 ∧ W.cell? ⟨g, 1, none⟩ = some v1 ∧ W.cell? ⟨g, 2, none⟩ = some v2 ∧ W.cell? ⟨g, 3, none⟩ = some v3 ∧ W.cell? ⟨g, 4, none⟩ = some v4 ∧ W.cell? ⟨g, 5, none⟩ = some v5 ∧ W.cell? ⟨g, 6, none⟩ = some v6 ∧ W.cell? ⟨g, 7, none⟩ = some v7 ∧ W.cell? ⟨g, 8, none⟩ = some v8 ∧ W.cell? ⟨g, 9, none⟩ = some v9 ∧ W.cell? ⟨g, 10, none⟩ = some v10 ∧ W.cell? ⟨g, 11, none⟩ = some v11 ∧ W.frozen? ⟨g, 0, none⟩ = false ∧ W.frozen? ⟨g, 1, none⟩ = false ∧ W.frozen? ⟨g, 2, none⟩ = false ∧ W.frozen? ⟨g, 3, none⟩ = false ∧ W.frozen? ⟨g, 4, none⟩ = false ∧ W.frozen? ⟨g, 5, none⟩ = false ∧ W.frozen? ⟨g, 6, none⟩ = false ∧ W.frozen? ⟨g, 7, none⟩ = false ∧ W.frozen? ⟨g, 8, none⟩ = false ∧ W.frozen? ⟨g, 9, none⟩ = false ∧ W.frozen? ⟨g, 10, none⟩ = false ∧ W.frozen? ⟨g, 11, none⟩ = false :=
  ⟨by rw [cell_of_row W g 0 _ t _ h]; rfl, by rw [cell_of_row W g 1 _ t _ h]; rfl, by rw [cell_of_row W g 2 _ t _ h]; rfl, by rw [cell_of_row W g 3 _ t _ h]; rfl, by rw [cell_of_row W g 4 _ t _ h]; rfl, by rw [cell_of_row W g 5 _ t _ h]; rfl, by rw [cell_of_row W g 6 _ t _ h]; rfl, by rw [cell_of_row W g 7 _ t _ h]; rfl, by rw [cell_of_row W g 8 _ t _ h]; rfl, by rw [cell_of_row W g 9 _ t _ h]; rfl, by rw [cell_of_row W g 10 _ t _ h]; rfl, by rw [cell_of_row W g 11 _ t _ h]; rfl, frozen_of_row W g 0 _ t h, frozen_of_row W g 1 _ t h, frozen_of_row W g 2 _ t h, frozen_of_row W g 3 _ t h, frozen_of_row W g 4 _ t h, frozen_of_row W g 5 _ t h, frozen_of_row W g 6 _ t h, frozen_of_row W g 7 _ t h, frozen_of_row W g 8 _ t h, frozen_of_row W g 9 _ t h, frozen_of_row W g 10 _ t h, frozen_of_row W g 11 _ t h⟩
theorem two_new (w : World) (o1 o2 : Obj) : ((w.alloc o1).alloc o2).heap[w.heap.size]? = some o1 ∧ ((w.alloc o1).alloc o2).heap[w.heap.size + 1]? = some o2 :=
  ⟨box_on (heap_alloc_new w o1) (al (Below.refl _ _) _), by have := heap_alloc_new (w.alloc o1) o2; simpa using this⟩
theorem infoB : (Try.prog.info? 48).map (fun i => (i.zero, i.size, i.bytes)) = some (some (.agg #[.int .u64 0, .int .u64 0, .int .u64 0, .slice none 0 0]), 4, 48) := by kernel_rfl
theorem below_set12 {W w : World} {g : Nat} {v0 v1 v2 v3 v4 v5 v6 v7 v8 v9 v10 v11 : Value} (h : Below W.heap.size W w) (hg : W.heap.size ≤ g) : Below W.heap.size W ((((((((((((w.setCell ⟨g, 0, none⟩ v0).setCell ⟨g, 1, none⟩ v1).setCell ⟨g, 2, none⟩ v2).setCell ⟨g, 3, none⟩ v3).setCell ⟨g, 4, none⟩ v4).setCell ⟨g, 5, none⟩ v5).setCell ⟨g, 6, none⟩ v6).setCell ⟨g, 7, none⟩ v7).setCell ⟨g, 8, none⟩ v8).setCell ⟨g, 9, none⟩ v9).setCell ⟨g, 10, none⟩ v10).setCell ⟨g, 11, none⟩ v11) :=
  Below.setCell (p := ⟨g, _, none⟩) (Below.setCell (p := ⟨g, _, none⟩) (Below.setCell (p := ⟨g, _, none⟩) (Below.setCell (p := ⟨g, _, none⟩) (Below.setCell (p := ⟨g, _, none⟩) (Below.setCell (p := ⟨g, _, none⟩) (Below.setCell (p := ⟨g, _, none⟩) (Below.setCell (p := ⟨g, _, none⟩) (Below.setCell (p := ⟨g, _, none⟩) (Below.setCell (p := ⟨g, _, none⟩) (Below.setCell (p := ⟨g, _, none⟩) (Below.setCell (p := ⟨g, _, none⟩) (h) hg _) hg _) hg _) hg _) hg _) hg _) hg _) hg _) hg _) hg _) hg _) hg _
theorem heap_set12 {w : World} {g : Nat} {t : TypeId} {u0 u1 u2 u3 u4 u5 u6 u7 u8 u9 u10 u11 v0 v1 v2 v3 v4 v5 v6 v7 v8 v9 v10 v11 : Value} (h : w.heap[g]? = some (.cells #[u0, u1, u2, u3, u4, u5, u6, u7, u8, u9, u10, u11] t (0, 0))) : ((((((((((((w.setCell ⟨g, 0, none⟩ v0).setCell ⟨g, 1, none⟩ v1).setCell ⟨g, 2, none⟩ v2).setCell ⟨g, 3, none⟩ v3).setCell ⟨g, 4, none⟩ v4).setCell ⟨g, 5, none⟩ v5).setCell ⟨g, 6, none⟩ v6).setCell ⟨g, 7, none⟩ v7).setCell ⟨g, 8, none⟩ v8).setCell ⟨g, 9, none⟩ v9).setCell ⟨g, 10, none⟩ v10).setCell ⟨g, 11, none⟩ v11).heap[g]? = some (.cells #[v0, v1, v2, v3, v4, v5, v6, v7, v8, v9, v10, v11] t (0, 0)) := by
  have h0 := heap_setCell_same _ g 0 _ t v0 h
  simp only [List.setIfInBounds_toArray, List.set_cons_zero, List.set_cons_succ] at h0
  have h1 := heap_setCell_same _ g 1 _ t v1 h0
  simp only [List.setIfInBounds_toArray, List.set_cons_zero, List.set_cons_succ] at h1
  have h2 := heap_setCell_same _ g 2 _ t v2 h1
  simp only [List.setIfInBounds_toArray, List.set_cons_zero, List.set_cons_succ] at h2
  have h3 := heap_setCell_same _ g 3 _ t v3 h2
  simp only [List.setIfInBounds_toArray, List.set_cons_zero, List.set_cons_succ] at h3
  have h4 := heap_setCell_same _ g 4 _ t v4 h3
  simp only [List.setIfInBounds_toArray, List.set_cons_zero, List.set_cons_succ] at h4
  have h5 := heap_setCell_same _ g 5 _ t v5 h4
  simp only [List.setIfInBounds_toArray, List.set_cons_zero, List.set_cons_succ] at h5
  have h6 := heap_setCell_same _ g 6 _ t v6 h5
  simp only [List.setIfInBounds_toArray, List.set_cons_zero, List.set_cons_succ] at h6
  have h7 := heap_setCell_same _ g 7 _ t v7 h6
  simp only [List.setIfInBounds_toArray, List.set_cons_zero, List.set_cons_succ] at h7
  have h8 := heap_setCell_same _ g 8 _ t v8 h7
  simp only [List.setIfInBounds_toArray, List.set_cons_zero, List.set_cons_succ] at h8
  have h9 := heap_setCell_same _ g 9 _ t v9 h8
  simp only [List.setIfInBounds_toArray, List.set_cons_zero, List.set_cons_succ] at h9
  have h10 := heap_setCell_same _ g 10 _ t v10 h9
  simp only [List.setIfInBounds_toArray, List.set_cons_zero, List.set_cons_succ] at h10
  have h11 := heap_setCell_same _ g 11 _ t v11 h10
  simp only [List.setIfInBounds_toArray, List.set_cons_zero, List.set_cons_succ] at h11
  exact h11
theorem gr_set12 {w : World} {g : Nat} {v0 v1 v2 v3 v4 v5 v6 v7 v8 v9 v10 v11 : Value} : w.grownBy ((((((((((((w.setCell ⟨g, 0, none⟩ v0).setCell ⟨g, 1, none⟩ v1).setCell ⟨g, 2, none⟩ v2).setCell ⟨g, 3, none⟩ v3).setCell ⟨g, 4, none⟩ v4).setCell ⟨g, 5, none⟩ v5).setCell ⟨g, 6, none⟩ v6).setCell ⟨g, 7, none⟩ v7).setCell ⟨g, 8, none⟩ v8).setCell ⟨g, 9, none⟩ v9).setCell ⟨g, 10, none⟩ v10).setCell ⟨g, 11, none⟩ v11) (some g) :=
  gr_set (gr_set (gr_set (gr_set (gr_set (gr_set (gr_set (gr_set (gr_set (gr_set (gr_set (gr_set (World.grownBy.refl _ _) _ _) _ _) _ _) _ _) _ _) _ _) _ _) _ _) _ _) _ _) _ _) _ _
theorem blk_set {w : World} {Q k M g : Nat} {t : TypeId} {C : Array Value} (x : Blk) (hC : w.heap[Q]? = some (.cells C t (0, 0))) (hs : C.size = M * 4) (hk : k < M) (hg : Q < g) (hr : Rd w (some ⟨g, 0, none⟩) (x.d ++ m4)) :
    (∃ C', ((((w.setCell ⟨Q, k * 4, none⟩ (.int .u64 x.t)).setCell ⟨Q, k * 4 + 1, none⟩ (.int .u64 x.n)).setCell ⟨Q, k * 4 + 2, none⟩ (.int .u64 x.f)).setCell ⟨Q, k * 4 + 3, none⟩ (.slice (some ⟨g, 0, none⟩) x.d.length (x.d.length + 4))).heap[Q]? = some (.cells C' t (0, 0)) ∧ C'.size = M * 4) ∧ BlkG ((((w.setCell ⟨Q, k * 4, none⟩ (.int .u64 x.t)).setCell ⟨Q, k * 4 + 1, none⟩ (.int .u64 x.n)).setCell ⟨Q, k * 4 + 2, none⟩ (.int .u64 x.f)).setCell ⟨Q, k * 4 + 3, none⟩ (.slice (some ⟨g, 0, none⟩) x.d.length (x.d.length + 4))) Q (k * 4) x ∧ (∀ j y, j ≠ k → BlkG w Q (j * 4) y → BlkG ((((w.setCell ⟨Q, k * 4, none⟩ (.int .u64 x.t)).setCell ⟨Q, k * 4 + 1, none⟩ (.int .u64 x.n)).setCell ⟨Q, k * 4 + 2, none⟩ (.int .u64 x.f)).setCell ⟨Q, k * 4 + 3, none⟩ (.slice (some ⟨g, 0, none⟩) x.d.length (x.d.length + 4))) Q (j * 4) y) ∧ w.grownBy ((((w.setCell ⟨Q, k * 4, none⟩ (.int .u64 x.t)).setCell ⟨Q, k * 4 + 1, none⟩ (.int .u64 x.n)).setCell ⟨Q, k * 4 + 2, none⟩ (.int .u64 x.f)).setCell ⟨Q, k * 4 + 3, none⟩ (.slice (some ⟨g, 0, none⟩) x.d.length (x.d.length + 4))) (some Q) := by
  have h1 := heap_setCell_same w Q (k * 4) C t (.int .u64 x.t) hC
  have h2 := heap_setCell_same _ Q (k * 4 + 1) _ t (.int .u64 x.n) h1
  have h3 := heap_setCell_same _ Q (k * 4 + 2) _ t (.int .u64 x.f) h2
  have h4 := heap_setCell_same _ Q (k * 4 + 3) _ t (.slice (some ⟨g, 0, none⟩) x.d.length (x.d.length + 4)) h3
  have hgr : w.grownBy ((((w.setCell ⟨Q, k * 4, none⟩ (.int .u64 x.t)).setCell ⟨Q, k * 4 + 1, none⟩ (.int .u64 x.n)).setCell ⟨Q, k * 4 + 2, none⟩ (.int .u64 x.f)).setCell ⟨Q, k * 4 + 3, none⟩ (.slice (some ⟨g, 0, none⟩) x.d.length (x.d.length + 4))) (some Q) := gr_set (gr_set (gr_set (gr_set (World.grownBy.refl _ _) _ _) _ _) _ _) _ _
  refine ⟨⟨_, h4, by simp [hs]⟩, ⟨g, hg, ?_, ?_, ?_, ?_, hr.grown hgr (fun a ha => by cases ha; simp; omega)⟩, ?_, hgr⟩
  · rw [cell_of_row _ Q _ _ t _ h4, Array.getElem?_setIfInBounds_ne (by omega), Array.getElem?_setIfInBounds_ne (by omega), Array.getElem?_setIfInBounds_ne (by omega), Array.getElem?_setIfInBounds_self_of_lt (by (try simp only [Array.size_setIfInBounds]); omega)]
  · rw [cell_of_row _ Q _ _ t _ h4, Array.getElem?_setIfInBounds_ne (by omega), Array.getElem?_setIfInBounds_ne (by omega), Array.getElem?_setIfInBounds_self_of_lt (by (try simp only [Array.size_setIfInBounds]); omega)]
  · rw [cell_of_row _ Q _ _ t _ h4, Array.getElem?_setIfInBounds_ne (by omega), Array.getElem?_setIfInBounds_self_of_lt (by (try simp only [Array.size_setIfInBounds]); omega)]
  · rw [cell_of_row _ Q _ _ t _ h4, Array.getElem?_setIfInBounds_self_of_lt (by (try simp only [Array.size_setIfInBounds]); omega)]
  · intro j y hj ⟨g', hg', c0, c1, c2, c3, hr'⟩
    refine ⟨g', hg', ?_, ?_, ?_, ?_, hr'.grown hgr (fun a ha => by cases ha; simp; omega)⟩
    · rw [← c0, cell_of_row _ Q _ _ t _ h4, cell_of_row _ Q _ _ t _ hC]
      rw [Array.getElem?_setIfInBounds_ne (by omega), Array.getElem?_setIfInBounds_ne (by omega), Array.getElem?_setIfInBounds_ne (by omega), Array.getElem?_setIfInBounds_ne (by omega)]
    · rw [← c1, cell_of_row _ Q _ _ t _ h4, cell_of_row _ Q _ _ t _ hC]
      rw [Array.getElem?_setIfInBounds_ne (by omega), Array.getElem?_setIfInBounds_ne (by omega), Array.getElem?_setIfInBounds_ne (by omega), Array.getElem?_setIfInBounds_ne (by omega)]
    · rw [← c2, cell_of_row _ Q _ _ t _ h4, cell_of_row _ Q _ _ t _ hC]
      rw [Array.getElem?_setIfInBounds_ne (by omega), Array.getElem?_setIfInBounds_ne (by omega), Array.getElem?_setIfInBounds_ne (by omega), Array.getElem?_setIfInBounds_ne (by omega)]
    · rw [← c3, cell_of_row _ Q _ _ t _ h4, cell_of_row _ Q _ _ t _ hC]
      rw [Array.getElem?_setIfInBounds_ne (by omega), Array.getElem?_setIfInBounds_ne (by omega), Array.getElem?_setIfInBounds_ne (by omega), Array.getElem?_setIfInBounds_ne (by omega)]
theorem gr_drw {w : World} (row : Option Nat) : w.grownBy w.drew row := gr_below (World.grownBy.refl _ _) (Below.refl _ _).drew
theorem box4 {W : World} {g Q : Nat} {t : TypeId} {v0 v1 v2 v3 : Value} (h : W.heap[g]? = some (.cells #[v0, v1, v2, v3] t (0, 0))) (hne : g ≠ Q) : (∀ u, W.grownBy u (some Q) → u.cell? ⟨g, 0, none⟩ = some v0) ∧ (∀ u, W.grownBy u (some Q) → u.cell? ⟨g, 1, none⟩ = some v1) ∧ (∀ u, W.grownBy u (some Q) → u.cell? ⟨g, 2, none⟩ = some v2) ∧ (∀ u, W.grownBy u (some Q) → u.cell? ⟨g, 3, none⟩ = some v3) := by
  have hlt : g < W.heap.size := (Array.getElem?_eq_some_iff.1 h).1
  refine ⟨fun u hu => ?_, fun u hu => ?_, fun u hu => ?_, fun u hu => ?_⟩ <;> (rw [cell_of_row u g _ _ t _ ((hu.block g hlt (by simp; omega)).trans h)]; rfl)
/-- the cells of a row of blocks -/
theorem row4 {w : World} {Q M k : Nat} {t : TypeId} {C : Array Value} (h : w.heap[Q]? = some (.cells C t (0, 0))) (hs : C.size = M * 4) (hk : k < M) : ∃ u0 u1 u2 u3, w.cell? ⟨Q, k * 4, none⟩ = some u0 ∧ w.cell? ⟨Q, k * 4 + 1, none⟩ = some u1 ∧ w.cell? ⟨Q, k * 4 + 2, none⟩ = some u2 ∧ w.cell? ⟨Q, k * 4 + 3, none⟩ = some u3 ∧ w.frozen? ⟨Q, k * 4, none⟩ = false ∧ w.frozen? ⟨Q, k * 4 + 1, none⟩ = false ∧ w.frozen? ⟨Q, k * 4 + 2, none⟩ = false ∧ w.frozen? ⟨Q, k * 4 + 3, none⟩ = false := by
  refine ⟨C[k * 4]'(by omega), C[k * 4 + 1]'(by omega), C[k * 4 + 2]'(by omega), C[k * 4 + 3]'(by omega), ?_, ?_, ?_, ?_, frozen_of_row w Q _ _ t h, frozen_of_row w Q _ _ t h, frozen_of_row w Q _ _ t h, frozen_of_row w Q _ _ t h⟩ <;> (rw [cell_of_row w Q _ _ t _ h, Array.getElem?_eq_getElem])
theorem cell_same {w w' : World} {g : Nat} (e : w'.heap[g]? = w.heap[g]?) (i : Nat) : w'.cell? ⟨g, i, none⟩ = w.cell? ⟨g, i, none⟩ := by simp [World.cell?, e]
theorem Rd.same {w w' : World} {g : Nat} {o : Nat} {xs : List UInt8} (h : Rd w (some ⟨g, o, none⟩) xs) (e : w'.heap[g]? = w.heap[g]?) : Rd w' (some ⟨g, o, none⟩) xs := by
  intro hp
  obtain ⟨b, o', e', hc⟩ := h hp
  cases e'
  exact ⟨g, o, rfl, fun i hi => (cell_same e _).trans (hc i hi)⟩
theorem BlkG.move {w w' : World} {b o : Nat} {x : Blk} (h : BlkG w b o x) (hc : ∀ i, i < 4 → w'.cell? ⟨b, o + i, none⟩ = w.cell? ⟨b, o + i, none⟩) (hr : ∀ g, b < g → w'.heap[g]? = w.heap[g]?) : BlkG w' b o x := by
  obtain ⟨g, hg, h0, h1, h2, h3, h4⟩ := h
  exact ⟨g, hg, (hc 0 (by omega)).trans h0, (hc 1 (by omega)).trans h1, (hc 2 (by omega)).trans h2, (hc 3 (by omega)).trans h3, h4.same (hr g hg)⟩
theorem results_ct {P : Program} {fn : Func} {p u : Tmp} {ty : TypeId} (h : fn.results = #[.cell p ty, .tmp u]) (tmps : Array Value) (w : World) (g : Nat) (t : TypeId) (cs : Array Value) (fr : Nat × Nat) (d : TypeDesc)
    (hp : tmps.getD p undef = .pointer (some ⟨g, 0, none⟩)) (hg : w.heap[g]? = some (.cells cs t fr))
    (hu : P.underlying ty = some d) (hd : (match d with | .struct _ | .array _ _ => true | _ => false) = true) (hi : (P.info? ty).map (·.size) = some cs.size) :
    (results fn tmps).run P w = .ok (.tuple #[.agg cs, tmps.getD u undef]) w := by
  rw [results_cell_tmp h]
  rw [hp]
  simp [asAddr, run_loadVar_row w g t ty cs fr d hg hu hd hi, Result.andThen]
end Go.Proofs.Ytdpkommmkcmifab
