import Derived.Test.YtdpkommmkcmifabHopP
import Derived.Test.YtdpkommmkcmifabFind
namespace Go.Proofs.Ytdpkommmkcmifab
set_option linter.unusedVariables false
set_option linter.unusedSimpArgs false
open Go.RowKit
/-- a block in a row of the call's own: its data lie behind the row -/
def BlkC (w : World) (Q o : Nat) (x : Blk) : Prop :=
  ∃ a c, w.cell? ⟨Q, o, none⟩ = some (.int .u64 x.t) ∧ w.cell? ⟨Q, o + 1, none⟩ = some (.int .u64 x.n) ∧ w.cell? ⟨Q, o + 2, none⟩ = some (.int .u64 x.f) ∧ w.cell? ⟨Q, o + 3, none⟩ = some (.slice a x.d.length c) ∧ Rd w a x.d ∧ x.d.length ≤ c ∧ (a = none → c = 0) ∧ ∀ q, a = some q → Q < q.block
theorem BlkC.below {w w' : World} {Q o : Nat} {x : Blk} (h : BlkC w Q o x) (hb : Below w.heap.size w w') : BlkC w' Q o x := by
  obtain ⟨a, c, h0, h1, h2, h3, h4, h5⟩ := h
  exact ⟨a, c, cell_on hb h0, cell_on hb h1, cell_on hb h2, cell_on hb h3, h4.below hb, h5⟩
theorem BlkC.to {w : World} {Q o : Nat} {x : Blk} (h : BlkC w Q o x) : BlkAt w Q o x := by
  obtain ⟨a, c, h0, h1, h2, h3, h4, h5, h6, -⟩ := h
  exact ⟨a, c, h0, h1, h2, h3, h4, h5, h6⟩
theorem BlkC.grown {w w' : World} {Q o r : Nat} {x : Blk} (h : BlkC w Q o x) (hg : w.grownBy w' (some r)) (hr : r < Q) : BlkC w' Q o x := by
  obtain ⟨a, c, h0, h1, h2, h3, h4, h5, h6, h7⟩ := h
  exact ⟨a, c, hg.cell h0 (by simp; omega), hg.cell h1 (by simp; omega), hg.cell h2 (by simp; omega), hg.cell h3 (by simp; omega), h4.grown hg (fun q hq => by have := h7 q hq; simp; omega), h5, h6, h7⟩
theorem blkc_set {w : World} {Q k M c : Nat} {a : Option Addr} {t : TypeId} {C : Array Value} (x : Blk) (hC : w.heap[Q]? = some (.cells C t (0, 0))) (hs : C.size = M * 4) (hk : k < M) (hg : ∀ q, a = some q → Q < q.block) (hr : Rd w a x.d) (hl : x.d.length ≤ c) (hn : a = none → c = 0) :
    (∃ C', ((((w.setCell ⟨Q, k * 4, none⟩ (.int .u64 x.t)).setCell ⟨Q, k * 4 + 1, none⟩ (.int .u64 x.n)).setCell ⟨Q, k * 4 + 2, none⟩ (.int .u64 x.f)).setCell ⟨Q, k * 4 + 3, none⟩ (.slice a x.d.length c)).heap[Q]? = some (.cells C' t (0, 0)) ∧ C'.size = M * 4) ∧ BlkC ((((w.setCell ⟨Q, k * 4, none⟩ (.int .u64 x.t)).setCell ⟨Q, k * 4 + 1, none⟩ (.int .u64 x.n)).setCell ⟨Q, k * 4 + 2, none⟩ (.int .u64 x.f)).setCell ⟨Q, k * 4 + 3, none⟩ (.slice a x.d.length c)) Q (k * 4) x ∧ (∀ j y, j ≠ k → BlkC w Q (j * 4) y → BlkC ((((w.setCell ⟨Q, k * 4, none⟩ (.int .u64 x.t)).setCell ⟨Q, k * 4 + 1, none⟩ (.int .u64 x.n)).setCell ⟨Q, k * 4 + 2, none⟩ (.int .u64 x.f)).setCell ⟨Q, k * 4 + 3, none⟩ (.slice a x.d.length c)) Q (j * 4) y) ∧ w.grownBy ((((w.setCell ⟨Q, k * 4, none⟩ (.int .u64 x.t)).setCell ⟨Q, k * 4 + 1, none⟩ (.int .u64 x.n)).setCell ⟨Q, k * 4 + 2, none⟩ (.int .u64 x.f)).setCell ⟨Q, k * 4 + 3, none⟩ (.slice a x.d.length c)) (some Q) := by
  have h1 := heap_setCell_same w Q (k * 4) C t (.int .u64 x.t) hC
  have h2 := heap_setCell_same _ Q (k * 4 + 1) _ t (.int .u64 x.n) h1
  have h3 := heap_setCell_same _ Q (k * 4 + 2) _ t (.int .u64 x.f) h2
  have h4 := heap_setCell_same _ Q (k * 4 + 3) _ t (.slice a x.d.length c) h3
  have hgr : w.grownBy ((((w.setCell ⟨Q, k * 4, none⟩ (.int .u64 x.t)).setCell ⟨Q, k * 4 + 1, none⟩ (.int .u64 x.n)).setCell ⟨Q, k * 4 + 2, none⟩ (.int .u64 x.f)).setCell ⟨Q, k * 4 + 3, none⟩ (.slice a x.d.length c)) (some Q) := gr_set (gr_set (gr_set (gr_set (World.grownBy.refl _ _) _ _) _ _) _ _) _ _
  refine ⟨⟨_, h4, by simp [hs]⟩, ⟨a, c, ?_, ?_, ?_, ?_, hr.grown hgr (fun q hq => by have := hg q hq; simp; omega), hl, hn, hg⟩, ?_, hgr⟩
  · rw [cell_of_row _ Q _ _ t _ h4, Array.getElem?_setIfInBounds_ne (by omega), Array.getElem?_setIfInBounds_ne (by omega), Array.getElem?_setIfInBounds_ne (by omega), Array.getElem?_setIfInBounds_self_of_lt (by (try simp only [Array.size_setIfInBounds]); omega)]
  · rw [cell_of_row _ Q _ _ t _ h4, Array.getElem?_setIfInBounds_ne (by omega), Array.getElem?_setIfInBounds_ne (by omega), Array.getElem?_setIfInBounds_self_of_lt (by (try simp only [Array.size_setIfInBounds]); omega)]
  · rw [cell_of_row _ Q _ _ t _ h4, Array.getElem?_setIfInBounds_ne (by omega), Array.getElem?_setIfInBounds_self_of_lt (by (try simp only [Array.size_setIfInBounds]); omega)]
  · rw [cell_of_row _ Q _ _ t _ h4, Array.getElem?_setIfInBounds_self_of_lt (by (try simp only [Array.size_setIfInBounds]); omega)]
  · intro j y hj ⟨a', c', c0, c1, c2, c3, hr', hl', hn', hg'⟩
    refine ⟨a', c', ?_, ?_, ?_, ?_, hr'.grown hgr (fun q hq => by have := hg' q hq; simp; omega), hl', hn', hg'⟩
    · rw [← c0, cell_of_row _ Q _ _ t _ h4, cell_of_row _ Q _ _ t _ hC]
      rw [Array.getElem?_setIfInBounds_ne (by omega), Array.getElem?_setIfInBounds_ne (by omega), Array.getElem?_setIfInBounds_ne (by omega), Array.getElem?_setIfInBounds_ne (by omega)]
    · rw [← c1, cell_of_row _ Q _ _ t _ h4, cell_of_row _ Q _ _ t _ hC]
      rw [Array.getElem?_setIfInBounds_ne (by omega), Array.getElem?_setIfInBounds_ne (by omega), Array.getElem?_setIfInBounds_ne (by omega), Array.getElem?_setIfInBounds_ne (by omega)]
    · rw [← c2, cell_of_row _ Q _ _ t _ h4, cell_of_row _ Q _ _ t _ hC]
      rw [Array.getElem?_setIfInBounds_ne (by omega), Array.getElem?_setIfInBounds_ne (by omega), Array.getElem?_setIfInBounds_ne (by omega), Array.getElem?_setIfInBounds_ne (by omega)]
    · rw [← c3, cell_of_row _ Q _ _ t _ h4, cell_of_row _ Q _ _ t _ hC]
      rw [Array.getElem?_setIfInBounds_ne (by omega), Array.getElem?_setIfInBounds_ne (by omega), Array.getElem?_setIfInBounds_ne (by omega), Array.getElem?_setIfInBounds_ne (by omega)]
theorem Rd.grownE {w w' : World} {a : Option Addr} {xs : List UInt8} {r : Nat} (h : Rd w a xs) (hg : w.grownBy w' (some r)) (hne : 0 < xs.length → ∀ q, a = some q → q.block ≠ r) : Rd w' a xs := by
  by_cases hp : 0 < xs.length
  · exact h.grown hg (fun q hq => by have := hne hp q hq; simpa using this)
  · intro h0; exact absurd h0 hp
/-- a block in a row; its data lie elsewhere -/
def BlkE (w : World) (Q o : Nat) (x : Blk) : Prop :=
  ∃ a c, w.cell? ⟨Q, o, none⟩ = some (.int .u64 x.t) ∧ w.cell? ⟨Q, o + 1, none⟩ = some (.int .u64 x.n) ∧ w.cell? ⟨Q, o + 2, none⟩ = some (.int .u64 x.f) ∧ w.cell? ⟨Q, o + 3, none⟩ = some (.slice a x.d.length c) ∧ Rd w a x.d ∧ x.d.length ≤ c ∧ (a = none → c = 0) ∧ (0 < x.d.length → ∀ q, a = some q → q.block ≠ Q)
theorem BlkC.toE {w : World} {Q o : Nat} {x : Blk} (h : BlkC w Q o x) : BlkE w Q o x := by
  obtain ⟨a, c, h0, h1, h2, h3, h4, h5, h6, h7⟩ := h
  exact ⟨a, c, h0, h1, h2, h3, h4, h5, h6, fun _ q hq => by have := h7 q hq; omega⟩
theorem cell_set_ne {w : World} {Q i j : Nat} {v : Value} (h : i ≠ j) : (w.setCell ⟨Q, i, none⟩ v).cell? ⟨Q, j, none⟩ = w.cell? ⟨Q, j, none⟩ := World.cell?_setCell_other _ _ _ _ (fun e => h (congrArg Addr.off e))
/-- a row of blocks, one of whose data is exchanged -/
theorem row_setD {w : World} {b : Bun} {Q i c : Nat} {a : Option Addr} {d : List UInt8} (h : ∀ j (hj : j < b.bl.length), BlkE w Q (j * 4) b.bl[j]) (hi : i < b.bl.length) (hr : Rd w a d) (hl : d.length ≤ c) (hn : a = none → c = 0) (hg : 0 < d.length → ∀ q, a = some q → q.block ≠ Q) :
    RdBlks (w.setCell ⟨Q, i * 4 + 3, none⟩ (.slice a d.length c)) (some ⟨Q, 0, none⟩) (setD b i d).bl := by
  have hgr : w.grownBy (w.setCell ⟨Q, i * 4 + 3, none⟩ (.slice a d.length c)) (some Q) := gr_set (World.grownBy.refl _ _) _ _
  intro _
  refine ⟨Q, 0, rfl, fun j hj => ?_⟩
  have hj' : j < b.bl.length := by rw [setD_len] at hj; exact hj
  rw [setD_at b i d j hj', Nat.zero_add]
  obtain ⟨a', c', c0, c1, c2, c3, hr', hl', hn', hg'⟩ := h j hj'
  by_cases e : i = j
  · subst e
    rw [if_pos rfl]
    refine ⟨a, c, ?_, ?_, ?_, ?_, hr.grownE hgr hg, hl, hn⟩
    · rw [cell_set_ne (by omega)]; exact c0
    · rw [cell_set_ne (by omega)]; exact c1
    · rw [cell_set_ne (by omega)]; exact c2
    · exact World.cell?_setCell_same _ _ _ c3
  · rw [if_neg e]
    refine ⟨a', c', ?_, ?_, ?_, ?_, hr'.grownE hgr hg', hl', hn'⟩
    · rw [cell_set_ne (by omega)]; exact c0
    · rw [cell_set_ne (by omega)]; exact c1
    · rw [cell_set_ne (by omega)]; exact c2
    · rw [cell_set_ne (by omega)]; exact c3
/-- the cells of blocks that can be read -/
theorem rows_of {w : World} {g o : Nat} {l : List Blk} (h : ∀ j (hj : j < l.length), BlkAt w g (o + j * 4) l[j]) :
    ∃ news : List Value, news.length = l.length * 4 ∧ (∀ j u, news[j]? = some u → w.cell? ⟨g, o + j, none⟩ = some u) ∧ (∀ u ∈ news, u.oneCell' = true) ∧
      ∀ j (hj : j < l.length), ∃ a c, news[j * 4]? = some (.int .u64 l[j].t) ∧ news[j * 4 + 1]? = some (.int .u64 l[j].n) ∧ news[j * 4 + 2]? = some (.int .u64 l[j].f) ∧ news[j * 4 + 3]? = some (.slice a l[j].d.length c) ∧ Rd w a l[j].d ∧ l[j].d.length ≤ c ∧ (a = none → c = 0) := by
  have hcell : ∀ j, j < l.length * 4 → ∃ u, w.cell? ⟨g, o + j, none⟩ = some u ∧ u.oneCell' = true := by
    intro j hj
    obtain ⟨a, c, h0, h1, h2, h3, -⟩ := h (j / 4) (by omega)
    have hm : j % 4 = 0 ∨ j % 4 = 1 ∨ j % 4 = 2 ∨ j % 4 = 3 := by omega
    rcases hm with e | e | e | e
    · exact ⟨_, by rw [show o + j = o + j / 4 * 4 by omega]; exact h0, rfl⟩
    · exact ⟨_, by rw [show o + j = o + j / 4 * 4 + 1 by omega]; exact h1, rfl⟩
    · exact ⟨_, by rw [show o + j = o + j / 4 * 4 + 2 by omega]; exact h2, rfl⟩
    · exact ⟨_, by rw [show o + j = o + j / 4 * 4 + 3 by omega]; exact h3, rfl⟩
  refine ⟨(List.range (l.length * 4)).map (fun j => (w.cell? ⟨g, o + j, none⟩).getD undef), by simp, ?_, ?_, ?_⟩
  · intro j u hu
    have hj : j < l.length * 4 := by
      have := (List.getElem?_eq_some_iff.1 hu).1
      simpa using this
    obtain ⟨x, hx, -⟩ := hcell j hj
    simp [hj, hx] at hu
    rw [hx, hu]
  · intro u hu
    simp only [List.mem_map, List.mem_range] at hu
    obtain ⟨j, hj, rfl⟩ := hu
    obtain ⟨x, hx, h1⟩ := hcell j hj
    rw [hx]
    exact h1
  · intro j hj
    obtain ⟨a, c, h0, h1, h2, h3, h4⟩ := h j hj
    refine ⟨a, c, ?_, ?_, ?_, ?_, h4⟩
    · simp [show j * 4 < l.length * 4 by omega, h0]
    · simp [show j * 4 + 1 < l.length * 4 by omega, show o + (j * 4 + 1) = o + j * 4 + 1 by omega, h1]
    · simp [show j * 4 + 2 < l.length * 4 by omega, show o + (j * 4 + 2) = o + j * 4 + 2 by omega, h2]
    · simp [show j * 4 + 3 < l.length * 4 by omega, show o + (j * 4 + 3) = o + j * 4 + 3 by omega, h3]
theorem own_ne {a : Option Addr} {n c r : Nat} (h : ∀ q, a = some q → q.block ≠ r) : (Value.slice a n c).ownBlock = none ∨ (Value.slice a n c).ownBlock ≠ some r := by
  cases a with
  | none => left; rfl
  | some q => right; simpa [Value.ownBlock] using h q rfl
theorem Rd.far {w w' : World} {a : Option Addr} {xs : List UInt8} {r : Nat} (h : Rd w a xs) (hg : w.grownBy w' (some r)) (hr : ∀ i x, w.cell? ⟨r, i, none⟩ ≠ some (.int .u8 x)) : Rd w' a xs := by
  intro hp
  obtain ⟨b, o, e, hc⟩ := h hp
  have hne : b ≠ r := by
    intro e2
    subst e2
    exact hr _ _ (hc 0 hp)
  exact (h.grown hg (fun q hq => by rw [e] at hq; cases hq; simpa using hne)) hp
theorem BunR.far {w w' : World} {b : Bun} {ba : Option Addr} {bc : Nat} {pa : Option Addr} {pc r : Nat} (h : BunR w b ba bc pa pc) (hg : w.grownBy w' (some r)) (h1 : ∀ q, ba = some q → q.block ≠ r) (hr : ∀ i x, w.cell? ⟨r, i, none⟩ ≠ some (.int .u8 x)) : BunR w' b ba bc pa pc := by
  refine ⟨?_, h.lb, h.nb, h.rp.far hg hr, h.lp, h.np, h.ok⟩
  intro hp
  obtain ⟨g, o, e, hc⟩ := h.rb hp
  have hne : some g ≠ some r := by have := h1 _ e; simpa using this
  refine ⟨g, o, e, fun j hj => ?_⟩
  obtain ⟨a, c, c0, c1, c2, c3, hrd, hlc, hn⟩ := hc j hj
  exact ⟨a, c, hg.cell c0 hne, hg.cell c1 hne, hg.cell c2 hne, hg.cell c3 hne, hrd.far hg hr, hlc, hn⟩
theorem no8 {w : World} {r : Nat} {t : TypeId} {n0 n1 n2 n3 n4 n5 n6 n7 n8 n9 : Int} {x0 x1 : Option Addr} {y0 z0 y1 z1 : Nat} (h : w.heap[r]? = some (.cells #[.int .u64 n0, .int .u64 n1, .int .u64 n2, .int .u64 n3, .int .u64 n4, .int .u64 n5, .int .u64 n6, .int .u64 n7, .int .u64 n8, .int .u64 n9, .slice x0 y0 z0, .slice x1 y1 z1] t (0, 0))) : ∀ i x, w.cell? ⟨r, i, none⟩ ≠ some (.int .u8 x) := by
  intro i x e
  rw [cell_of_row w r i _ t _ h] at e
  have := Array.mem_of_getElem? e
  simp at this
end Go.Proofs.Ytdpkommmkcmifab
