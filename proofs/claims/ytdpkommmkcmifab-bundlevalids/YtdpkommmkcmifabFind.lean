import Derived.Test.YtdpkommmkcmifabGivP
import Derived.Test.YtdpkommmkcmifabRdr4
namespace Go.Proofs.Ytdpkommmkcmifab
set_option linter.unusedVariables false
set_option linter.unusedSimpArgs false
open Go.RowKit
theorem cells4 {W : World} {g : Nat} {t : TypeId} {v0 v1 v2 v3 : Value} (h : W.heap[g]? = some (.cells #[v0, v1, v2, v3] t (0, 0))) : W.cell? ⟨g, 0, none⟩ = some v0 ∧ W.cell? ⟨g, 1, none⟩ = some v1 ∧ W.cell? ⟨g, 2, none⟩ = some v2 ∧ W.cell? ⟨g, 3, none⟩ = some v3 ∧ W.frozen? ⟨g, 0, none⟩ = false ∧ W.frozen? ⟨g, 1, none⟩ = false ∧ W.frozen? ⟨g, 2, none⟩ = false ∧ W.frozen? ⟨g, 3, none⟩ = false :=
  ⟨by rw [cell_of_row W g 0 _ t _ h]; rfl, by rw [cell_of_row W g 1 _ t _ h]; rfl, by rw [cell_of_row W g 2 _ t _ h]; rfl, by rw [cell_of_row W g 3 _ t _ h]; rfl, frozen_of_row W g 0 _ t h, frozen_of_row W g 1 _ t h, frozen_of_row W g 2 _ t h, frozen_of_row W g 3 _ t h⟩
theorem below_set4 {W w : World} {g : Nat} {v0 v1 v2 v3 : Value} (h : Below W.heap.size W w) (hg : W.heap.size ≤ g) : Below W.heap.size W ((((w.setCell ⟨g, 0, none⟩ v0).setCell ⟨g, 1, none⟩ v1).setCell ⟨g, 2, none⟩ v2).setCell ⟨g, 3, none⟩ v3) :=
  Below.setCell (p := ⟨g, _, none⟩) (Below.setCell (p := ⟨g, _, none⟩) (Below.setCell (p := ⟨g, _, none⟩) (Below.setCell (p := ⟨g, _, none⟩) (h) hg _) hg _) hg _) hg _
theorem heap_set4 {w : World} {g : Nat} {t : TypeId} {u0 u1 u2 u3 v0 v1 v2 v3 : Value} (h : w.heap[g]? = some (.cells #[u0, u1, u2, u3] t (0, 0))) : ((((w.setCell ⟨g, 0, none⟩ v0).setCell ⟨g, 1, none⟩ v1).setCell ⟨g, 2, none⟩ v2).setCell ⟨g, 3, none⟩ v3).heap[g]? = some (.cells #[v0, v1, v2, v3] t (0, 0)) := by
  have h0 := heap_setCell_same _ g 0 _ t v0 h
  simp only [List.setIfInBounds_toArray, List.set_cons_zero, List.set_cons_succ] at h0
  have h1 := heap_setCell_same _ g 1 _ t v1 h0
  simp only [List.setIfInBounds_toArray, List.set_cons_zero, List.set_cons_succ] at h1
  have h2 := heap_setCell_same _ g 2 _ t v2 h1
  simp only [List.setIfInBounds_toArray, List.set_cons_zero, List.set_cons_succ] at h2
  have h3 := heap_setCell_same _ g 3 _ t v3 h2
  simp only [List.setIfInBounds_toArray, List.set_cons_zero, List.set_cons_succ] at h3
  exact h3
theorem gr_set4 {w : World} {g : Nat} {v0 v1 v2 v3 : Value} : w.grownBy ((((w.setCell ⟨g, 0, none⟩ v0).setCell ⟨g, 1, none⟩ v1).setCell ⟨g, 2, none⟩ v2).setCell ⟨g, 3, none⟩ v3) (some g) :=
  gr_set (gr_set (gr_set (gr_set (World.grownBy.refl _ _) _ _) _ _) _ _) _ _
theorem heap_set1 {w : World} {g i : Nat} {t : TypeId} {C : List Value} {v : Value} (h : w.heap[g]? = some (.cells C.toArray t (0, 0))) : (w.setCell ⟨g, i, none⟩ v).heap[g]? = some (.cells (C.set i v).toArray t (0, 0)) := by
  have := heap_setCell_same w g i _ t v h
  simpa only [List.setIfInBounds_toArray] using this
set_option maxRecDepth 20000 in
set_option maxHeartbeats 800000 in
theorem blkClone_any (x : Blk) (a : Option Addr) (c : Nat) (w : World) (hx : Rd w a x.d) (hn : a = none → c = 0) (hl : x.d.length ≤ 140737488351232) :
    Calls Try.prog 42 #[blkV x a c] w fun e w' => ∃ a' c', e = .returned (blkV x a' c') ∧ Own w' w.heap.size (.slice a' x.d.length c') x.d ∧ Below w.heap.size w w' := by
  unfold blkV
  obtain ⟨W0, hW0⟩ : ∃ W0 : World, W0 = (w.alloc (.cells #[.int .u64 x.t, .int .u64 x.n, .int .u64 x.f, .slice a x.d.length c] 48)).alloc (.cells #[.int .u64 0, .int .u64 0, .int .u64 0, .slice none 0 0] 48) := ⟨_, rfl⟩
  have hI : W0.heap[w.heap.size]? = some (.cells #[.int .u64 x.t, .int .u64 x.n, .int .u64 x.f, .slice a x.d.length c] 48 (0, 0)) := by rw [hW0]; exact (two_new w _ _).1
  have hR : W0.heap[w.heap.size + 1]? = some (.cells #[.int .u64 0, .int .u64 0, .int .u64 0, .slice none 0 0] 48 (0, 0)) := by rw [hW0]; exact (two_new w _ _).2
  have hb0 : Below w.heap.size w W0 := by rw [hW0]; exact al (al (Below.refl _ _) _) _
  have hs0 : W0.heap.size = w.heap.size + 2 := by rw [hW0]; simp
  have HN : Hid (a = none → c = 0) := hn
  clear hn
  go_enter Try.func42, Try.ntmps42
  go_wp2_with fail
  rw [← hW0]
  refine (clone_n a _ c x.d rfl W0 (hx.below hb0) HN.out (by omega)).mono ?_
  rintro e w1 ⟨v1, rfl, hown1, hb1⟩
  clear hW0
  obtain ⟨a', c', rfl, -, -, -, -, -⟩ := hown1.val
  have hI1 := box_on hI hb1
  have hR1 := box_on hR hb1
  obtain ⟨p0, p1, p2, p3, f0, f1, f2, f3⟩ := cells4 hI1
  obtain ⟨r0, r1, r2, r3, e0, e1, e2, e3⟩ := cells4 hR1
  have HI1 : Hid _ := hI1
  have HR1 : Hid _ := hR1
  clear hI1 hR1 hI hR
  go_wp2
  obtain ⟨X, hX⟩ : ∃ X : World, X = w1.setCell ⟨w.heap.size, 3, none⟩ (.slice a' x.d.length c') := ⟨_, rfl⟩
  rw [← hX]
  have hbX : Below w.heap.size w X := by rw [hX]; exact Below.setCell (p := ⟨w.heap.size, 3, none⟩) (below_next hb0 hb1) (Nat.le_refl _) _
  have hXR : X.heap[w.heap.size + 1]? = some (.cells #[.int .u64 0, .int .u64 0, .int .u64 0, .slice none 0 0] 48 (0, 0)) := by
    rw [hX, heap_setCell_other _ _ _ _ (by simp)]; exact HR1.out
  have hoX : Own X w.heap.size (.slice a' x.d.length c') x.d := by
    rw [hX]
    exact Own.base (own_setR hown1 w.heap.size 3 _ (by omega)) hb0.size
  have hfin := heap_set4 (v0 := .int .u64 x.t) (v1 := .int .u64 x.n) (v2 := .int .u64 x.f) (v3 := .slice a' x.d.length c') hXR
  refine bodyPost_ret (results_cell_row rfl _ _ (w.heap.size + 1) 48 _ (0, 0) _ rfl hfin Try.underlying48 rfl (by kernel_rfl)) rfl ?_
  refine ⟨a', c', rfl, ?_, below_set4 hbX (Nat.le_succ _)⟩
  have ho2 : Own X W0.heap.size (.slice a' x.d.length c') x.d := by rw [hX]; exact own_setR hown1 w.heap.size 3 _ (by omega)
  have h5 := own_setR (own_setR (own_setR (own_setR ho2 (w.heap.size + 1) 0 (.int .u64 x.t) (by omega)) (w.heap.size + 1) 1 (.int .u64 x.n) (by omega)) (w.heap.size + 1) 2 (.int .u64 x.f) (by omega)) (w.heap.size + 1) 3 (.slice a' x.d.length c') (by omega)
  exact Own.base h5 hb0.size
end Go.Proofs.Ytdpkommmkcmifab
