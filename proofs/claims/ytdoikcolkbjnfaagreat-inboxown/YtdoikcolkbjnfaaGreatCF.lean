import Derived.Test.YtdoikcolkbjnfaaGreatCC
import Derived.Laws.ResultCell
namespace Go.Proofs.YtdoikcolkbjnfaaGreat
set_option linter.unusedVariables false
set_option linter.unusedSimpArgs false
open Go.RowKit
section
variable {w w' : World}
theorem set3_blk (w : World) (g b : Nat) (x y z : Value) (h : b ≠ g) : (((w.setCell ⟨g, 0, none⟩ x).setCell ⟨g, 1, none⟩ y).setCell ⟨g, 2, none⟩ z).heap[b]? = w.heap[b]? := by
  rw [heap_setCell_other _ _ _ _ h, heap_setCell_other _ _ _ _ h, heap_setCell_other _ _ _ _ h]
theorem set3_same (w : World) (g : Nat) (x y z a b c : Value) (t : TypeId) (h : w.heap[g]? = some (.cells #[a, b, c] t (0, 0))) : (((w.setCell ⟨g, 0, none⟩ x).setCell ⟨g, 1, none⟩ y).setCell ⟨g, 2, none⟩ z).heap[g]? = some (.cells #[x, y, z] t (0, 0)) := by
  have h1 : (w.setCell ⟨g, 0, none⟩ x).heap[g]? = some (.cells #[x, b, c] t (0, 0)) := (heap_setCell_same _ _ _ _ _ _ h).trans rfl
  have h2 : ((w.setCell ⟨g, 0, none⟩ x).setCell ⟨g, 1, none⟩ y).heap[g]? = some (.cells #[x, y, c] t (0, 0)) := (heap_setCell_same _ _ _ _ _ _ h1).trans rfl
  exact (heap_setCell_same _ _ _ _ _ _ h2).trans rfl
theorem set3_below {B : Nat} {w0 w : World} (h : Below B w0 w) (g : Nat) (x y z : Value) (hg : B ≤ g) : Below B w0 (((w.setCell ⟨g, 0, none⟩ x).setCell ⟨g, 1, none⟩ y).setCell ⟨g, 2, none⟩ z) := by
  refine ⟨h.os, h.tape, h.output, by simpa using h.size, fun k hk => ?_⟩
  rw [set3_blk _ _ _ _ _ _ (by omega)]
  exact h.block k hk
theorem cells3 {w : World} {g : Nat} {a b c : Value} {t : TypeId} {fr : Nat × Nat} (h : w.heap[g]? = some (.cells #[a, b, c] t fr)) : w.cell? ⟨g, 0, none⟩ = some a ∧ w.cell? ⟨g, 1, none⟩ = some b ∧ w.cell? ⟨g, 2, none⟩ = some c :=
  ⟨by rw [cell_of_row _ _ _ _ _ _ h]; rfl, by rw [cell_of_row _ _ _ _ _ _ h]; rfl, by rw [cell_of_row _ _ _ _ _ _ h]; rfl⟩
theorem fz3 {w : World} {g : Nat} {C : Array Value} {t : TypeId} (h : w.heap[g]? = some (.cells C t (0, 0))) (i : Nat) : w.frozen? ⟨g, i, none⟩ = false := by simp [World.frozen?, h]

set_option maxRecDepth 20000 in
set_option maxHeartbeats 1600000 in
theorem with_last (N l z k m : Nat) (hN : 1 ≤ N) (hN1 : N ≤ 64) (hl : l ≤ 1024) (hz : z ≤ 1024) (hm : m ≤ 1024) (hk : k + 1 = N) :
    Calls Tryz.prog 85 #[shV N l z, iv k, iv m] w fun e w' => e = .returned (.tuple #[shV N l m, .bool (capB N l m)]) ∧ Below w.heap.size w w' := by
  have hw0 : IntKind.i64.wrap ((N : Int) - 1) = ((N - 1 : Nat) : Int) := by rw [IntKind.wrap_i64]; omega
  have hkk : ((k : Int) == ((N - 1 : Nat) : Int)) = true := by simp; omega
  have HF : Hid (∀ u : World, Calls _ _ _ u _) := fun u => fits_t (w := u) N l m hN hN1 (by omega) (by omega)
  generalize capB N l m = cb at *
  go_enter Tryz.func85, Tryz.ntmps85
  go_wp2
  have HB0 : Hid (Below w.heap.size w ((w.alloc (.cells #[iv N, iv l, iv m] tSh)).alloc (.cells #[iv 0, iv 0, iv 0] tSh))) := al (al (Below.refl _ _) _) _
  have HS0 : Hid (((w.alloc (.cells #[iv N, iv l, iv m] tSh)).alloc (.cells #[iv 0, iv 0, iv 0] tSh)).heap[w.heap.size]? = some (.cells #[iv N, iv l, iv m] tSh (0, 0))) := (Below.heap_alloc _ _ _ (by simp)).trans (heap_alloc_new w _)
  have HR0 : Hid (((w.alloc (.cells #[iv N, iv l, iv m] tSh)).alloc (.cells #[iv 0, iv 0, iv 0] tSh)).heap[w.heap.size + 1]? = some (.cells #[iv 0, iv 0, iv 0] tSh (0, 0))) := by
    have h9 := heap_alloc_new (w.alloc (.cells #[iv N, iv l, iv m] tSh)) (.cells #[iv 0, iv 0, iv 0] tSh)
    unfold Hid
    simpa using h9
  generalize ((w.alloc (.cells #[iv N, iv l, iv m] tSh)).alloc (.cells #[iv 0, iv 0, iv 0] tSh)) = W at *
  refine wp_region_noPanic ?_
  refine wp_region_held_drew (S := (fun u => u.cell? ⟨w.heap.size, 0, none⟩ = some (iv N) ∧ u.cell? ⟨w.heap.size, 1, none⟩ = some (iv l) ∧ u.cell? ⟨w.heap.size, 2, none⟩ = some (iv m))) (by kernel_rfl) (by first | exact cells3 HS0.out | exact cells3 HS1.out | exact cells3 ((set3_blk _ _ _ _ _ _ (by omega)).trans HS1.out)) (fun hHeld => ?_)
  refine tk (i := 0) 28 (v := ?_) rfl rfl ?_ hHeld ?_
  rotate_left
  · (intro w hSw; obtain ⟨x0, x1, x2⟩ := hSw; go_simp; try with_reducible rfl)
  simp only [pS]
  refine tk (i := 1) 29 (v := ?_) rfl rfl ?_ hHeld ?_
  rotate_left
  · (intro w hSw; obtain ⟨x0, x1, x2⟩ := hSw; go_simp; try with_reducible rfl)
  simp only [pS]
  refine run_at (i := 2) rfl (by kernel_rfl) (by rfl) (fun K hK => ?_)
  simp only [List.getElem_toArray, List.getElem_cons_zero, List.getElem_cons_succ]
  go_simp
  (go_at_call 102; refine Calls.mono (HF.out _) ?_; rintro e w1 ⟨rfl, hb1⟩; have HS1 : Hid (w1.heap[w.heap.size]? = some (.cells #[iv N, iv l, iv m] tSh (0, 0))) := (hb1.block _ (Array.getElem?_eq_some_iff.1 HS0.out).1).trans HS0.out; have HR1 : Hid (w1.heap[w.heap.size + 1]? = some (.cells #[iv 0, iv 0, iv 0] tSh (0, 0))) := (hb1.block _ (Array.getElem?_eq_some_iff.1 HR0.out).1).trans HR0.out; have HB1 : Hid (Below w.heap.size w w1) := below_next HB0.out.drew hb1; obtain ⟨y0, y1, y2⟩ := cells3 HR1.out; have f0 := fz3 HR1.out 0; have f1 := fz3 HR1.out 1; have f2 := fz3 HR1.out 2; clear hb1)
  go_wp2_with fail
  refine hK.out _ _ (by first | exact cells3 HS0.out | exact cells3 HS1.out | exact cells3 ((set3_blk _ _ _ _ _ _ (by omega)).trans HS1.out)) ?_
  clear hK K
  intro hHeld2
  clear hHeld
  have hHeld := hHeld2
  clear hHeld2
  try simp only [pS]
  refine run_at (i := 3) rfl (by kernel_rfl) (by rfl) (fun K hK => ?_)
  simp only [List.getElem_toArray, List.getElem_cons_zero, List.getElem_cons_succ]
  go_simp
  go_wp2_with fail
  refine hK.out _ _ (by first | exact cells3 HS0.out | exact cells3 HS1.out | exact cells3 ((set3_blk _ _ _ _ _ _ (by omega)).trans HS1.out)) ?_
  clear hK K
  intro hHeld2
  clear hHeld
  have hHeld := hHeld2
  clear hHeld2
  try simp only [pS]
  refine tz (i := 4) 7 rfl rfl hHeld ?_
  simp only [pS]
  refine wpAnyH_done (by kernel_rfl) ?_ _
  refine NoPanic.normal ?_
  all_goals
    go_wp2
    refine bodyPost_ret (results_ct rfl _ _ (w.heap.size + 1) tSh _ (0, 0) _ rfl (set3_same _ _ _ _ _ _ _ _ _ HR1.out) Tryz.underlying152 rfl (by kernel_rfl)) rfl ?_
    exact ⟨rfl, set3_below HB1.out _ _ _ _ (by omega)⟩
set_option maxRecDepth 20000 in
set_option maxHeartbeats 1600000 in
theorem with_first (N l z k m : Nat) (hN : 1 ≤ N) (hN1 : N ≤ 64) (hl : l ≤ 1024) (hz : z ≤ 1024) (hm : m ≤ 1024) (hk : k + 1 < N) :
    Calls Tryz.prog 85 #[shV N 0 z, iv k, iv m] w fun e w' => e = .returned (.tuple #[shV N m z, .bool (capB N m z)]) ∧ Below w.heap.size w w' := by
  have hw0 : IntKind.i64.wrap ((N : Int) - 1) = ((N - 1 : Nat) : Int) := by rw [IntKind.wrap_i64]; omega
  have hkk : ((k : Int) == ((N - 1 : Nat) : Int)) = false := by simp; omega
  have HF : Hid (∀ u : World, Calls _ _ _ u _) := fun u => fits_t (w := u) N m z hN hN1 (by omega) (by omega)
  generalize capB N m z = cb at *
  go_enter Tryz.func85, Tryz.ntmps85
  go_wp2
  have HB0 : Hid (Below w.heap.size w ((w.alloc (.cells #[iv N, iv m, iv z] tSh)).alloc (.cells #[iv 0, iv 0, iv 0] tSh))) := al (al (Below.refl _ _) _) _
  have HS0 : Hid (((w.alloc (.cells #[iv N, iv m, iv z] tSh)).alloc (.cells #[iv 0, iv 0, iv 0] tSh)).heap[w.heap.size]? = some (.cells #[iv N, iv m, iv z] tSh (0, 0))) := (Below.heap_alloc _ _ _ (by simp)).trans (heap_alloc_new w _)
  have HR0 : Hid (((w.alloc (.cells #[iv N, iv m, iv z] tSh)).alloc (.cells #[iv 0, iv 0, iv 0] tSh)).heap[w.heap.size + 1]? = some (.cells #[iv 0, iv 0, iv 0] tSh (0, 0))) := by
    have h9 := heap_alloc_new (w.alloc (.cells #[iv N, iv m, iv z] tSh)) (.cells #[iv 0, iv 0, iv 0] tSh)
    unfold Hid
    simpa using h9
  generalize ((w.alloc (.cells #[iv N, iv m, iv z] tSh)).alloc (.cells #[iv 0, iv 0, iv 0] tSh)) = W at *
  refine wp_region_noPanic ?_
  refine wp_region_held_drew (S := (fun u => u.cell? ⟨w.heap.size, 0, none⟩ = some (iv N) ∧ u.cell? ⟨w.heap.size, 1, none⟩ = some (iv m) ∧ u.cell? ⟨w.heap.size, 2, none⟩ = some (iv z))) (by kernel_rfl) (by first | exact cells3 HS0.out | exact cells3 HS1.out | exact cells3 ((set3_blk _ _ _ _ _ _ (by omega)).trans HS1.out)) (fun hHeld => ?_)
  refine tk (i := 0) 28 (v := ?_) rfl rfl ?_ hHeld ?_
  rotate_left
  · (intro w hSw; obtain ⟨x0, x1, x2⟩ := hSw; go_simp; try with_reducible rfl)
  simp only [pS]
  refine tk (i := 1) 29 (v := ?_) rfl rfl ?_ hHeld ?_
  rotate_left
  · (intro w hSw; obtain ⟨x0, x1, x2⟩ := hSw; go_simp; try with_reducible rfl)
  simp only [pS]
  refine run_at (i := 2) rfl (by kernel_rfl) (by rfl) (fun K hK => ?_)
  simp only [List.getElem_toArray, List.getElem_cons_zero, List.getElem_cons_succ]
  go_simp
  (go_at_call 102; refine Calls.mono (HF.out _) ?_; rintro e w1 ⟨rfl, hb1⟩; have HS1 : Hid (w1.heap[w.heap.size]? = some (.cells #[iv N, iv m, iv z] tSh (0, 0))) := (hb1.block _ (Array.getElem?_eq_some_iff.1 HS0.out).1).trans HS0.out; have HR1 : Hid (w1.heap[w.heap.size + 1]? = some (.cells #[iv 0, iv 0, iv 0] tSh (0, 0))) := (hb1.block _ (Array.getElem?_eq_some_iff.1 HR0.out).1).trans HR0.out; have HB1 : Hid (Below w.heap.size w w1) := below_next HB0.out.drew hb1; obtain ⟨y0, y1, y2⟩ := cells3 HR1.out; have f0 := fz3 HR1.out 0; have f1 := fz3 HR1.out 1; have f2 := fz3 HR1.out 2; clear hb1)
  go_wp2_with fail
  refine hK.out _ _ (by first | exact cells3 HS0.out | exact cells3 HS1.out | exact cells3 ((set3_blk _ _ _ _ _ _ (by omega)).trans HS1.out)) ?_
  clear hK K
  intro hHeld2
  clear hHeld
  have hHeld := hHeld2
  clear hHeld2
  try simp only [pS]
  refine run_at (i := 3) rfl (by kernel_rfl) (by rfl) (fun K hK => ?_)
  simp only [List.getElem_toArray, List.getElem_cons_zero, List.getElem_cons_succ]
  go_simp
  go_wp2_with fail
  refine hK.out _ _ (by first | exact cells3 HS0.out | exact cells3 HS1.out | exact cells3 ((set3_blk _ _ _ _ _ _ (by omega)).trans HS1.out)) ?_
  clear hK K
  intro hHeld2
  clear hHeld
  have hHeld := hHeld2
  clear hHeld2
  try simp only [pS]
  refine tz (i := 4) 7 rfl rfl hHeld ?_
  simp only [pS]
  refine wpAnyH_done (by kernel_rfl) ?_ _
  refine NoPanic.normal ?_
  all_goals
    go_wp2
    refine bodyPost_ret (results_ct rfl _ _ (w.heap.size + 1) tSh _ (0, 0) _ rfl (set3_same _ _ _ _ _ _ _ _ _ HR1.out) Tryz.underlying152 rfl (by kernel_rfl)) rfl ?_
    exact ⟨rfl, set3_below HB1.out _ _ _ _ (by omega)⟩
set_option maxRecDepth 20000 in
set_option maxHeartbeats 1600000 in
theorem with_same (N l z k m : Nat) (hN : 1 ≤ N) (hN1 : N ≤ 64) (hl : l ≤ 1024) (hz : z ≤ 1024) (hm : m ≤ 1024) (hk : k + 1 < N) (hl0 : l ≠ 0) :
    Calls Tryz.prog 85 #[shV N l z, iv k, iv l] w fun e w' => e = .returned (.tuple #[shV N l z, .bool (capB N l z)]) ∧ Below w.heap.size w w' := by
  have hw0 : IntKind.i64.wrap ((N : Int) - 1) = ((N - 1 : Nat) : Int) := by rw [IntKind.wrap_i64]; omega
  have hkk : ((k : Int) == ((N - 1 : Nat) : Int)) = false := by simp; omega
  have hl1 : ((l : Int) == 0) = false := by simp; omega
  have hlm : ((l : Int) != (l : Int)) = false := by simp
  have HF : Hid (∀ u : World, Calls _ _ _ u _) := fun u => fits_t (w := u) N l z hN hN1 (by omega) (by omega)
  generalize capB N l z = cb at *
  go_enter Tryz.func85, Tryz.ntmps85
  go_wp2
  have HB0 : Hid (Below w.heap.size w ((w.alloc (.cells #[iv N, iv l, iv z] tSh)).alloc (.cells #[iv 0, iv 0, iv 0] tSh))) := al (al (Below.refl _ _) _) _
  have HS0 : Hid (((w.alloc (.cells #[iv N, iv l, iv z] tSh)).alloc (.cells #[iv 0, iv 0, iv 0] tSh)).heap[w.heap.size]? = some (.cells #[iv N, iv l, iv z] tSh (0, 0))) := (Below.heap_alloc _ _ _ (by simp)).trans (heap_alloc_new w _)
  have HR0 : Hid (((w.alloc (.cells #[iv N, iv l, iv z] tSh)).alloc (.cells #[iv 0, iv 0, iv 0] tSh)).heap[w.heap.size + 1]? = some (.cells #[iv 0, iv 0, iv 0] tSh (0, 0))) := by
    have h9 := heap_alloc_new (w.alloc (.cells #[iv N, iv l, iv z] tSh)) (.cells #[iv 0, iv 0, iv 0] tSh)
    unfold Hid
    simpa using h9
  generalize ((w.alloc (.cells #[iv N, iv l, iv z] tSh)).alloc (.cells #[iv 0, iv 0, iv 0] tSh)) = W at *
  refine wp_region_noPanic ?_
  refine wp_region_held_drew (S := (fun u => u.cell? ⟨w.heap.size, 0, none⟩ = some (iv N) ∧ u.cell? ⟨w.heap.size, 1, none⟩ = some (iv l) ∧ u.cell? ⟨w.heap.size, 2, none⟩ = some (iv z))) (by kernel_rfl) (by first | exact cells3 HS0.out | exact cells3 HS1.out | exact cells3 ((set3_blk _ _ _ _ _ _ (by omega)).trans HS1.out)) (fun hHeld => ?_)
  refine tk (i := 0) 28 (v := ?_) rfl rfl ?_ hHeld ?_
  rotate_left
  · (intro w hSw; obtain ⟨x0, x1, x2⟩ := hSw; go_simp; try with_reducible rfl)
  simp only [pS]
  refine tk (i := 1) 29 (v := ?_) rfl rfl ?_ hHeld ?_
  rotate_left
  · (intro w hSw; obtain ⟨x0, x1, x2⟩ := hSw; go_simp; try with_reducible rfl)
  simp only [pS]
  refine run_at (i := 2) rfl (by kernel_rfl) (by rfl) (fun K hK => ?_)
  simp only [List.getElem_toArray, List.getElem_cons_zero, List.getElem_cons_succ]
  go_simp
  (go_at_call 102; refine Calls.mono (HF.out _) ?_; rintro e w1 ⟨rfl, hb1⟩; have HS1 : Hid (w1.heap[w.heap.size]? = some (.cells #[iv N, iv l, iv z] tSh (0, 0))) := (hb1.block _ (Array.getElem?_eq_some_iff.1 HS0.out).1).trans HS0.out; have HR1 : Hid (w1.heap[w.heap.size + 1]? = some (.cells #[iv 0, iv 0, iv 0] tSh (0, 0))) := (hb1.block _ (Array.getElem?_eq_some_iff.1 HR0.out).1).trans HR0.out; have HB1 : Hid (Below w.heap.size w w1) := below_next HB0.out.drew hb1; obtain ⟨y0, y1, y2⟩ := cells3 HR1.out; have f0 := fz3 HR1.out 0; have f1 := fz3 HR1.out 1; have f2 := fz3 HR1.out 2; clear hb1)
  go_wp2_with fail
  refine hK.out _ _ (by first | exact cells3 HS0.out | exact cells3 HS1.out | exact cells3 ((set3_blk _ _ _ _ _ _ (by omega)).trans HS1.out)) ?_
  clear hK K
  intro hHeld2
  clear hHeld
  have hHeld := hHeld2
  clear hHeld2
  try simp only [pS]
  refine run_at (i := 3) rfl (by kernel_rfl) (by rfl) (fun K hK => ?_)
  simp only [List.getElem_toArray, List.getElem_cons_zero, List.getElem_cons_succ]
  go_simp
  go_wp2_with fail
  refine hK.out _ _ (by first | exact cells3 HS0.out | exact cells3 HS1.out | exact cells3 ((set3_blk _ _ _ _ _ _ (by omega)).trans HS1.out)) ?_
  clear hK K
  intro hHeld2
  clear hHeld
  have hHeld := hHeld2
  clear hHeld2
  try simp only [pS]
  refine tz (i := 4) 7 rfl rfl hHeld ?_
  simp only [pS]
  refine wpAnyH_done (by kernel_rfl) ?_ _
  refine NoPanic.normal ?_
  all_goals
    go_wp2
    refine bodyPost_ret (results_ct rfl _ _ (w.heap.size + 1) tSh _ (0, 0) _ rfl (set3_same _ _ _ _ _ _ _ _ _ HR1.out) Tryz.underlying152 rfl (by kernel_rfl)) rfl ?_
    exact ⟨rfl, set3_below HB1.out _ _ _ _ (by omega)⟩
set_option maxRecDepth 20000 in
set_option maxHeartbeats 1600000 in
theorem with_no (N l z k m : Nat) (hN : 1 ≤ N) (hN1 : N ≤ 64) (hl : l ≤ 1024) (hz : z ≤ 1024) (hm : m ≤ 1024) (hk : k + 1 < N) (hl0 : l ≠ 0) (he : l ≠ m) :
    Calls Tryz.prog 85 #[shV N l z, iv k, iv m] w fun e w' => e = .returned (.tuple #[.agg #[iv 0, iv 0, iv 0], .bool false]) ∧ Below w.heap.size w w' := by
  have hw0 : IntKind.i64.wrap ((N : Int) - 1) = ((N - 1 : Nat) : Int) := by rw [IntKind.wrap_i64]; omega
  have hkk : ((k : Int) == ((N - 1 : Nat) : Int)) = false := by simp; omega
  have hl1 : ((l : Int) == 0) = false := by simp; omega
  have hlm : ((l : Int) != (m : Int)) = true := by simp; omega
  have hlm2 : ¬ (l : Int) = (m : Int) := by omega
  go_enter Tryz.func85, Tryz.ntmps85
  go_wp2
  refine bodyPost_ret (results_ct rfl _ _ (w.heap.size + 1) tSh _ (0, 0) _ rfl (by have h9 := heap_alloc_new (w.alloc (.cells #[iv N, iv l, iv z] tSh)) (.cells #[iv 0, iv 0, iv 0] tSh); rw [show (w.alloc (.cells #[iv N, iv l, iv z] tSh)).heap.size = w.heap.size + 1 by simp] at h9; exact h9) Tryz.underlying152 rfl (by kernel_rfl)) rfl ?_
  exact ⟨rfl, al (al (Below.refl _ _) _) _⟩
end
end Go.Proofs.YtdoikcolkbjnfaaGreat
namespace Go.Proofs.YtdoikcolkbjnfaaGreat
set_option linter.unusedVariables false
set_option linter.unusedSimpArgs false
open Go.RowKit
section
variable {w w' : World} {p : Nat} {V : List Dc} {S : List Seg}
theorem putE_no {S : List Seg} {i : Int} {xs : Seg} (h : i < 0 ∨ (S.length : Int) ≤ i ∨ xs.length = 0 ∨ 1024 < xs.length) : putE (some S) i xs = 1 ∧ putS (some S) i xs = some S := by
  constructor
  · exact if_pos h
  · exact congrArg some (if_pos h)
theorem putE_at {S : List Seg} {k : Nat} {xs ys : Seg} (hk : k < S.length) (h0 : 0 < xs.length) (h1 : xs.length ≤ 1024) (hy : S[k]? = some ys) (hn : ys ≠ []) : putE (some S) (k : Int) xs = (if ys = xs then 3 else 120) ∧ putS (some S) (k : Int) xs = some S := by
  have hno : ¬ ((k : Int) < 0 ∨ (S.length : Int) ≤ (k : Int) ∨ xs.length = 0 ∨ 1024 < xs.length) := by omega
  have hl : ¬ (ys.length = 0) := fun e => hn (List.eq_nil_of_length_eq_zero e)
  constructor
  · unfold putE
    simp only [if_neg hno, Int.toNat_natCast, hy, Option.getD_some, if_neg hl]
  · unfold putS
    simp only [if_neg hno, Int.toNat_natCast, hy, Option.getD_some, if_neg hl]
theorem putE_free {S : List Seg} {k : Nat} {xs : Seg} (hk : k < S.length) (h0 : 0 < xs.length) (h1 : xs.length ≤ 1024) (hy : S[k]? = some []) : putE (some S) (k : Int) xs = (if fitS (S.set k xs) = true then 0 else 120) ∧ putS (some S) (k : Int) xs = some (if fitS (S.set k xs) = true then S.set k xs else S) := by
  have hno : ¬ ((k : Int) < 0 ∨ (S.length : Int) ≤ (k : Int) ∨ xs.length = 0 ∨ 1024 < xs.length) := by omega
  constructor
  · unfold putE
    simp only [if_neg hno, Int.toNat_natCast, hy, Option.getD_some, List.length_nil, if_pos]
  · unfold putS
    simp only [if_neg hno, Int.toNat_natCast, hy, Option.getD_some, List.length_nil, if_pos]
set_option maxRecDepth 20000 in
set_option maxHeartbeats 1600000 in
theorem put_no {q : Option Addr} (h : B0 w q) (i : Int) (b : Value) : Calls Tryz.prog 66 #[.pointer q, .int .i64 i, b] w fun e w' => e = .returned (.int .i64 1) ∧ w' = w := by
  have H : Hid _ := made_no h
  clear h
  go_enter Tryz.func66, Tryz.ntmps66
  go_wp2_with (go_at_call 82; refine Calls.mono H.out ?_; rintro e w' ⟨rfl, hq⟩; have hq := hq.symm; subst hq)
  go_ret
  exact ⟨rfl, rfl⟩
set_option maxRecDepth 20000 in
set_option maxHeartbeats 1600000 in
/-- its arguments are none -/
theorem put_arg (h : Bx w p V S) (i : Int) (ao : Option Addr) (n cap : Nat) (xs : List UInt8) (hn : n = xs.length) (hno : i < 0 ∨ (S.length : Int) ≤ i ∨ xs.length = 0 ∨ 1024 < xs.length) (hl : n ≤ 140737488355328) :
    Calls Tryz.prog 66 #[.pointer (some ⟨p, 0, none⟩), .int .i64 i, .slice ao n cap] w fun e w' => e = .returned (.int .i64 1) ∧ Below w.heap.size w w' := by
  subst hn
  have HM : Hid _ := made_t h
  have HN : Hid (∀ u : World, Calls _ _ _ u _) := fun u => numbers_t (w := u) S.length (lenS S) (lastS S) i
  have HRG : Hid _ := h.rg
  have c0 := h.c0
  have c1 := h.c1
  have c2 := h.c2
  by_cases hin : 0 ≤ i ∧ i < (S.length : Int)
  · have hb : numB S.length i = true := decide_eq_true hin
    rw [hb] at HN
    have hno2 : xs.length = 0 ∨ 1024 < xs.length := by omega
    clear hno hin hb h
    generalize S.length = N at *
    generalize lenS S = l at *
    generalize lastS S = z at *
    by_cases h0 : xs.length = 0
    · have hx : ((xs.length : Int) == 0) = true := by rw [h0]; rfl
      generalize xs.length = M at *
      clear h0 hno2
      go_enter Tryz.func66, Tryz.ntmps66
      go_wp2_with (first | (go_at_call 82; refine Calls.mono HM.out ?_; rintro e w' ⟨rfl, hq⟩; have hq := hq.symm; subst hq) | (go_at_call 83; refine Calls.mono (HN.out _) ?_; rintro e w1 ⟨rfl, hb1⟩))
      go_ret
      exact ⟨rfl, hb1⟩
    · have h1 : 1024 < xs.length := by omega
      have h1i : (1024 : Int) < (xs.length : Int) := by omega
      have hx : ((xs.length : Int) == 0) = false := by simp; intro e; exact h0 (by rw [e]; rfl)
      generalize xs.length = M at *
      clear hno2
      go_enter Tryz.func66, Tryz.ntmps66
      go_wp2_with (first | (go_at_call 82; refine Calls.mono HM.out ?_; rintro e w' ⟨rfl, hq⟩; have hq := hq.symm; subst hq) | (go_at_call 83; refine Calls.mono (HN.out _) ?_; rintro e w1 ⟨rfl, hb1⟩))
      go_ret
      exact ⟨rfl, hb1⟩
  · have hb : numB S.length i = false := decide_eq_false hin
    rw [hb] at HN
    clear hno hin hb h
    generalize S.length = N at *
    generalize lenS S = l at *
    generalize lastS S = z at *
    generalize xs.length = M at *
    go_enter Tryz.func66, Tryz.ntmps66
    go_wp2_with (first | (go_at_call 82; refine Calls.mono HM.out ?_; rintro e w' ⟨rfl, hq⟩; have hq := hq.symm; subst hq) | (go_at_call 83; refine Calls.mono (HN.out _) ?_; rintro e w1 ⟨rfl, hb1⟩))
    go_ret
    exact ⟨rfl, hb1⟩
set_option maxRecDepth 20000 in
set_option maxHeartbeats 1600000 in
/-- one is there -/
theorem put_there (h : Bx w p V S) (k : Nat) (hk : k < S.length) (d : Dc) (ys : Seg) (hd : V[k]? = some d) (hy : S[k]? = some ys) (hys : 0 < ys.length) (ao : Option Addr) (n cap : Nat) (xs : List UInt8) (hn : n = xs.length) (h0 : 0 < n) (h1 : n ≤ 1024) (hx : Rd w ao xs) :
    Calls Tryz.prog 66 #[.pointer (some ⟨p, 0, none⟩), .int .i64 (k : Int), .slice ao n cap] w fun e w' => e = .returned (.int .i64 (if ys = xs then 3 else 120)) ∧ Below w.heap.size w w' := by
  have HM : Hid _ := made_t h
  have HN : Hid (∀ u : World, Calls _ _ _ u _) := fun u => numbers_t (w := u) S.length (lenS S) (lastS S) (k : Int)
  rw [show numB S.length (k : Int) = true from decide_eq_true (by omega)] at HN
  have HRG : Hid _ := h.rg
  have c0 := h.c0
  have c1 := h.c1
  have c2 := h.c2
  have hcs := h.cs k d hd
  have hp := (Array.getElem?_eq_some_iff.1 h.hp).1
  obtain ⟨hby, -, -⟩ := h.els k d ys hd hy
  have hsm := hby.some_ hys
  have hk64 : k < 64 := by have := h.n1; omega
  have hkI : (k : Int) < 64 := by omega
  have hk0 : (0 : Int) ≤ (k : Int) := by omega
  have HCS : Hid (∀ u, Below w.heap.size w u → u.cell? ⟨p, 3 + k, none⟩ = some d.v) := fun u hu => (hu.cell hp).trans hcs
  have HAG : Hid (∀ u, Below w.heap.size w u → Calls _ _ _ u _) := fun u hu => again_t d.a d.n d.c ys hby.n ao n cap xs hn u (Rd.below hby.rd hu) (Rd.below hx hu)
  obtain ⟨da, dn, dc⟩ := d
  have hxl : ((n : Int) == 0) = false := by simp; omega
  have hx1 : ¬ (1024 : Int) < (n : Int) := by omega
  simp only at hsm
  generalize hE : (if ys = xs then (3 : Int) else 120) = E at *
  have q22 : ∀ (w : World) (a : Option Addr) (n c n' c' : Nat), (binOp .neq 34 (.slice a n c) (.slice none n' c')).run Tryz.prog w = .ok (.bool (!a.isNone)) w := fun w a n c n' c' => run_neq_slice_nil_any w _ _ a n c n' c' Tryz.underlying34
  clear hE h hcs hby hx hd hy hn hk hys
  generalize S.length = N at *
  generalize lenS S = l at *
  generalize lastS S = z at *
  go_enter Tryz.func66, Tryz.ntmps66
  go_wp2_with (first | (go_at_call 82; refine Calls.mono HM.out ?_; rintro e w' ⟨rfl, hq⟩; have hq := hq.symm; subst hq) | (go_at_call 83; refine Calls.mono (HN.out _) ?_; rintro e w1 ⟨rfl, hb1⟩; have hc1 := HCS.out _ hb1; have HB1 : Hid _ := hb1; clear hb1) | (go_at_call 84; refine Calls.mono (HAG.out _ HB1.out) ?_; rintro e w' ⟨rfl, hq⟩; have hq := hq.symm; subst hq))
  go_ret
  exact ⟨rfl, HB1.out⟩
end
end Go.Proofs.YtdoikcolkbjnfaaGreat
namespace Go.Proofs.YtdoikcolkbjnfaaGreat
set_option linter.unusedVariables false
set_option linter.unusedSimpArgs false
open Go.RowKit
section
variable {w w' : World} {p : Nat} {V : List Dc} {S : List Seg}
theorem with_fit (S : List Seg) (k : Nat) (xs : Seg) (hk : k < S.length) (h1 : S.length ≤ 64) (hs : ∀ xs ∈ S, xs.length ≤ 1024) (hf : fitS S = true) (h0 : S[k]? = some []) (hx0 : 0 < xs.length) (hx1 : xs.length ≤ 1024) :
    ∃ a l2 z2 : Nat, (fitS (S.set k xs) = true → a = S.length ∧ l2 = lenS (S.set k xs) ∧ z2 = lastS (S.set k xs)) ∧ ∀ u : World, Calls Tryz.prog 85 #[shV S.length (lenS S) (lastS S), iv k, iv xs.length] u fun e w' => e = .returned (.tuple #[shV a l2 z2, .bool (fitS (S.set k xs))]) ∧ Below u.heap.size u w' := by
  have hu := fit_uni hf
  have hl := lenS_le hs
  have hz := lastS_le hs
  by_cases hL : k + 1 = S.length
  · obtain ⟨e1, e2, e3⟩ := fit_last S k xs hL hu
    rw [e1, e2, e3]
    exact ⟨_, _, _, fun _ => ⟨rfl, rfl, rfl⟩, fun u => with_last S.length (lenS S) (lastS S) k xs.length (by omega) h1 hl hz hx1 hL⟩
  · by_cases h2 : lenS S = 0
    · obtain ⟨e1, e2, e3⟩ := fit_mid S k xs (by omega) hu hx0 (.inl h2)
      rw [e1, e2, e3, h2]
      exact ⟨_, _, _, fun _ => ⟨rfl, rfl, rfl⟩, fun u => with_first S.length 0 (lastS S) k xs.length (by omega) h1 (by omega) hz hx1 (by omega)⟩
    · by_cases h3 : lenS S = xs.length
      · obtain ⟨e1, e2, e3⟩ := fit_mid S k xs (by omega) hu hx0 (.inr h3)
        rw [e1, e2, e3, h3]
        exact ⟨_, _, _, fun _ => ⟨rfl, rfl, rfl⟩, fun u => with_same S.length xs.length (lastS S) k xs.length (by omega) h1 hx1 hz hx1 (by omega) (by omega)⟩
      · rw [fit_no S k xs (by omega) hx0 h0 h2 h3]
        exact ⟨0, 0, 0, (fun h => by cases h), fun u => with_no S.length (lenS S) (lastS S) k xs.length (by omega) h1 hl hz hx1 (by omega) h2 h3⟩
/-- the box with one more -/
theorem Bx.put (h : Bx w p V S) {k : Nat} (hk : k < S.length) {d : Dc} {xs : Seg} (hx1 : xs.length ≤ 1024) (hx0 : 0 < xs.length) (hd : ByV w d xs) (hf : fitS (S.set k xs) = true) (hdp : ∀ ad, d.a = some ad → ad.block ≠ p) :
    Bx ((((w.setCell ⟨p, 0, none⟩ (iv S.length)).setCell ⟨p, 1, none⟩ (iv (lenS (S.set k xs)))).setCell ⟨p, 2, none⟩ (iv (lastS (S.set k xs)))).setCell ⟨p, 3 + k, none⟩ d.v) p (V.set k d) (S.set k xs) := by
  have hoth : ∀ b, b ≠ p → ((((w.setCell ⟨p, 0, none⟩ (iv S.length)).setCell ⟨p, 1, none⟩ (iv (lenS (S.set k xs)))).setCell ⟨p, 2, none⟩ (iv (lastS (S.set k xs)))).setCell ⟨p, 3 + k, none⟩ d.v).heap[b]? = w.heap[b]? := fun b hb => (heap_setCell_other _ _ _ _ hb).trans (set3_blk _ _ _ _ _ _ hb)
  refine ⟨?_, by rw [List.length_set]; exact h.len, by rw [List.length_set]; exact h.n0, by rw [List.length_set]; exact h.n1, hf, fun i e ys he hy => ?_, fun i e he hi => ?_⟩
  · have h1 : (w.setCell ⟨p, 0, none⟩ (iv S.length)).heap[p]? = some (.cells (bxC S.length (lenS S) (lastS S) V).toArray tBx (0, 0)) := (heap_setCell_same _ _ _ _ _ _ h.hp).trans (by simp)
    have h2 : ((w.setCell ⟨p, 0, none⟩ (iv S.length)).setCell ⟨p, 1, none⟩ (iv (lenS (S.set k xs)))).heap[p]? = some (.cells (bxC S.length (lenS (S.set k xs)) (lastS S) V).toArray tBx (0, 0)) := (heap_setCell_same _ _ _ _ _ _ h1).trans (by simp)
    have h3 : (((w.setCell ⟨p, 0, none⟩ (iv S.length)).setCell ⟨p, 1, none⟩ (iv (lenS (S.set k xs)))).setCell ⟨p, 2, none⟩ (iv (lastS (S.set k xs)))).heap[p]? = some (.cells (bxC S.length (lenS (S.set k xs)) (lastS (S.set k xs)) V).toArray tBx (0, 0)) := (heap_setCell_same _ _ _ _ _ _ h2).trans (by simp)
    refine (heap_setCell_same _ _ _ _ _ _ h3).trans ?_
    rw [List.length_set, show 3 + k = k + 1 + 1 + 1 by omega]
    simp [List.map_set]
  · by_cases hi : k = i
    · subst hi
      rw [List.getElem?_set_self (by rw [h.len]; have := h.n1; omega)] at he
      rw [List.getElem?_set_self hk] at hy
      cases he
      cases hy
      exact ⟨hd.kept (fun ad ha => hoth _ (hdp ad ha)), (fun e => by rw [e] at hx0; simp at hx0), hx1⟩
    · rw [List.getElem?_set_ne hi] at he hy
      obtain ⟨h1, h2, h3⟩ := h.els i e ys he hy
      exact ⟨h1.kept (fun ad ha => hoth _ (h.pe h1 ha)), h2, h3⟩
  · rw [List.length_set] at hi
    rw [List.getElem?_set, if_neg (by omega)] at he
    exact h.far i e he hi
theorem drew_heap {w : World} {g : Nat} {o : Obj} (h : w.heap[g]? = some o) : w.drew.heap[g]? = some o := h
theorem foot_put {k : Nat} {d : Dc} {b : Nat} (hb : footB p (V.set k d) b) : footB p V b ∨ ∃ ad, d.a = some ad ∧ ad.block = b := by
  rcases hb with hb | ⟨e, he, ad, ha, hb⟩
  · exact .inl (.inl hb)
  · rcases List.mem_or_eq_of_mem_set he with h1 | rfl
    · exact .inl (.inr ⟨e, h1, ad, ha, hb⟩)
    · exact .inr ⟨ad, ha, hb⟩
set_option maxRecDepth 20000 in
set_option maxHeartbeats 3200000 in
theorem put_free (h : Bx w p V S) (k : Nat) (hk : k < S.length) (hy : S[k]? = some []) (ao : Option Addr) (n cap : Nat) (xs : List UInt8) (hn : n = xs.length) (h0 : 0 < n) (h1 : n ≤ 1024) (hx : Rd w ao xs) (hnil : ao = none → cap = 0) :
    Calls Tryz.prog 66 #[.pointer (some ⟨p, 0, none⟩), .int .i64 (k : Int), .slice ao n cap] w fun e w' => e = .returned (.int .i64 (if fitS (S.set k xs) = true then 0 else 120)) ∧ ∃ V', Bx w' p V' (if fitS (S.set k xs) = true then S.set k xs else S) ∧ Chg (fun b => b = p) w w' ∧ ∀ b, footB p V' b → footB p V b ∨ w.heap.size ≤ b := by
  have HM : Hid _ := made_t h
  have HN : Hid (∀ u : World, Calls _ _ _ u _) := fun u => numbers_t (w := u) S.length (lenS S) (lastS S) (k : Int)
  rw [show numB S.length (k : Int) = true from decide_eq_true (by omega)] at HN
  obtain ⟨a, l2, z2, hfit, hwi⟩ := with_fit S k xs hk h.n1 h.small h.fit hy (by omega) (by omega)
  have HWI : Hid _ := hwi
  have HFI : Hid _ := hfit
  have HW : Hid _ := h
  have c0 := h.c0
  have c1 := h.c1
  have c2 := h.c2
  obtain ⟨d, ys, hd, hy2, hcs, -, hz, -⟩ := h.at_ hk
  obtain rfl : ys = [] := by rw [hy] at hy2; cases hy2; rfl
  obtain rfl := hz rfl
  have hp := (Array.getElem?_eq_some_iff.1 h.hp).1
  have hk64 : k < 64 := by have := h.n1; omega
  have hkI : (k : Int) < 64 := by omega
  have hk0 : (0 : Int) ≤ (k : Int) := by omega
  have HCS : Hid (∀ u, Below w.heap.size w u → u.cell? ⟨p, 3 + k, none⟩ = some (.slice none 0 0) ∧ u.cell? ⟨p, 0, none⟩ = some (iv S.length) ∧ u.cell? ⟨p, 1, none⟩ = some (iv (lenS S)) ∧ u.cell? ⟨p, 2, none⟩ = some (iv (lastS S)) ∧ u.frozen? ⟨p, 0, none⟩ = false ∧ u.frozen? ⟨p, 1, none⟩ = false ∧ u.frozen? ⟨p, 2, none⟩ = false ∧ u.frozen? ⟨p, 3 + k, none⟩ = false) := fun u hu => by
    have h9 := h.below hu
    exact ⟨h9.cs k _ hd, h9.c0, h9.c1, h9.c2, h9.fz _, h9.fz _, h9.fz _, h9.fz _⟩
  have hxl : ((n : Int) == 0) = false := by simp; omega
  have hx1 : ¬ (1024 : Int) < (n : Int) := by omega
  have HX : Hid (∀ u, Below w.heap.size w u → Rd u ao xs) := fun u hu => Rd.below hx hu
  have HNL : Hid _ := hnil
  have HNX : Hid _ := hn
  rw [← hn] at HWI
  have q22 : ∀ (w : World) (a : Option Addr) (n c n' c' : Nat), (binOp .neq 34 (.slice a n c) (.slice none n' c')).run Tryz.prog w = .ok (.bool (!a.isNone)) w := fun w a n c n' c' => run_neq_slice_nil_any w _ _ a n c n' c' Tryz.underlying34
  have hpk0 : ¬ 3 + k = 0 := by omega
  have hpk1 : ¬ 3 + k = 1 := by omega
  have hpk2 : ¬ 3 + k = 2 := by omega
  clear h hcs hx hnil hy hy2 hd hn hwi hfit hz
  rcases hft : fitS (S.set k xs) with _ | _
  · rw [hft] at HWI
    simp only [Bool.false_eq_true, if_false]
    generalize S.length = N at *
    generalize lenS S = l at *
    generalize lastS S = z at *
    go_enter Tryz.func66, Tryz.ntmps66
    go_wp2_with (first | (go_at_call 82; refine Calls.mono HM.out ?_; rintro e w' ⟨rfl, hq⟩; have hq := hq.symm; subst hq) | (go_at_call 83; refine Calls.mono (HN.out _) ?_; rintro e w1 ⟨rfl, hb1⟩; obtain ⟨t0, t1, t2, t3, -, -, -, -⟩ := HCS.out _ hb1; have HB1 : Hid _ := hb1; clear hb1) | (go_at_call 85; refine Calls.mono (HWI.out _) ?_; rintro e w2 ⟨rfl, hb2⟩; have HB2 : Hid (Below w.heap.size w w2) := below_next HB1.out hb2; clear hb2))
    go_ret
    exact ⟨rfl, V, HW.out.below (al HB2.out _), Chg.of_below (al HB2.out _), fun b hb => .inl hb⟩
  · rw [hft] at HWI
    simp only [if_true]
    obtain ⟨ea, el, ez⟩ := HFI.out hft
    have HEL : Hid _ := el
    have HEZ : Hid _ := ez
    have HEA : Hid _ := ea
    have HFT : Hid _ := hft
    clear ea el ez hft
    obtain ⟨N, hN⟩ : ∃ N, N = S.length := ⟨_, rfl⟩
    rw [← hN] at c0 HN HWI HCS
    have HNN : Hid _ := hN
    clear hN
    obtain ⟨l, hlq⟩ : ∃ l, l = lenS S := ⟨_, rfl⟩
    obtain ⟨z, hzq⟩ : ∃ z, z = lastS S := ⟨_, rfl⟩
    rw [← hlq] at c1 HN HWI HCS
    rw [← hzq] at c2 HN HWI HCS
    clear hlq hzq
    go_enter Tryz.func66, Tryz.ntmps66
    go_wp2_with (first | (go_at_call 82; refine Calls.mono HM.out ?_; rintro e w' ⟨rfl, hq⟩; have hq := hq.symm; subst hq) | (go_at_call 83; refine Calls.mono (HN.out _) ?_; rintro e w1 ⟨rfl, hb1⟩; obtain ⟨t0, t1, t2, t3, -, -, -, -⟩ := HCS.out _ hb1; have HB1 : Hid _ := hb1; clear hb1) | (go_at_call 85; refine Calls.mono (HWI.out _) ?_; rintro e w2 ⟨rfl, hb2⟩; have HB2 : Hid (Below w.heap.size w w2) := below_next HB1.out hb2; clear hb2))
    have HB3 : Hid (Below w.heap.size w (w2.alloc (.cells #[iv a, iv l2, iv z2] tSh))) := al HB2.out _
    have HS3 : Hid ((w2.alloc (.cells #[iv a, iv l2, iv z2] tSh)).heap[w2.heap.size]? = some (.cells #[iv a, iv l2, iv z2] tSh (0, 0))) := heap_alloc_new _ _
    have HG3 : Hid (p < w2.heap.size) := Nat.lt_of_lt_of_le hp HB2.out.size
    obtain ⟨g, hg⟩ : ∃ g, g = w2.heap.size := ⟨_, rfl⟩
    rw [← hg] at HS3 HG3
    rw [← hg]
    generalize w2.alloc (.cells #[iv a, iv l2, iv z2] tSh) = W at *
    clear hg
    refine wp_region_noPanic ?_
    refine wp_region_held_drew (S := (fun u => u.cell? ⟨g, 0, none⟩ = some (iv a) ∧ u.cell? ⟨g, 1, none⟩ = some (iv l2) ∧ u.cell? ⟨g, 2, none⟩ = some (iv z2))) (by kernel_rfl) (by with_reducible first | exact cells3 HS3.out | exact (show _ from cells3 (drew_heap HS3.out)) | exact cells3 HS4.out | exact cells3 ((set3_blk _ _ _ _ _ _ (by have := HG3.out; omega)).trans HS4.out) | exact cells3 ((heap_setCell_other _ _ _ _ (by have := HG3.out; show g ≠ p; omega)).trans ((set3_blk _ _ _ _ _ _ (by have := HG3.out; omega)).trans HS4.out))) (fun hHeld => ?_)
    refine tz (i := 0) 56 rfl rfl hHeld ?_
    simp only [pS]
    refine tz (i := 1) 57 rfl rfl hHeld ?_
    simp only [pS]
    refine tz (i := 2) 58 rfl rfl hHeld ?_
    simp only [pS]
    refine tk (i := 3) 59 (v := ?_) rfl rfl ?_ hHeld ?_
    rotate_left
    · (intro w hSw; obtain ⟨x0, x1, x2⟩ := hSw; go_simp; try with_reducible rfl)
    simp only [pS]
    refine tz (i := 4) 60 rfl rfl hHeld ?_
    simp only [pS]
    refine tz (i := 9) 64 rfl rfl hHeld ?_
    simp only [pS]
    refine tz (i := 10) 65 rfl rfl hHeld ?_
    simp only [pS]
    refine run_at (i := 5) rfl (by kernel_rfl) (by rfl) (fun K hK => ?_)
    simp only [List.getElem_toArray, List.getElem_cons_zero, List.getElem_cons_succ]
    go_simp
    (go_at_call 86; refine Calls.mono (clone_n ao n cap xs HNX.out _ (HX.out _ HB3.out.drew) HNL.out (by omega)) ?_; rintro e w4 ⟨u4, rfl, hown4, hb4⟩; obtain ⟨a4, c4, hv4, -⟩ := hown4.val; rw [← HNX.out] at hv4; subst hv4; have HS4 : Hid (w4.heap[g]? = some (.cells #[iv a, iv l2, iv z2] tSh (0, 0))) := (hb4.block _ (Array.getElem?_eq_some_iff.1 HS3.out).1).trans HS3.out; have HB4 : Hid (Below w.heap.size w w4) := below_next HB3.out.drew hb4; obtain ⟨s3, s0, s1, s2, f0, f1, f2, f3⟩ := HCS.out _ HB4.out; have HO4 : Hid _ := hown4; have HBW : Hid _ := hb4; clear hown4 hb4)
    go_wp2_with fail
    refine hK.out _ _ (by with_reducible first | exact cells3 HS3.out | exact (show _ from cells3 (drew_heap HS3.out)) | exact cells3 HS4.out | exact cells3 ((set3_blk _ _ _ _ _ _ (by have := HG3.out; omega)).trans HS4.out) | exact cells3 ((heap_setCell_other _ _ _ _ (by have := HG3.out; show g ≠ p; omega)).trans ((set3_blk _ _ _ _ _ _ (by have := HG3.out; omega)).trans HS4.out))) ?_
    clear hK K
    intro hHeld2
    clear hHeld
    have hHeld := hHeld2
    clear hHeld2
    try simp only [pS]
    refine tz (i := 6) 62 rfl rfl hHeld ?_
    simp only [pS]
    refine tz (i := 7) 63 rfl rfl hHeld ?_
    simp only [pS]
    refine run_at (i := 8) rfl (by kernel_rfl) (by rfl) (fun K hK => ?_)
    simp only [List.getElem_toArray, List.getElem_cons_zero, List.getElem_cons_succ]
    go_simp
    go_wp2_with fail
    refine hK.out _ _ (by with_reducible first | exact cells3 HS3.out | exact (show _ from cells3 (drew_heap HS3.out)) | exact cells3 HS4.out | exact cells3 ((set3_blk _ _ _ _ _ _ (by have := HG3.out; omega)).trans HS4.out) | exact cells3 ((heap_setCell_other _ _ _ _ (by have := HG3.out; show g ≠ p; omega)).trans ((set3_blk _ _ _ _ _ _ (by have := HG3.out; omega)).trans HS4.out))) ?_
    clear hK K
    intro hHeld2
    clear hHeld
    have hHeld := hHeld2
    clear hHeld2
    try simp only [pS]
    refine tz (i := 11) 66 rfl rfl hHeld ?_
    simp only [pS]
    refine run_at (i := 12) rfl (by kernel_rfl) (by rfl) (fun K hK => ?_)
    simp only [List.getElem_toArray, List.getElem_cons_zero, List.getElem_cons_succ]
    go_simp
    go_wp2_with fail
    refine hK.out _ _ (by with_reducible first | exact cells3 HS3.out | exact (show _ from cells3 (drew_heap HS3.out)) | exact cells3 HS4.out | exact cells3 ((set3_blk _ _ _ _ _ _ (by have := HG3.out; omega)).trans HS4.out) | exact cells3 ((heap_setCell_other _ _ _ _ (by have := HG3.out; show g ≠ p; omega)).trans ((set3_blk _ _ _ _ _ _ (by have := HG3.out; omega)).trans HS4.out))) ?_
    clear hK K
    intro hHeld2
    clear hHeld
    have hHeld := hHeld2
    clear hHeld2
    try simp only [pS]
    refine wpAnyH_done (by kernel_rfl) ?_ _
    refine NoPanic.normal ?_
    all_goals
      go_wp2
      go_ret
      refine ⟨rfl, V.set k ⟨a4, n, c4⟩, ?_, ?_, fun b hb => ?_⟩
      · have hb9 := (ByV.of_own HO4.out).1
        have h9 := (HW.out.below HB4.out).put (k := k) (d := ⟨a4, n, c4⟩) (xs := xs) (by rw [HNN.out] at *; first | exact hk | omega) (by rw [← HNX.out]; exact h1) (by rw [← HNX.out]; exact h0) hb9 HFT.out (fun ad ha => by
          have := (ByV.of_own HO4.out).2 ad ha
          have h7 : p < W.drew.heap.size := Nat.lt_of_lt_of_le hp HB3.out.size
          omega)
        rw [← HEL.out, ← HEZ.out, ← HEA.out] at h9
        exact h9
      · refine (Chg.of_below HB4.out).trans (G := fun b => b = p) ⟨rfl, rfl, rfl, by simp, fun b hb hn => ?_⟩ (fun b e => .inl e)
        exact (heap_setCell_other _ _ _ _ hn).trans (set3_blk _ _ _ _ _ _ hn)
      · rcases foot_put hb with h9 | ⟨ad, ha, rfl⟩
        · exact .inl h9
        · have := (ByV.of_own HO4.out).2 ad ha
          have h7 : w.heap.size ≤ W.drew.heap.size := HB3.out.size
          exact .inr (by omega)
end
end Go.Proofs.YtdoikcolkbjnfaaGreat
