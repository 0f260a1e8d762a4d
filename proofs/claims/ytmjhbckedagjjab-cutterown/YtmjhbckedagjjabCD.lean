import Derived.Test.YtmjhbckedagjjabCC
import Derived.Laws.ResultCell
namespace Go.Proofs.Ytmjhbckedagjjab
set_option linter.unusedVariables false
set_option linter.unusedSimpArgs false
open Go.RowKit
section
variable {w w' : World}
theorem set3_blk (w : World) (g b : Nat) (x y z : Value) (h : b ≠ g) : (((w.setCell ⟨g, 0, none⟩ x).setCell ⟨g, 1, none⟩ y).setCell ⟨g, 2, none⟩ z).heap[b]? = w.heap[b]? := by
  rw [heap_setCell_other _ _ _ _ h, heap_setCell_other _ _ _ _ h, heap_setCell_other _ _ _ _ h]
theorem set3_same (w : World) (g : Nat) (x y z a b c : Value) (t : TypeId) (h : w.heap[g]? = some (.cells #[a, b, c] t (0, 0))) : (((w.setCell ⟨g, 0, none⟩ x).setCell ⟨g, 1, none⟩ y).setCell ⟨g, 2, none⟩ z).heap[g]? = some (.cells #[x, y, z] t (0, 0)) := by
  have h1 : (w.setCell ⟨g, 0, none⟩ x).heap[g]? = some (.cells #[x, b, c] t (0, 0)) := (heap_setCell_same _ _ _ _ _ _ h).trans rfl
  have h2 : ((w.setCell ⟨g, 0, none⟩ x).setCell ⟨g, 1, none⟩ y).heap[g]? = some (.cells #[x, y, c] t (0, 0)) := (heap_setCell_same _ _ _ _ _ _ h1).trans rfl
  exact (heap_setCell_same _ _ _ _ _ _ h2).trans rfl
theorem set3_below {B : Nat} {w0 w : World} (h : Below B w0 w) (g : Nat) (x y z : Value) (hg : B ≤ g) : Below B w0 (((w.setCell ⟨g, 0, none⟩ x).setCell ⟨g, 1, none⟩ y).setCell ⟨g, 2, none⟩ z) := by
  refine ⟨h.os, h.tape, h.output, by simpa using h.size, fun k hk => ?_⟩
  rw [set3_blk _ _ _ _ _ _ (by omega)]
  exact h.block k hk
theorem infoSh : (Try.prog.info? tSh).map (fun i => (i.zero, i.size, i.bytes)) = some (some (.agg #[.int .i64 0, .int .i64 0, .int .i64 0]), 3, 24) := by kernel_rfl
theorem cells3 {w : World} {g : Nat} {a b c : Value} {t : TypeId} {fr : Nat × Nat} (h : w.heap[g]? = some (.cells #[a, b, c] t fr)) : w.cell? ⟨g, 0, none⟩ = some a ∧ w.cell? ⟨g, 1, none⟩ = some b ∧ w.cell? ⟨g, 2, none⟩ = some c :=
  ⟨by rw [cell_of_row _ _ _ _ _ _ h]; rfl, by rw [cell_of_row _ _ _ _ _ _ h]; rfl, by rw [cell_of_row _ _ _ _ _ _ h]; rfl⟩
theorem fz3 {w : World} {g : Nat} {C : Array Value} {t : TypeId} (h : w.heap[g]? = some (.cells C t (0, 0))) (i : Nat) : w.frozen? ⟨g, i, none⟩ = false := by simp [World.frozen?, h]

set_option maxRecDepth 20000 in
set_option maxHeartbeats 1600000 in
theorem with_last (N l z k m : Nat) (hN : 1 ≤ N) (hN1 : N ≤ 64) (hl : l ≤ 1024) (hz : z ≤ 1024) (hm : m ≤ 1024) (hk : k + 1 = N) :
    Calls Try.prog 35 #[shV N l z, iv k, iv m] w fun e w' => e = .returned (.tuple #[shV N l m, .bool (capB N l m)]) ∧ Below w.heap.size w w' := by
  have hw0 : IntKind.i64.wrap ((N : Int) - 1) = ((N - 1 : Nat) : Int) := by rw [IntKind.wrap_i64]; omega
  have hkk : ((k : Int) == ((N - 1 : Nat) : Int)) = true := by simp; omega
  have HF : Hid (∀ u : World, Calls _ _ _ u _) := fun u => fits_t (w := u) N l m hN hN1 (by omega) (by omega)
  generalize capB N l m = cb at *
  go_enter Try.func35, Try.ntmps35
  go_wp2
  have HB0 : Hid (Below w.heap.size w ((w.alloc (.cells #[iv N, iv l, iv m] tSh)).alloc (.cells #[iv 0, iv 0, iv 0] tSh))) := al (al (Below.refl _ _) _) _
  have HS0 : Hid (((w.alloc (.cells #[iv N, iv l, iv m] tSh)).alloc (.cells #[iv 0, iv 0, iv 0] tSh)).heap[w.heap.size]? = some (.cells #[iv N, iv l, iv m] tSh (0, 0))) := (Below.heap_alloc _ _ _ (by simp)).trans (heap_alloc_new w _)
  have HR0 : Hid (((w.alloc (.cells #[iv N, iv l, iv m] tSh)).alloc (.cells #[iv 0, iv 0, iv 0] tSh)).heap[w.heap.size + 1]? = some (.cells #[iv 0, iv 0, iv 0] tSh (0, 0))) := by
    have h9 := heap_alloc_new (w.alloc (.cells #[iv N, iv l, iv m] tSh)) (.cells #[iv 0, iv 0, iv 0] tSh)
    unfold Hid
    simpa using h9
  generalize ((w.alloc (.cells #[iv N, iv l, iv m] tSh)).alloc (.cells #[iv 0, iv 0, iv 0] tSh)) = W at *
  refine wp_region_noPanic ?_
  refine wp_region_held_drew (S := (fun u => u.cell? ⟨w.heap.size, 0, none⟩ = some (iv N) ∧ u.cell? ⟨w.heap.size, 1, none⟩ = some (iv l) ∧ u.cell? ⟨w.heap.size, 2, none⟩ = some (iv m))) (by kernel_rfl) (by first | exact cells3 HS0.out | exact cells3 HS1.out | exact cells3 ((set3_blk _ _ _ _ _ _ (by omega)).trans HS1.out)) (fun hHeld => ?_)
  refine take_at (i := 0) 28 (v := ?_) rfl rfl (by kernel_rfl) (by kernel_rfl) (by kernel_rfl) (fun _ _ _ h => h) (by rfl) ?_ hHeld ?_
  rotate_left
  · (intro w hSw; obtain ⟨x0, x1, x2⟩ := hSw; go_simp; try with_reducible rfl)
  simp only [Act.put, List.setIfInBounds_toArray, List.set_cons_zero, List.set_cons_succ]
  refine take_at (i := 1) 29 (v := ?_) rfl rfl (by kernel_rfl) (by kernel_rfl) (by kernel_rfl) (fun _ _ _ h => h) (by rfl) ?_ hHeld ?_
  rotate_left
  · (intro w hSw; obtain ⟨x0, x1, x2⟩ := hSw; go_simp; try with_reducible rfl)
  simp only [Act.put, List.setIfInBounds_toArray, List.set_cons_zero, List.set_cons_succ]
  refine run_at (i := 2) rfl (by kernel_rfl) (by rfl) (fun K hK => ?_)
  simp only [List.getElem_toArray, List.getElem_cons_zero, List.getElem_cons_succ]
  go_simp
  (go_at_call 42; refine Calls.mono (HF.out _) ?_; rintro e w1 ⟨rfl, hb1⟩; have HS1 : Hid (w1.heap[w.heap.size]? = some (.cells #[iv N, iv l, iv m] tSh (0, 0))) := (hb1.block _ (Array.getElem?_eq_some_iff.1 HS0.out).1).trans HS0.out; have HR1 : Hid (w1.heap[w.heap.size + 1]? = some (.cells #[iv 0, iv 0, iv 0] tSh (0, 0))) := (hb1.block _ (Array.getElem?_eq_some_iff.1 HR0.out).1).trans HR0.out; have HB1 : Hid (Below w.heap.size w w1) := below_next HB0.out.drew hb1; obtain ⟨y0, y1, y2⟩ := cells3 HR1.out; have f0 := fz3 HR1.out 0; have f1 := fz3 HR1.out 1; have f2 := fz3 HR1.out 2; clear hb1)
  go_wp2_with fail
  refine hK.out _ _ (by first | exact cells3 HS0.out | exact cells3 HS1.out | exact cells3 ((set3_blk _ _ _ _ _ _ (by omega)).trans HS1.out)) ?_
  clear hK K
  intro hHeld2
  clear hHeld
  have hHeld := hHeld2
  clear hHeld2
  try simp only [Act.put, List.setIfInBounds_toArray, List.set_cons_zero, List.set_cons_succ]
  refine run_at (i := 3) rfl (by kernel_rfl) (by rfl) (fun K hK => ?_)
  simp only [List.getElem_toArray, List.getElem_cons_zero, List.getElem_cons_succ]
  go_simp
  go_wp2_with fail
  refine hK.out _ _ (by first | exact cells3 HS0.out | exact cells3 HS1.out | exact cells3 ((set3_blk _ _ _ _ _ _ (by omega)).trans HS1.out)) ?_
  clear hK K
  intro hHeld2
  clear hHeld
  have hHeld := hHeld2
  clear hHeld2
  try simp only [Act.put, List.setIfInBounds_toArray, List.set_cons_zero, List.set_cons_succ]
  refine take_at (i := 4) 7 (v := ?_) rfl rfl (by kernel_rfl) (by kernel_rfl) (by kernel_rfl) (fun _ _ _ h => h) (by rfl) ?_ hHeld ?_
  rotate_left
  · (intro w hSw; (try dsimp only at hSw); go_simp; try with_reducible rfl)
  simp only [Act.put, List.setIfInBounds_toArray, List.set_cons_zero, List.set_cons_succ]
  refine wpAnyH_done (by kernel_rfl) ?_ _
  refine NoPanic.normal ?_
  all_goals
    go_wp2
    refine bodyPost_ret (results_ct rfl _ _ (w.heap.size + 1) tSh _ (0, 0) _ rfl (set3_same _ _ _ _ _ _ _ _ _ HR1.out) Try.underlying37 rfl (by kernel_rfl)) rfl ?_
    exact ⟨rfl, set3_below HB1.out _ _ _ _ (by omega)⟩
set_option maxRecDepth 20000 in
set_option maxHeartbeats 1600000 in
theorem with_first (N l z k m : Nat) (hN : 1 ≤ N) (hN1 : N ≤ 64) (hl : l ≤ 1024) (hz : z ≤ 1024) (hm : m ≤ 1024) (hk : k + 1 < N) :
    Calls Try.prog 35 #[shV N 0 z, iv k, iv m] w fun e w' => e = .returned (.tuple #[shV N m z, .bool (capB N m z)]) ∧ Below w.heap.size w w' := by
  have hw0 : IntKind.i64.wrap ((N : Int) - 1) = ((N - 1 : Nat) : Int) := by rw [IntKind.wrap_i64]; omega
  have hkk : ((k : Int) == ((N - 1 : Nat) : Int)) = false := by simp; omega
  have HF : Hid (∀ u : World, Calls _ _ _ u _) := fun u => fits_t (w := u) N m z hN hN1 (by omega) (by omega)
  generalize capB N m z = cb at *
  go_enter Try.func35, Try.ntmps35
  go_wp2
  have HB0 : Hid (Below w.heap.size w ((w.alloc (.cells #[iv N, iv m, iv z] tSh)).alloc (.cells #[iv 0, iv 0, iv 0] tSh))) := al (al (Below.refl _ _) _) _
  have HS0 : Hid (((w.alloc (.cells #[iv N, iv m, iv z] tSh)).alloc (.cells #[iv 0, iv 0, iv 0] tSh)).heap[w.heap.size]? = some (.cells #[iv N, iv m, iv z] tSh (0, 0))) := (Below.heap_alloc _ _ _ (by simp)).trans (heap_alloc_new w _)
  have HR0 : Hid (((w.alloc (.cells #[iv N, iv m, iv z] tSh)).alloc (.cells #[iv 0, iv 0, iv 0] tSh)).heap[w.heap.size + 1]? = some (.cells #[iv 0, iv 0, iv 0] tSh (0, 0))) := by
    have h9 := heap_alloc_new (w.alloc (.cells #[iv N, iv m, iv z] tSh)) (.cells #[iv 0, iv 0, iv 0] tSh)
    unfold Hid
    simpa using h9
  generalize ((w.alloc (.cells #[iv N, iv m, iv z] tSh)).alloc (.cells #[iv 0, iv 0, iv 0] tSh)) = W at *
  refine wp_region_noPanic ?_
  refine wp_region_held_drew (S := (fun u => u.cell? ⟨w.heap.size, 0, none⟩ = some (iv N) ∧ u.cell? ⟨w.heap.size, 1, none⟩ = some (iv m) ∧ u.cell? ⟨w.heap.size, 2, none⟩ = some (iv z))) (by kernel_rfl) (by first | exact cells3 HS0.out | exact cells3 HS1.out | exact cells3 ((set3_blk _ _ _ _ _ _ (by omega)).trans HS1.out)) (fun hHeld => ?_)
  refine take_at (i := 0) 28 (v := ?_) rfl rfl (by kernel_rfl) (by kernel_rfl) (by kernel_rfl) (fun _ _ _ h => h) (by rfl) ?_ hHeld ?_
  rotate_left
  · (intro w hSw; obtain ⟨x0, x1, x2⟩ := hSw; go_simp; try with_reducible rfl)
  simp only [Act.put, List.setIfInBounds_toArray, List.set_cons_zero, List.set_cons_succ]
  refine take_at (i := 1) 29 (v := ?_) rfl rfl (by kernel_rfl) (by kernel_rfl) (by kernel_rfl) (fun _ _ _ h => h) (by rfl) ?_ hHeld ?_
  rotate_left
  · (intro w hSw; obtain ⟨x0, x1, x2⟩ := hSw; go_simp; try with_reducible rfl)
  simp only [Act.put, List.setIfInBounds_toArray, List.set_cons_zero, List.set_cons_succ]
  refine run_at (i := 2) rfl (by kernel_rfl) (by rfl) (fun K hK => ?_)
  simp only [List.getElem_toArray, List.getElem_cons_zero, List.getElem_cons_succ]
  go_simp
  (go_at_call 42; refine Calls.mono (HF.out _) ?_; rintro e w1 ⟨rfl, hb1⟩; have HS1 : Hid (w1.heap[w.heap.size]? = some (.cells #[iv N, iv m, iv z] tSh (0, 0))) := (hb1.block _ (Array.getElem?_eq_some_iff.1 HS0.out).1).trans HS0.out; have HR1 : Hid (w1.heap[w.heap.size + 1]? = some (.cells #[iv 0, iv 0, iv 0] tSh (0, 0))) := (hb1.block _ (Array.getElem?_eq_some_iff.1 HR0.out).1).trans HR0.out; have HB1 : Hid (Below w.heap.size w w1) := below_next HB0.out.drew hb1; obtain ⟨y0, y1, y2⟩ := cells3 HR1.out; have f0 := fz3 HR1.out 0; have f1 := fz3 HR1.out 1; have f2 := fz3 HR1.out 2; clear hb1)
  go_wp2_with fail
  refine hK.out _ _ (by first | exact cells3 HS0.out | exact cells3 HS1.out | exact cells3 ((set3_blk _ _ _ _ _ _ (by omega)).trans HS1.out)) ?_
  clear hK K
  intro hHeld2
  clear hHeld
  have hHeld := hHeld2
  clear hHeld2
  try simp only [Act.put, List.setIfInBounds_toArray, List.set_cons_zero, List.set_cons_succ]
  refine run_at (i := 3) rfl (by kernel_rfl) (by rfl) (fun K hK => ?_)
  simp only [List.getElem_toArray, List.getElem_cons_zero, List.getElem_cons_succ]
  go_simp
  go_wp2_with fail
  refine hK.out _ _ (by first | exact cells3 HS0.out | exact cells3 HS1.out | exact cells3 ((set3_blk _ _ _ _ _ _ (by omega)).trans HS1.out)) ?_
  clear hK K
  intro hHeld2
  clear hHeld
  have hHeld := hHeld2
  clear hHeld2
  try simp only [Act.put, List.setIfInBounds_toArray, List.set_cons_zero, List.set_cons_succ]
  refine take_at (i := 4) 7 (v := ?_) rfl rfl (by kernel_rfl) (by kernel_rfl) (by kernel_rfl) (fun _ _ _ h => h) (by rfl) ?_ hHeld ?_
  rotate_left
  · (intro w hSw; (try dsimp only at hSw); go_simp; try with_reducible rfl)
  simp only [Act.put, List.setIfInBounds_toArray, List.set_cons_zero, List.set_cons_succ]
  refine wpAnyH_done (by kernel_rfl) ?_ _
  refine NoPanic.normal ?_
  all_goals
    go_wp2
    refine bodyPost_ret (results_ct rfl _ _ (w.heap.size + 1) tSh _ (0, 0) _ rfl (set3_same _ _ _ _ _ _ _ _ _ HR1.out) Try.underlying37 rfl (by kernel_rfl)) rfl ?_
    exact ⟨rfl, set3_below HB1.out _ _ _ _ (by omega)⟩
set_option maxRecDepth 20000 in
set_option maxHeartbeats 1600000 in
theorem with_same (N l z k m : Nat) (hN : 1 ≤ N) (hN1 : N ≤ 64) (hl : l ≤ 1024) (hz : z ≤ 1024) (hm : m ≤ 1024) (hk : k + 1 < N) (hl0 : l ≠ 0) :
    Calls Try.prog 35 #[shV N l z, iv k, iv l] w fun e w' => e = .returned (.tuple #[shV N l z, .bool (capB N l z)]) ∧ Below w.heap.size w w' := by
  have hw0 : IntKind.i64.wrap ((N : Int) - 1) = ((N - 1 : Nat) : Int) := by rw [IntKind.wrap_i64]; omega
  have hkk : ((k : Int) == ((N - 1 : Nat) : Int)) = false := by simp; omega
  have hl1 : ((l : Int) == 0) = false := by simp; omega
  have hlm : ((l : Int) != (l : Int)) = false := by simp
  have HF : Hid (∀ u : World, Calls _ _ _ u _) := fun u => fits_t (w := u) N l z hN hN1 (by omega) (by omega)
  generalize capB N l z = cb at *
  go_enter Try.func35, Try.ntmps35
  go_wp2
  have HB0 : Hid (Below w.heap.size w ((w.alloc (.cells #[iv N, iv l, iv z] tSh)).alloc (.cells #[iv 0, iv 0, iv 0] tSh))) := al (al (Below.refl _ _) _) _
  have HS0 : Hid (((w.alloc (.cells #[iv N, iv l, iv z] tSh)).alloc (.cells #[iv 0, iv 0, iv 0] tSh)).heap[w.heap.size]? = some (.cells #[iv N, iv l, iv z] tSh (0, 0))) := (Below.heap_alloc _ _ _ (by simp)).trans (heap_alloc_new w _)
  have HR0 : Hid (((w.alloc (.cells #[iv N, iv l, iv z] tSh)).alloc (.cells #[iv 0, iv 0, iv 0] tSh)).heap[w.heap.size + 1]? = some (.cells #[iv 0, iv 0, iv 0] tSh (0, 0))) := by
    have h9 := heap_alloc_new (w.alloc (.cells #[iv N, iv l, iv z] tSh)) (.cells #[iv 0, iv 0, iv 0] tSh)
    unfold Hid
    simpa using h9
  generalize ((w.alloc (.cells #[iv N, iv l, iv z] tSh)).alloc (.cells #[iv 0, iv 0, iv 0] tSh)) = W at *
  refine wp_region_noPanic ?_
  refine wp_region_held_drew (S := (fun u => u.cell? ⟨w.heap.size, 0, none⟩ = some (iv N) ∧ u.cell? ⟨w.heap.size, 1, none⟩ = some (iv l) ∧ u.cell? ⟨w.heap.size, 2, none⟩ = some (iv z))) (by kernel_rfl) (by first | exact cells3 HS0.out | exact cells3 HS1.out | exact cells3 ((set3_blk _ _ _ _ _ _ (by omega)).trans HS1.out)) (fun hHeld => ?_)
  refine take_at (i := 0) 28 (v := ?_) rfl rfl (by kernel_rfl) (by kernel_rfl) (by kernel_rfl) (fun _ _ _ h => h) (by rfl) ?_ hHeld ?_
  rotate_left
  · (intro w hSw; obtain ⟨x0, x1, x2⟩ := hSw; go_simp; try with_reducible rfl)
  simp only [Act.put, List.setIfInBounds_toArray, List.set_cons_zero, List.set_cons_succ]
  refine take_at (i := 1) 29 (v := ?_) rfl rfl (by kernel_rfl) (by kernel_rfl) (by kernel_rfl) (fun _ _ _ h => h) (by rfl) ?_ hHeld ?_
  rotate_left
  · (intro w hSw; obtain ⟨x0, x1, x2⟩ := hSw; go_simp; try with_reducible rfl)
  simp only [Act.put, List.setIfInBounds_toArray, List.set_cons_zero, List.set_cons_succ]
  refine run_at (i := 2) rfl (by kernel_rfl) (by rfl) (fun K hK => ?_)
  simp only [List.getElem_toArray, List.getElem_cons_zero, List.getElem_cons_succ]
  go_simp
  (go_at_call 42; refine Calls.mono (HF.out _) ?_; rintro e w1 ⟨rfl, hb1⟩; have HS1 : Hid (w1.heap[w.heap.size]? = some (.cells #[iv N, iv l, iv z] tSh (0, 0))) := (hb1.block _ (Array.getElem?_eq_some_iff.1 HS0.out).1).trans HS0.out; have HR1 : Hid (w1.heap[w.heap.size + 1]? = some (.cells #[iv 0, iv 0, iv 0] tSh (0, 0))) := (hb1.block _ (Array.getElem?_eq_some_iff.1 HR0.out).1).trans HR0.out; have HB1 : Hid (Below w.heap.size w w1) := below_next HB0.out.drew hb1; obtain ⟨y0, y1, y2⟩ := cells3 HR1.out; have f0 := fz3 HR1.out 0; have f1 := fz3 HR1.out 1; have f2 := fz3 HR1.out 2; clear hb1)
  go_wp2_with fail
  refine hK.out _ _ (by first | exact cells3 HS0.out | exact cells3 HS1.out | exact cells3 ((set3_blk _ _ _ _ _ _ (by omega)).trans HS1.out)) ?_
  clear hK K
  intro hHeld2
  clear hHeld
  have hHeld := hHeld2
  clear hHeld2
  try simp only [Act.put, List.setIfInBounds_toArray, List.set_cons_zero, List.set_cons_succ]
  refine run_at (i := 3) rfl (by kernel_rfl) (by rfl) (fun K hK => ?_)
  simp only [List.getElem_toArray, List.getElem_cons_zero, List.getElem_cons_succ]
  go_simp
  go_wp2_with fail
  refine hK.out _ _ (by first | exact cells3 HS0.out | exact cells3 HS1.out | exact cells3 ((set3_blk _ _ _ _ _ _ (by omega)).trans HS1.out)) ?_
  clear hK K
  intro hHeld2
  clear hHeld
  have hHeld := hHeld2
  clear hHeld2
  try simp only [Act.put, List.setIfInBounds_toArray, List.set_cons_zero, List.set_cons_succ]
  refine take_at (i := 4) 7 (v := ?_) rfl rfl (by kernel_rfl) (by kernel_rfl) (by kernel_rfl) (fun _ _ _ h => h) (by rfl) ?_ hHeld ?_
  rotate_left
  · (intro w hSw; (try dsimp only at hSw); go_simp; try with_reducible rfl)
  simp only [Act.put, List.setIfInBounds_toArray, List.set_cons_zero, List.set_cons_succ]
  refine wpAnyH_done (by kernel_rfl) ?_ _
  refine NoPanic.normal ?_
  all_goals
    go_wp2
    refine bodyPost_ret (results_ct rfl _ _ (w.heap.size + 1) tSh _ (0, 0) _ rfl (set3_same _ _ _ _ _ _ _ _ _ HR1.out) Try.underlying37 rfl (by kernel_rfl)) rfl ?_
    exact ⟨rfl, set3_below HB1.out _ _ _ _ (by omega)⟩
set_option maxRecDepth 20000 in
set_option maxHeartbeats 1600000 in
theorem with_no (N l z k m : Nat) (hN : 1 ≤ N) (hN1 : N ≤ 64) (hl : l ≤ 1024) (hz : z ≤ 1024) (hm : m ≤ 1024) (hk : k + 1 < N) (hl0 : l ≠ 0) (he : l ≠ m) :
    Calls Try.prog 35 #[shV N l z, iv k, iv m] w fun e w' => e = .returned (.tuple #[.agg #[iv 0, iv 0, iv 0], .bool false]) ∧ Below w.heap.size w w' := by
  have hw0 : IntKind.i64.wrap ((N : Int) - 1) = ((N - 1 : Nat) : Int) := by rw [IntKind.wrap_i64]; omega
  have hkk : ((k : Int) == ((N - 1 : Nat) : Int)) = false := by simp; omega
  have hl1 : ((l : Int) == 0) = false := by simp; omega
  have hlm : ((l : Int) != (m : Int)) = true := by simp; omega
  have hlm2 : ¬ (l : Int) = (m : Int) := by omega
  go_enter Try.func35, Try.ntmps35
  go_wp2
  refine bodyPost_ret (results_ct rfl _ _ (w.heap.size + 1) tSh _ (0, 0) _ rfl (by have h9 := heap_alloc_new (w.alloc (.cells #[iv N, iv l, iv z] tSh)) (.cells #[iv 0, iv 0, iv 0] tSh); rw [show (w.alloc (.cells #[iv N, iv l, iv z] tSh)).heap.size = w.heap.size + 1 by simp] at h9; exact h9) Try.underlying37 rfl (by kernel_rfl)) rfl ?_
  exact ⟨rfl, al (al (Below.refl _ _) _) _⟩
end
end Go.Proofs.Ytmjhbckedagjjab