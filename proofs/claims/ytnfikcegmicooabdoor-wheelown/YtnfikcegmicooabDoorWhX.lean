import Derived.Test.YtnfikcegmicooabDoorWhW
import Derived.Test.YtnfikcegmicooabDoorGShelf
namespace Go.Proofs.YtnfikcegmicooabDoor
set_option linter.unusedVariables false
set_option linter.unusedSimpArgs false
open Go.RowKit Go.Shelf Go.Sort
section
set_option maxRecDepth 20000
set_option maxHeartbeats 1600000
theorem nan_t (x : Int) (w : World) : Calls Tryd.prog 42 #[.int .u64 x] w fun e w' => e = .returned (.bool false) ∧ w' = w := by
  go_enter Tryd.func42, Tryd.ntmps42
  go_wp2
  go_ret
  exact ⟨by simp, rfl⟩
theorem cmp_t (x y : Int) (w : World) : Calls Tryd.prog 29 #[.int .u64 x, .int .u64 y] w fun e w' => e = .returned (.int .i64 (Lib.compareInt x y)) ∧ w' = w := by
  have HR : Hid (Lib.compareInt x y = if x < y then -1 else if x > y then 1 else 0) := rfl
  obtain ⟨r, hr⟩ : ∃ r, r = Lib.compareInt x y := ⟨_, rfl⟩
  rw [← hr]
  have HQ : Hid (r = if x < y then -1 else if x > y then 1 else 0) := by unfold Hid; rw [hr]; exact HR.out
  clear hr HR
  by_cases h1 : x < y
  · have h9 : Hid (r = -1) := by have := HQ.out; unfold Hid; rw [if_pos h1] at this; exact this
    clear HQ
    go_enter Tryd.func29, Tryd.ntmps29
    go_wp2_with (go_at_call 42; refine (nan_t _ _).mono ?_; rintro e w' ⟨rfl, rfl⟩)
    go_ret
    rw [h9.out]
    exact ⟨rfl, rfl⟩
  · by_cases h2 : y < x
    · have h9 : Hid (r = 1) := by have := HQ.out; unfold Hid; rw [if_neg h1, if_pos h2] at this; exact this
      clear HQ
      go_enter Tryd.func29, Tryd.ntmps29
      go_wp2_with (go_at_call 42; refine (nan_t _ _).mono ?_; rintro e w' ⟨rfl, rfl⟩)
      go_ret
      rw [h9.out]
      exact ⟨rfl, rfl⟩
    · have h9 : Hid (r = 0) := by have := HQ.out; unfold Hid; rw [if_neg h1, if_neg h2] at this; exact this
      clear HQ
      go_enter Tryd.func29, Tryd.ntmps29
      go_wp2_with (go_at_call 42; refine (nan_t _ _).mono ?_; rintro e w' ⟨rfl, rfl⟩)
      go_ret
      rw [h9.out]
      exact ⟨rfl, rfl⟩
theorem or_t (g c : Nat) (a b : Int) (w : World) (ha : w.cell? ⟨g, 0, none⟩ = some (.int .i64 a)) (hb : w.cell? ⟨g, 1, none⟩ = some (.int .i64 b)) : Calls Tryd.prog 28 #[.slice (some ⟨g, 0, none⟩) 2 c] w fun e w' => e = .returned (.int .i64 (if a = 0 then b else a)) ∧ w' = w := by
  go_enter Tryd.func28, Tryd.ntmps28
  go_wp2
  go_loop [8] (fun i => (i = .int .i64 0) ∨ (i = .int .i64 1 ∧ a = 0) ∨ (i = .int .i64 2 ∧ a = 0 ∧ b = 0)) (fun i => 2 - (intOf i).toNat)
  case atStart => exact .inl rfl
  case round =>
    rcases hrel with rfl | ⟨rfl, h0⟩ | ⟨rfl, h0, h1⟩
    · by_cases h : a = 0
      · have hn : (a != 0) = false := by simp [h]
        go_wp2
        go_round
        case rel => exact .inr (.inl ⟨rfl, h⟩)
        case measure => simp [intOf]
      · have hn : (a != 0) = true := by simp [h]
        go_wp2
        go_ret
        exact ⟨rfl, rfl⟩
    · by_cases h : b = 0
      · have hn : (b != 0) = false := by simp [h]
        go_wp2
        go_round
        case rel => exact .inr (.inr ⟨rfl, h0, h⟩)
        case measure => simp [intOf]
      · have hn : (b != 0) = true := by simp [h]
        go_wp2
        go_ret
        exact ⟨rfl, rfl⟩
    · go_wp2
      go_ret
      exact ⟨rfl, rfl⟩
end
theorem or_r (g c : Nat) (a b r : Int) (hr : r = if a = 0 then b else a) (w : World) (ha : w.cell? ⟨g, 0, none⟩ = some (.int .i64 a)) (hb : w.cell? ⟨g, 1, none⟩ = some (.int .i64 b)) : Calls Tryd.prog 28 #[.slice (some ⟨g, 0, none⟩) 2 c] w fun e w' => e = .returned (.int .i64 r) ∧ w' = w := by
  rw [hr]
  exact or_t g c a b w ha hb
/-- by times, then by orders -/
abbrev cmpT (x y : Tm) : Int := if Lib.compareInt x.at_ y.at_ = 0 then Lib.compareInt x.ord y.ord else Lib.compareInt x.at_ y.at_
def ltT (x y : Tm) : Prop := x.at_ < y.at_ ∨ (x.at_ = y.at_ ∧ x.ord < y.ord)
theorem ltT_ltOf (x y : Tm) : ltOf cmpT x y = true ↔ ltT x y := by
  unfold ltOf cmpT Lib.compareInt ltT
  by_cases h1 : x.at_ < y.at_
  · simp [h1]
  · by_cases h2 : x.at_ = y.at_
    · by_cases h3 : x.ord < y.ord
      · simp [h2, h3]
      · by_cases h4 : y.ord < x.ord
        · simp [h2, h3, h4]
        · simp [h2, h3, h4]
    · have h3 : y.at_ < x.at_ := by omega
      simp [h1, h2, h3]
theorem swoT : SWO (ltOf cmpT) := {
  irrefl := fun x => by
    cases h : ltOf cmpT x x
    · rfl
    · have := (ltT_ltOf x x).1 h; unfold ltT at this; omega
  trans := fun x y z h1 h2 => by
    rw [ltT_ltOf] at *
    unfold ltT at *
    omega
  ntrans := fun x y z h1 h2 => by
    have a1 : ¬ ltT x y := fun h => by rw [(ltT_ltOf x y).2 h] at h1; cases h1
    have a2 : ¬ ltT y z := fun h => by rw [(ltT_ltOf y z).2 h] at h2; cases h2
    cases h : ltOf cmpT x z
    · rfl
    · have a3 := (ltT_ltOf x z).1 h
      unfold ltT at *
      omega }
section
set_option maxRecDepth 20000
set_option maxHeartbeats 1600000
theorem clos_t (x y : Tm) (w : World) : Calls Tryd.prog 27 #[tma x, tma y] w fun e w' => e = .returned (.int .i64 (cmpT x y)) ∧ ∃ q os', w' = grow (w.drewN q) os' := by
  have HC1 : Hid _ := fun W => cmp_t (x.at_ : Int) (y.at_ : Int) W
  have HC2 : Hid _ := fun W => cmp_t (x.ord : Int) (y.ord : Int) W
  unfold cmpT
  generalize Lib.compareInt x.at_ y.at_ = r1 at HC1 ⊢
  generalize Lib.compareInt x.ord y.ord = r2 at HC2 ⊢
  obtain ⟨R, hR⟩ : ∃ R, R = (if r1 = 0 then r2 else r1) := ⟨_, rfl⟩
  rw [← hR]
  have HRR : Hid _ := hR
  clear hR
  obtain ⟨P, hP⟩ : ∃ P, P = w.heap.size := ⟨_, rfl⟩
  obtain ⟨w2, hw2⟩ : ∃ w2, w2 = (w.alloc (Obj.cells #[.int .i64 x.id, .int .u64 (x.at_ : Int), .int .u64 (x.ord : Int)] tTm)).alloc (Obj.cells #[.int .i64 y.id, .int .u64 (y.at_ : Int), .int .u64 (y.ord : Int)] tTm) := ⟨_, rfl⟩
  have hA : w2.heap[P]? = some (.cells #[.int .i64 x.id, .int .u64 (x.at_ : Int), .int .u64 (x.ord : Int)] tTm (0, 0)) := by
    rw [hw2, hP]
    exact (heap_alloc_old (w.alloc _) _ (by simp)).trans (heap_alloc_new w _)
  have hB : w2.heap[P + 1]? = some (.cells #[.int .i64 y.id, .int .u64 (y.at_ : Int), .int .u64 (y.ord : Int)] tTm (0, 0)) := by
    rw [hw2, hP]
    have h9 := heap_alloc_new (w.alloc (Obj.cells #[.int .i64 x.id, .int .u64 (x.at_ : Int), .int .u64 (x.ord : Int)] tTm)) (Obj.cells #[.int .i64 y.id, .int .u64 (y.at_ : Int), .int .u64 (y.ord : Int)] tTm)
    rw [World.size_alloc] at h9
    exact h9
  have hS2 : w2.cell? ⟨P, 1, none⟩ = some (.int .u64 (x.at_ : Int)) ∧ w2.cell? ⟨P, 2, none⟩ = some (.int .u64 (x.ord : Int)) ∧ w2.cell? ⟨P + 1, 1, none⟩ = some (.int .u64 (y.at_ : Int)) ∧ w2.cell? ⟨P + 1, 2, none⟩ = some (.int .u64 (y.ord : Int)) := ⟨(cell3 hA).2.1, (cell3 hA).2.2, (cell3 hB).2.1, (cell3 hB).2.2⟩
  have HS3 : Hid (∀ o : Obj, (w2.alloc o).cell? ⟨P, 1, none⟩ = some (.int .u64 (x.at_ : Int)) ∧ (w2.alloc o).cell? ⟨P, 2, none⟩ = some (.int .u64 (x.ord : Int)) ∧ (w2.alloc o).cell? ⟨P + 1, 1, none⟩ = some (.int .u64 (y.at_ : Int)) ∧ (w2.alloc o).cell? ⟨P + 1, 2, none⟩ = some (.int .u64 (y.ord : Int))) := fun o => by
    have hA' := (heap_alloc_old w2 o (Array.getElem?_eq_some_iff.1 hA).1).trans hA
    have hB' := (heap_alloc_old w2 o (Array.getElem?_eq_some_iff.1 hB).1).trans hB
    exact ⟨(cell3 hA').2.1, (cell3 hA').2.2, (cell3 hB').2.1, (cell3 hB').2.2⟩
  have HN : Hid (∀ a b : Value, (w2.alloc (Obj.cells #[a, b] 3)).cell? ⟨w2.heap.size, 0, none⟩ = some a ∧ (w2.alloc (Obj.cells #[a, b] 3)).cell? ⟨w2.heap.size, 1, none⟩ = some b) := fun a b => by
    have h9 := heap_alloc_new w2 (Obj.cells #[a, b] 3)
    exact ⟨by rw [cell_of_row _ _ _ _ _ _ h9]; rfl, by rw [cell_of_row _ _ _ _ _ _ h9]; rfl⟩
  clear hA hB
  go_enter Tryd.func27, Tryd.ntmps27
  go_wp2
  rw [← hw2, ← hP]
  have HW2 : Hid _ := hw2
  clear hw2 hP
  refine wp_region_noPanic ?_
  refine wp_region_held_drew (S := (fun u => u.cell? ⟨P, 1, none⟩ = some (.int .u64 (x.at_ : Int)) ∧ u.cell? ⟨P, 2, none⟩ = some (.int .u64 (x.ord : Int)) ∧ u.cell? ⟨P + 1, 1, none⟩ = some (.int .u64 (y.at_ : Int)) ∧ u.cell? ⟨P + 1, 2, none⟩ = some (.int .u64 (y.ord : Int)))) (by kernel_rfl) (by first | exact hS2 | exact HS3.out _) (fun hHeld => ?_)
  refine take_at (i := 0) 5 (v := ?_) rfl rfl (by kernel_rfl) (by kernel_rfl) (by kernel_rfl) (fun _ _ _ h => h) (by rfl) ?_ hHeld ?_
  rotate_left
  · (intro w hSw; (try dsimp only at hSw); go_simp; try with_reducible rfl)
  simp only [Act.put, List.setIfInBounds_toArray, List.set_cons_zero, List.set_cons_succ]
  refine take_at (i := 1) 6 (v := ?_) rfl rfl (by kernel_rfl) (by kernel_rfl) (by kernel_rfl) (fun _ _ _ h => h) (by rfl) ?_ hHeld ?_
  rotate_left
  · (intro w hSw; (try dsimp only at hSw); go_simp; try with_reducible rfl)
  simp only [Act.put, List.setIfInBounds_toArray, List.set_cons_zero, List.set_cons_succ]
  refine take_at (i := 2) 7 (v := ?_) rfl rfl (by kernel_rfl) (by kernel_rfl) (by kernel_rfl) (fun _ _ _ h => h) (by rfl) ?_ hHeld ?_
  rotate_left
  · (intro w hSw; (try dsimp only at hSw); go_simp; try with_reducible rfl)
  simp only [Act.put, List.setIfInBounds_toArray, List.set_cons_zero, List.set_cons_succ]
  refine take_at (i := 3) 8 (v := ?_) rfl rfl (by kernel_rfl) (by kernel_rfl) (by kernel_rfl) (fun _ _ _ h => h) (by rfl) ?_ hHeld ?_
  rotate_left
  · (intro w hSw; (try dsimp only at hSw); go_simp; try with_reducible rfl)
  simp only [Act.put, List.setIfInBounds_toArray, List.set_cons_zero, List.set_cons_succ]
  refine take_at (i := 5) 10 (v := ?_) rfl rfl (by kernel_rfl) (by kernel_rfl) (by kernel_rfl) (fun _ _ _ h => h) (by rfl) ?_ hHeld ?_
  rotate_left
  · (intro w hSw; (try dsimp only at hSw); go_simp; try with_reducible rfl)
  simp only [Act.put, List.setIfInBounds_toArray, List.set_cons_zero, List.set_cons_succ]
  refine take_at (i := 6) 11 (v := ?_) rfl rfl (by kernel_rfl) (by kernel_rfl) (by kernel_rfl) (fun _ _ _ h => h) (by rfl) ?_ hHeld ?_
  rotate_left
  · (intro w hSw; (try dsimp only at hSw); go_simp; try with_reducible rfl)
  simp only [Act.put, List.setIfInBounds_toArray, List.set_cons_zero, List.set_cons_succ]
  refine take_at (i := 7) 12 (v := ?_) rfl rfl (by kernel_rfl) (by kernel_rfl) (by kernel_rfl) (fun _ _ _ h => h) (by rfl) ?_ hHeld ?_
  rotate_left
  · (intro w hSw; (try dsimp only at hSw); go_simp; try with_reducible rfl)
  simp only [Act.put, List.setIfInBounds_toArray, List.set_cons_zero, List.set_cons_succ]
  refine take_at (i := 8) 13 (v := ?_) rfl rfl (by kernel_rfl) (by kernel_rfl) (by kernel_rfl) (fun _ _ _ h => h) (by rfl) ?_ hHeld ?_
  rotate_left
  · (intro w hSw; (try dsimp only at hSw); go_simp; try with_reducible rfl)
  simp only [Act.put, List.setIfInBounds_toArray, List.set_cons_zero, List.set_cons_succ]
  refine run_at (i := 4) rfl (by kernel_rfl) (by rfl) (fun K hK => ?_)
  simp only [List.getElem_toArray, List.getElem_cons_zero, List.getElem_cons_succ]
  go_simp
  first | (go_at_call 29; first | (with_reducible refine Calls.mono (HC1.out _) ?_; rintro e u4 ⟨rfl, hq4⟩; have hq4 := hq4.symm; subst hq4) | (with_reducible refine Calls.mono (HC2.out _) ?_; rintro e u4 ⟨rfl, hq4⟩; have hq4 := hq4.symm; subst hq4)) | (go_at_call 28; refine Calls.mono (or_r _ _ r1 r2 R HRR.out _ (HN.out _ _).1 (HN.out _ _).2) ?_; rintro e u4 ⟨rfl, hq4⟩; have hq4 := hq4.symm; subst hq4)
  go_wp2_with fail
  refine hK.out _ _ (by first | exact hS2 | exact HS3.out _) ?_
  clear hK K
  intro hHeld2
  clear hHeld
  have hHeld := hHeld2
  clear hHeld2
  try simp only [Act.put, List.setIfInBounds_toArray, List.set_cons_zero, List.set_cons_succ]
  refine run_at (i := 9) rfl (by kernel_rfl) (by rfl) (fun K hK => ?_)
  simp only [List.getElem_toArray, List.getElem_cons_zero, List.getElem_cons_succ]
  go_simp
  first | (go_at_call 29; first | (with_reducible refine Calls.mono (HC1.out _) ?_; rintro e u4 ⟨rfl, hq4⟩; have hq4 := hq4.symm; subst hq4) | (with_reducible refine Calls.mono (HC2.out _) ?_; rintro e u4 ⟨rfl, hq4⟩; have hq4 := hq4.symm; subst hq4)) | (go_at_call 28; refine Calls.mono (or_r _ _ r1 r2 R HRR.out _ (HN.out _ _).1 (HN.out _ _).2) ?_; rintro e u4 ⟨rfl, hq4⟩; have hq4 := hq4.symm; subst hq4)
  go_wp2_with fail
  refine hK.out _ _ (by first | exact hS2 | exact HS3.out _) ?_
  clear hK K
  intro hHeld2
  clear hHeld
  have hHeld := hHeld2
  clear hHeld2
  try simp only [Act.put, List.setIfInBounds_toArray, List.set_cons_zero, List.set_cons_succ]
  refine run_at (i := 10) rfl (by kernel_rfl) (by rfl) (fun K hK => ?_)
  simp only [List.getElem_toArray, List.getElem_cons_zero, List.getElem_cons_succ]
  go_simp
  go_wp2_with fail
  refine hK.out _ _ (by first | exact hS2 | exact HS3.out _) ?_
  clear hK K
  intro hHeld2
  clear hHeld
  have hHeld := hHeld2
  clear hHeld2
  try simp only [Act.put, List.setIfInBounds_toArray, List.set_cons_zero, List.set_cons_succ]
  refine run_at (i := 11) rfl (by kernel_rfl) (by rfl) (fun K hK => ?_)
  simp only [List.getElem_toArray, List.getElem_cons_zero, List.getElem_cons_succ]
  go_simp
  first | (go_at_call 29; first | (with_reducible refine Calls.mono (HC1.out _) ?_; rintro e u4 ⟨rfl, hq4⟩; have hq4 := hq4.symm; subst hq4) | (with_reducible refine Calls.mono (HC2.out _) ?_; rintro e u4 ⟨rfl, hq4⟩; have hq4 := hq4.symm; subst hq4)) | (go_at_call 28; refine Calls.mono (or_r _ _ r1 r2 R HRR.out _ (HN.out _ _).1 (HN.out _ _).2) ?_; rintro e u4 ⟨rfl, hq4⟩; have hq4 := hq4.symm; subst hq4)
  go_wp2_with fail
  refine hK.out _ _ (by first | exact hS2 | exact HS3.out _) ?_
  clear hK K
  intro hHeld2
  clear hHeld
  have hHeld := hHeld2
  clear hHeld2
  try simp only [Act.put, List.setIfInBounds_toArray, List.set_cons_zero, List.set_cons_succ]
  refine take_at (i := 12) 4 (v := ?_) rfl rfl (by kernel_rfl) (by kernel_rfl) (by kernel_rfl) (fun _ _ _ h => h) (by rfl) ?_ hHeld ?_
  rotate_left
  · (intro w hSw; (try dsimp only at hSw); go_simp; try with_reducible rfl)
  simp only [Act.put, List.setIfInBounds_toArray, List.set_cons_zero, List.set_cons_succ]
  refine wpAnyH_done (by kernel_rfl) ?_ _
  refine NoPanic.normal ?_
  go_wp2
  go_ret
  exact ⟨rfl, 1, _, by
    rw [HW2.out]
    show (((w.drewN 1).alloc _).alloc _).alloc _ = _
    rw [alloc_eq_grow, alloc_eq_grow, alloc_eq_grow, grow_grow, grow_grow]⟩
end
theorem take_putT (cur : Array Value) (ys : List Tm) (h : ys.length * 3 ≤ cur.size) : (putCells id 0 (flatM ys).toArray cur).toList.take (ys.length * 3) = flatM ys := by
  apply List.ext_getElem?
  intro j
  by_cases hj : j < ys.length * 3
  · have hj' : j < (flatM ys).length := by rw [flatM_len]; exact hj
    rw [List.getElem?_take_of_lt hj, Array.getElem?_toList]
    simp [putCells, hj', show j < cur.size by omega]
  · rw [List.getElem?_take_eq_none (by omega), List.getElem?_eq_none (by rw [flatM_len]; omega)]
section
variable [Inhabited Tm]
theorem flatK_tm (xs : List Tm) : flatK tmv 3 xs.toArray = (flatM xs).toArray := by
  refine ext_get! (by simp [flatM_len]) fun t ht => ?_
  have ht' : t < xs.length * 3 := by simpa using ht
  rw [get_flatK _ _ _ t (by simpa using ht')]
  have hq : t / 3 < xs.length := by omega
  have hx : xs.toArray[t / 3]! = xs[t / 3] := by rw [getElem!_pos _ _ (by simpa using hq)]; simp
  have h1 := flatM_get xs (t / 3) (t % 3) hq (by omega)
  rw [show t / 3 * 3 + t % 3 = t by omega] at h1
  rw [hx, getElem!_pos (flatM xs).toArray t (by simp [flatM_len]; omega)]
  have h4 : t % 3 = 0 ∨ t % 3 = 1 ∨ t % 3 = 2 := by omega
  rcases h4 with h | h | h <;>
  · rw [h] at h1 ⊢
    obtain ⟨_, h3⟩ := List.getElem?_eq_some_iff.1 h1
    simp [h3]
theorem holdsT {w : World} {g : Nat} {cur : Array Value} {e : TypeId} {xs : List Tm} (hb : w.heap[g]? = some (.cells cur e (0, 0))) (ht : cur.toList.take (xs.length * 3) = flatM xs) : HoldsK tmv 3 w g 0 xs.toArray := by
  unfold HoldsK
  rw [flatK_tm]
  intro j hj
  have hj' : j < (flatM xs).length := by simpa using hj
  have hj2 : j < xs.length * 3 := by rw [flatM_len] at hj'; exact hj'
  refine ⟨?_, by simp [World.frozen?, hb]⟩
  have h1 : (cur.toList.take (xs.length * 3))[j]? = (flatM xs)[j]? := by rw [ht]
  rw [List.getElem?_take_of_lt hj2] at h1
  simp only [World.cell?, hb, Nat.zero_add]
  simp only [Option.isSome_none, Bool.false_eq_true, if_false]
  rw [← Array.getElem?_toList, h1]
  simp [hj']
theorem heap_sortT {w : World} {g n : Nat} {os : Array Obj} {cur : Array Value} {e : TypeId} {fr : Nat × Nat} (d : Array Tm) (hb : w.heap[g]? = some (.cells cur e fr)) :
    (sortWorldK tmv 3 w g 0 n d os).heap[g]? = some (.cells (putCells id 0 (flatK tmv 3 d) cur) e fr) := by
  have hg : g < w.heap.size := (Array.getElem?_eq_some_iff.1 hb).1
  unfold sortWorldK putRowK
  rw [heap_grow_old _ _ (by simpa using hg)]
  simp [putRow, mapBlock, Sort.ahead, Array.getElem?_modify, hb, onCells]
theorem grown_sortT {w : World} {g n : Nat} {os : Array Obj} (d : Array Tm) : w.grownBy (sortWorldK tmv 3 w g 0 n d os) (some g) := by
  unfold sortWorldK putRowK
  refine ⟨rfl, rfl, rfl, by simp, fun k hk hne => ?_⟩
  rw [heap_grow_old _ _ (by simpa using hk)]
  have : g ≠ k := fun e => hne (by rw [e])
  simp [putRow, mapBlock, Sort.ahead, Array.getElem?_modify, this]
theorem ownT_sorted {w : World} {B g cap n : Nat} {os : Array Obj} {cur : Array Value} {xs ys : List Tm} (hl : ys.length = xs.length) (hB : B ≤ g) (hb : w.heap[g]? = some (.cells cur tTm (0, 0)))
    (h1 : xs.length ≤ cap) (h2 : cap ≤ maxLen) (h3 : cur.size = cap * 3) : OwnM (sortWorldK tmv 3 w g 0 n ys.toArray os) B (.slice (some ⟨g, 0, none⟩) xs.length cap) ys := by
  refine ⟨flatM_len ys, .inr ⟨g, cap, _, by rw [hl], hB, heap_sortT _ hb, by omega, h2, by simp [putCells, h3], ?_⟩⟩
  rw [flatK_tm]
  exact take_putT cur ys (by omega)
theorem perm_of_in {d d' : Array Tm} (h : PermIn 0 d.size d d') : d'.toList.Perm d.toList := by
  obtain ⟨h1, -, h3⟩ := h
  have e : d'.extract 0 d.size = d' := by rw [← h1]; simp
  rw [e] at h3
  simpa using h3
theorem pair_of_sorted {d : Array Tm} {n : Nat} (hn : n = d.size) (h : SortedIn (ltOf cmpT) 0 n d) : d.toList.Pairwise (fun x y => ¬ ltT y x) := by
  rw [List.pairwise_iff_getElem]
  intro i j hi hj hij
  have h9 := h i j (Nat.zero_le _) hij (by rw [hn]; simpa using hj)
  rw [getElem!_pos d i (by simpa using hi), getElem!_pos d j (by simpa using hj)] at h9
  intro h8
  have h7 := (ltT_ltOf _ _).2 h8
  simp at h7
  rw [h7] at h9
  cases h9
end
section
set_option maxRecDepth 20000
set_option maxHeartbeats 1600000
theorem laysF [Inhabited Tm] (g o n : Nat) (w : World) : CmpLays Tryd.prog 27 #[] tmv 3 cmpT g o n w := fun _ _ _ _ x y => clos_t x y _
theorem sort_s (B g cap : Nat) (xs : List Tm) (w : World) (h : OwnM w B (.slice (some ⟨g, 0, none⟩) xs.length cap) xs) (hl : xs.length ≤ 4398046511104) :
    Calls Tryd.prog 26 #[.slice (some ⟨g, 0, none⟩) xs.length cap, .func (.func 27) #[] #[]] w fun e w' => e = .returned (.tuple #[]) ∧ ∃ ys : List Tm, ys.Perm xs ∧ ys.Pairwise (fun x y => ¬ ltT y x) ∧ OwnM w' B (.slice (some ⟨g, 0, none⟩) xs.length cap) ys ∧ w.grownBy w' (some g) := by
  haveI : Inhabited Tm := ⟨⟨0, 0, 0⟩⟩
  rcases h.2 with ⟨h0, _⟩ | ⟨g', cap', cur, hv, hB, hg, hn, hm, hs, ht⟩
  · cases h0
  · simp only [Value.slice.injEq, Option.some.injEq, Addr.mk.injEq] at hv
    obtain ⟨⟨rfl, -⟩, -, rfl⟩ := hv
    have eg : ∀ args w, (callFunc 27 args).run Tryd.prog w = .ok (.enter 27 args) w := enters_of Tryd.func27 (by kernel_rfl) rfl
    have hcon := AnyQ.slices_SortFunc Tryd.sortR 3 Tryd.isAgg64 Tryd.sizeOf64 tmv (fun _ => rfl) (fun x v hv => by simp at hv; rcases hv with rfl | rfl | rfl <;> rfl) cmpT swoT 27 #[] g 0 cap xs.toArray w eg (laysF g 0 _ w) (holdsT hg ht) (Array.getElem?_eq_some_iff.1 hg).1 (by simp; omega)
    change Calls Tryd.prog 26 #[.slice (some ⟨g, 0, none⟩) xs.length cap, _] w _ at hcon
    refine hcon.mono ?_
    rintro e w' ⟨rfl, d', n, os, hp, hso, rfl⟩
    have hpp : d'.toList.Perm xs := by simpa using perm_of_in hp
    refine ⟨rfl, d'.toList, hpp, pair_of_sorted (by rw [hp.1]) hso, ?_, grown_sortT _⟩
    have e9 : d' = d'.toList.toArray := by simp
    rw [e9]
    simp only [List.toList_toArray]
    exact ownT_sorted (hpp.length_eq) hB hg hn hm hs
end
end Go.Proofs.YtnfikcegmicooabDoor
