import Derived.Test.YtdpkommmkcmifabRs2
import Derived.Laws.EntriesVeiled
import Derived.LoopN
namespace Go.Proofs.Ytdpkommmkcmifab
set_option linter.unusedVariables false
set_option linter.unusedSimpArgs false
open Go.RowKit
theorem boxc6 {W : World} {g : Nat} {t : TypeId} {v0 v1 v2 v3 v4 v5 : Value} (h : W.heap[g]? = some (.cells #[v0, v1, v2, v3, v4, v5] t (0, 0))) : W.cell? ⟨g, 0, none⟩ = some v0 ∧ W.cell? ⟨g, 1, none⟩ = some v1 ∧ W.cell? ⟨g, 2, none⟩ = some v2 ∧ W.cell? ⟨g, 3, none⟩ = some v3 ∧ W.cell? ⟨g, 4, none⟩ = some v4 ∧ W.cell? ⟨g, 5, none⟩ = some v5 ∧ W.frozen? ⟨g, 0, none⟩ = false ∧ W.frozen? ⟨g, 1, none⟩ = false ∧ W.frozen? ⟨g, 2, none⟩ = false ∧ W.frozen? ⟨g, 3, none⟩ = false ∧ W.frozen? ⟨g, 4, none⟩ = false ∧ W.frozen? ⟨g, 5, none⟩ = false :=
  ⟨by rw [cell_of_row W g 0 _ t _ h]; rfl, by rw [cell_of_row W g 1 _ t _ h]; rfl, by rw [cell_of_row W g 2 _ t _ h]; rfl, by rw [cell_of_row W g 3 _ t _ h]; rfl, by rw [cell_of_row W g 4 _ t _ h]; rfl, by rw [cell_of_row W g 5 _ t _ h]; rfl, frozen_of_row W g 0 _ t h, frozen_of_row W g 1 _ t h, frozen_of_row W g 2 _ t h, frozen_of_row W g 3 _ t h, frozen_of_row W g 4 _ t h, frozen_of_row W g 5 _ t h⟩
theorem below_set6 {W w : World} {g : Nat} {v0 v1 v2 v3 v4 v5 : Value} (h : Below W.heap.size W w) (hg : W.heap.size ≤ g) : Below W.heap.size W ((((((w.setCell ⟨g, 0, none⟩ v0).setCell ⟨g, 1, none⟩ v1).setCell ⟨g, 2, none⟩ v2).setCell ⟨g, 3, none⟩ v3).setCell ⟨g, 4, none⟩ v4).setCell ⟨g, 5, none⟩ v5) :=
  Below.setCell (p := ⟨g, _, none⟩) (Below.setCell (p := ⟨g, _, none⟩) (Below.setCell (p := ⟨g, _, none⟩) (Below.setCell (p := ⟨g, _, none⟩) (Below.setCell (p := ⟨g, _, none⟩) (Below.setCell (p := ⟨g, _, none⟩) (h) hg _) hg _) hg _) hg _) hg _) hg _
theorem heap_set6 {w : World} {g : Nat} {t : TypeId} {u0 u1 u2 u3 u4 u5 v0 v1 v2 v3 v4 v5 : Value} (h : w.heap[g]? = some (.cells #[u0, u1, u2, u3, u4, u5] t (0, 0))) : ((((((w.setCell ⟨g, 0, none⟩ v0).setCell ⟨g, 1, none⟩ v1).setCell ⟨g, 2, none⟩ v2).setCell ⟨g, 3, none⟩ v3).setCell ⟨g, 4, none⟩ v4).setCell ⟨g, 5, none⟩ v5).heap[g]? = some (.cells #[v0, v1, v2, v3, v4, v5] t (0, 0)) := by
  have h0 := heap_setCell_same _ g 0 _ t v0 h
  simp only [List.setIfInBounds_toArray, List.set_cons_zero, List.set_cons_succ] at h0
  have h1 := heap_setCell_same _ g 1 _ t v1 h0
  simp only [List.setIfInBounds_toArray, List.set_cons_zero, List.set_cons_succ] at h1
  have h2 := heap_setCell_same _ g 2 _ t v2 h1
  simp only [List.setIfInBounds_toArray, List.set_cons_zero, List.set_cons_succ] at h2
  have h3 := heap_setCell_same _ g 3 _ t v3 h2
  simp only [List.setIfInBounds_toArray, List.set_cons_zero, List.set_cons_succ] at h3
  have h4 := heap_setCell_same _ g 4 _ t v4 h3
  simp only [List.setIfInBounds_toArray, List.set_cons_zero, List.set_cons_succ] at h4
  have h5 := heap_setCell_same _ g 5 _ t v5 h4
  simp only [List.setIfInBounds_toArray, List.set_cons_zero, List.set_cons_succ] at h5
  exact h5
theorem gr_set6 {w : World} {g : Nat} {v0 v1 v2 v3 v4 v5 : Value} : w.grownBy ((((((w.setCell ⟨g, 0, none⟩ v0).setCell ⟨g, 1, none⟩ v1).setCell ⟨g, 2, none⟩ v2).setCell ⟨g, 3, none⟩ v3).setCell ⟨g, 4, none⟩ v4).setCell ⟨g, 5, none⟩ v5) (some g) :=
  gr_set (gr_set (gr_set (gr_set (gr_set (gr_set (World.grownBy.refl _ _) _ _) _ _) _ _) _ _) _ _) _ _
def fv (k : Nat) : Value := .func (.func k) #[] #[]
set_option maxRecDepth 20000 in
set_option maxHeartbeats 800000 in
theorem rules_any (w : World) : Calls Try.prog 87 #[] w fun e w' => e = .returned (.slice (some ⟨w.heap.size, 0, none⟩) 3 3) ∧ w' = w.alloc (.cells #[.int .u64 6, .func (.func 88) #[] #[], .int .u64 7, .func (.func 90) #[] #[], .int .u64 10, .func (.func 91) #[] #[]] 131) := by
  go_enter Try.func87, Try.ntmps87
  go_wp2
  go_ret
  exact ⟨rfl, rfl⟩
set_option maxRecDepth 20000 in
set_option maxHeartbeats 1600000 in
theorem ruleOf_six (kind : Nat) (hk : kind = 6) (w : World) : Calls Try.prog 85 #[.int .u64 kind] w fun e w' => e = .returned (.tuple #[.agg #[.int .u64 6, .func (.func 88) #[] #[]], .bool true]) ∧ Below w.heap.size w w' := by
  obtain ⟨W0, hW0⟩ : ∃ W0 : World, W0 = w.alloc (.cells #[.int .u64 0, .nilFunc] 131) := ⟨_, rfl⟩
  have hR : W0.heap[w.heap.size]? = some (.cells #[.int .u64 0, .nilFunc] 131 (0, 0)) := by rw [hW0]; exact heap_alloc_new w _
  have hb0 : Below w.heap.size w W0 := by rw [hW0]; exact al (Below.refl _ _) _
  have hs0 : W0.heap.size = w.heap.size + 1 := by rw [hW0]; simp
  go_enter Try.func85, Try.ntmps85
  go_wp2_with fail
  rw [← hW0]
  clear hW0
  refine (rules_any W0).mono ?_
  rintro e w1 ⟨rfl, hw1⟩
  have hb1 : Below W0.heap.size W0 w1 := by rw [hw1]; exact al (Below.refl _ _) _
  have hT : w1.heap[W0.heap.size]? = some (.cells #[.int .u64 6, .func (.func 88) #[] #[], .int .u64 7, .func (.func 90) #[] #[], .int .u64 10, .func (.func 91) #[] #[]] 131 (0, 0)) := by rw [hw1]; exact heap_alloc_new W0 _
  clear hw1
  have hR1 := box_on hR hb1
  have hbw1 := below_next hb0 hb1
  rw [hs0] at hT
  rw [hs0]
  obtain ⟨r0, r1, e0, e1⟩ := boxc2 hR1
  obtain ⟨t0, t1, t2, t3, t4, t5, -⟩ := boxc6 hT
  have hlt : w.heap.size + 1 < w1.heap.size := (Array.getElem?_eq_some_iff.1 hT).1
  have hltR : w.heap.size < w1.heap.size := by omega
  have hltR1 : w.heap.size < w1.heap.size + 1 := by omega
  have hltR2 : w.heap.size < w1.heap.size + 1 + 1 := by omega
  have hlt1 : w.heap.size + 1 < w1.heap.size + 1 := by omega
  have hlt2 : w.heap.size + 1 < w1.heap.size + 1 + 1 := by omega
  have HR1 : Hid _ := hR1
  clear hR1 hT hR hb1 hs0 hb0
  go_wp2
  refine wp_loop_rounds 1 ?_
  rw [rounds_succ]
  go_wp2
  all_goals
    refine bodyPost_ret (results_ct rfl _ _ w.heap.size 131 _ (0, 0) _ rfl (box_on (heap_set2 (v0 := .int .u64 6) (v1 := .func (.func 88) #[] #[]) HR1.out) (al (Below.refl _ _) _)) Try.underlying131 rfl (by kernel_rfl)) rfl ?_
    exact ⟨rfl, below_next (below_set2 hbw1 (Nat.le_refl _)) (al (Below.refl _ _) _)⟩
set_option maxRecDepth 20000 in
set_option maxHeartbeats 1600000 in
theorem ruleOf_seven (kind : Nat) (hk : kind = 7) (w : World) : Calls Try.prog 85 #[.int .u64 kind] w fun e w' => e = .returned (.tuple #[.agg #[.int .u64 7, .func (.func 90) #[] #[]], .bool true]) ∧ Below w.heap.size w w' := by
  obtain ⟨W0, hW0⟩ : ∃ W0 : World, W0 = w.alloc (.cells #[.int .u64 0, .nilFunc] 131) := ⟨_, rfl⟩
  have hR : W0.heap[w.heap.size]? = some (.cells #[.int .u64 0, .nilFunc] 131 (0, 0)) := by rw [hW0]; exact heap_alloc_new w _
  have hb0 : Below w.heap.size w W0 := by rw [hW0]; exact al (Below.refl _ _) _
  have hs0 : W0.heap.size = w.heap.size + 1 := by rw [hW0]; simp
  go_enter Try.func85, Try.ntmps85
  go_wp2_with fail
  rw [← hW0]
  clear hW0
  refine (rules_any W0).mono ?_
  rintro e w1 ⟨rfl, hw1⟩
  have hb1 : Below W0.heap.size W0 w1 := by rw [hw1]; exact al (Below.refl _ _) _
  have hT : w1.heap[W0.heap.size]? = some (.cells #[.int .u64 6, .func (.func 88) #[] #[], .int .u64 7, .func (.func 90) #[] #[], .int .u64 10, .func (.func 91) #[] #[]] 131 (0, 0)) := by rw [hw1]; exact heap_alloc_new W0 _
  clear hw1
  have hR1 := box_on hR hb1
  have hbw1 := below_next hb0 hb1
  rw [hs0] at hT
  rw [hs0]
  obtain ⟨r0, r1, e0, e1⟩ := boxc2 hR1
  obtain ⟨t0, t1, t2, t3, t4, t5, -⟩ := boxc6 hT
  have hlt : w.heap.size + 1 < w1.heap.size := (Array.getElem?_eq_some_iff.1 hT).1
  have hltR : w.heap.size < w1.heap.size := by omega
  have hltR1 : w.heap.size < w1.heap.size + 1 := by omega
  have hltR2 : w.heap.size < w1.heap.size + 1 + 1 := by omega
  have hlt1 : w.heap.size + 1 < w1.heap.size + 1 := by omega
  have hlt2 : w.heap.size + 1 < w1.heap.size + 1 + 1 := by omega
  have HR1 : Hid _ := hR1
  clear hR1 hT hR hb1 hs0 hb0
  go_wp2
  refine wp_loop_rounds 2 ?_
  rw [rounds_succ]
  go_wp2
  rw [rounds_succ]
  go_wp2
  all_goals
    refine bodyPost_ret (results_ct rfl _ _ w.heap.size 131 _ (0, 0) _ rfl (box_on (heap_set2 (v0 := .int .u64 7) (v1 := .func (.func 90) #[] #[]) HR1.out) (al (al (Below.refl _ _) _) _)) Try.underlying131 rfl (by kernel_rfl)) rfl ?_
    exact ⟨rfl, below_next (below_set2 hbw1 (Nat.le_refl _)) (al (al (Below.refl _ _) _) _)⟩
set_option maxRecDepth 20000 in
set_option maxHeartbeats 1600000 in
theorem ruleOf_ten (kind : Nat) (hk : kind = 10) (w : World) : Calls Try.prog 85 #[.int .u64 kind] w fun e w' => e = .returned (.tuple #[.agg #[.int .u64 10, .func (.func 91) #[] #[]], .bool true]) ∧ Below w.heap.size w w' := by
  obtain ⟨W0, hW0⟩ : ∃ W0 : World, W0 = w.alloc (.cells #[.int .u64 0, .nilFunc] 131) := ⟨_, rfl⟩
  have hR : W0.heap[w.heap.size]? = some (.cells #[.int .u64 0, .nilFunc] 131 (0, 0)) := by rw [hW0]; exact heap_alloc_new w _
  have hb0 : Below w.heap.size w W0 := by rw [hW0]; exact al (Below.refl _ _) _
  have hs0 : W0.heap.size = w.heap.size + 1 := by rw [hW0]; simp
  go_enter Try.func85, Try.ntmps85
  go_wp2_with fail
  rw [← hW0]
  clear hW0
  refine (rules_any W0).mono ?_
  rintro e w1 ⟨rfl, hw1⟩
  have hb1 : Below W0.heap.size W0 w1 := by rw [hw1]; exact al (Below.refl _ _) _
  have hT : w1.heap[W0.heap.size]? = some (.cells #[.int .u64 6, .func (.func 88) #[] #[], .int .u64 7, .func (.func 90) #[] #[], .int .u64 10, .func (.func 91) #[] #[]] 131 (0, 0)) := by rw [hw1]; exact heap_alloc_new W0 _
  clear hw1
  have hR1 := box_on hR hb1
  have hbw1 := below_next hb0 hb1
  rw [hs0] at hT
  rw [hs0]
  obtain ⟨r0, r1, e0, e1⟩ := boxc2 hR1
  obtain ⟨t0, t1, t2, t3, t4, t5, -⟩ := boxc6 hT
  have hlt : w.heap.size + 1 < w1.heap.size := (Array.getElem?_eq_some_iff.1 hT).1
  have hltR : w.heap.size < w1.heap.size := by omega
  have hltR1 : w.heap.size < w1.heap.size + 1 := by omega
  have hltR2 : w.heap.size < w1.heap.size + 1 + 1 := by omega
  have hlt1 : w.heap.size + 1 < w1.heap.size + 1 := by omega
  have hlt2 : w.heap.size + 1 < w1.heap.size + 1 + 1 := by omega
  have HR1 : Hid _ := hR1
  clear hR1 hT hR hb1 hs0 hb0
  go_wp2
  refine wp_loop_rounds 3 ?_
  rw [rounds_succ]
  go_wp2
  rw [rounds_succ]
  go_wp2
  rw [rounds_succ]
  go_wp2
  all_goals
    refine bodyPost_ret (results_ct rfl _ _ w.heap.size 131 _ (0, 0) _ rfl (box_on (heap_set2 (v0 := .int .u64 10) (v1 := .func (.func 91) #[] #[]) HR1.out) (al (al (al (Below.refl _ _) _) _) _)) Try.underlying131 rfl (by kernel_rfl)) rfl ?_
    exact ⟨rfl, below_next (below_set2 hbw1 (Nat.le_refl _)) (al (al (al (Below.refl _ _) _) _) _)⟩
set_option maxRecDepth 20000 in
set_option maxHeartbeats 1600000 in
theorem ruleOf_none (kind : Nat) (hk6 : ¬ kind = 6) (hk7 : ¬ kind = 7) (hk10 : ¬ kind = 10) (w : World) : Calls Try.prog 85 #[.int .u64 kind] w fun e w' => e = .returned (.tuple #[.agg #[.int .u64 0, .nilFunc], .bool false]) ∧ Below w.heap.size w w' := by
  obtain ⟨W0, hW0⟩ : ∃ W0 : World, W0 = w.alloc (.cells #[.int .u64 0, .nilFunc] 131) := ⟨_, rfl⟩
  have hR : W0.heap[w.heap.size]? = some (.cells #[.int .u64 0, .nilFunc] 131 (0, 0)) := by rw [hW0]; exact heap_alloc_new w _
  have hb0 : Below w.heap.size w W0 := by rw [hW0]; exact al (Below.refl _ _) _
  have hs0 : W0.heap.size = w.heap.size + 1 := by rw [hW0]; simp
  go_enter Try.func85, Try.ntmps85
  go_wp2_with fail
  rw [← hW0]
  clear hW0
  refine (rules_any W0).mono ?_
  rintro e w1 ⟨rfl, hw1⟩
  have hb1 : Below W0.heap.size W0 w1 := by rw [hw1]; exact al (Below.refl _ _) _
  have hT : w1.heap[W0.heap.size]? = some (.cells #[.int .u64 6, .func (.func 88) #[] #[], .int .u64 7, .func (.func 90) #[] #[], .int .u64 10, .func (.func 91) #[] #[]] 131 (0, 0)) := by rw [hw1]; exact heap_alloc_new W0 _
  clear hw1
  have hR1 := box_on hR hb1
  have hbw1 := below_next hb0 hb1
  rw [hs0] at hT
  rw [hs0]
  obtain ⟨r0, r1, e0, e1⟩ := boxc2 hR1
  obtain ⟨t0, t1, t2, t3, t4, t5, -⟩ := boxc6 hT
  have hlt : w.heap.size + 1 < w1.heap.size := (Array.getElem?_eq_some_iff.1 hT).1
  have hltR : w.heap.size < w1.heap.size := by omega
  have hltR1 : w.heap.size < w1.heap.size + 1 := by omega
  have hltR2 : w.heap.size < w1.heap.size + 1 + 1 := by omega
  have hlt1 : w.heap.size + 1 < w1.heap.size + 1 := by omega
  have hlt2 : w.heap.size + 1 < w1.heap.size + 1 + 1 := by omega
  have HR1 : Hid _ := hR1
  clear hR1 hT hR hb1 hs0 hb0
  go_wp2
  refine wp_loop_rounds 4 ?_
  rw [rounds_succ]
  go_wp2
  rw [rounds_succ]
  go_wp2
  rw [rounds_succ]
  go_wp2
  rw [rounds_succ]
  go_wp2
  all_goals
    refine bodyPost_ret (results_ct rfl _ _ w.heap.size 131 _ (0, 0) _ rfl (box_on (heap_set2 (v0 := .int .u64 0) (v1 := .nilFunc) HR1.out) (al (al (al (Below.refl _ _) _) _) _)) Try.underlying131 rfl (by kernel_rfl)) rfl ?_
    exact ⟨rfl, below_next (below_set2 hbw1 (Nat.le_refl _)) (al (al (al (Below.refl _ _) _) _) _)⟩
end Go.Proofs.Ytdpkommmkcmifab
