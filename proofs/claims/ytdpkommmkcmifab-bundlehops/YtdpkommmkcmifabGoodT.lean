import Derived.Test.YtdpkommmkcmifabRs2
import Derived.Laws.EntriesVeiled
import Derived.LoopN
namespace Go.Proofs.Ytdpkommmkcmifab
set_option linter.unusedVariables false
set_option linter.unusedSimpArgs false
open Go.RowKit
theorem boxc6 {W : World} {g : Nat} {t : TypeId} {v0 v1 v2 v3 v4 v5 : Value} (h : W.heap[g]? = some (.cells #[v0, v1, v2, v3, v4, v5] t (0, 0))) : W.cell? ⟨g, 0, none⟩ = some v0 ∧ W.cell? ⟨g, 1, none⟩ = some v1 ∧ W.cell? ⟨g, 2, none⟩ = some v2 ∧ W.cell? ⟨g, 3, none⟩ = some v3 ∧ W.cell? ⟨g, 4, none⟩ = some v4 ∧ W.cell? ⟨g, 5, none⟩ = some v5 ∧ W.frozen? ⟨g, 0, none⟩ = false ∧ W.frozen? ⟨g, 1, none⟩ = false ∧ W.frozen? ⟨g, 2, none⟩ = false ∧ W.frozen? ⟨g, 3, none⟩ = false ∧ W.frozen? ⟨g, 4, none⟩ = false ∧ W.frozen? ⟨g, 5, none⟩ = false :=
  ⟨by rw [cell_of_row W g 0 _ t _ h]; rfl, by rw [cell_of_row W g 1 _ t _ h]; rfl, by rw [cell_of_row W g 2 _ t _ h]; rfl, by rw [cell_of_row W g 3 _ t _ h]; rfl, by rw [cell_of_row W g 4 _ t _ h]; rfl, by rw [cell_of_row W g 5 _ t _ h]; rfl, frozen_of_row W g 0 _ t h, frozen_of_row W g 1 _ t h, frozen_of_row W g 2 _ t h, frozen_of_row W g 3 _ t h, frozen_of_row W g 4 _ t h, frozen_of_row W g 5 _ t h⟩
theorem below_set6 {W w : World} {g : Nat} {v0 v1 v2 v3 v4 v5 : Value} (h : Below W.heap.size W w) (hg : W.heap.size ≤ g) : Below W.heap.size W ((((((w.setCell ⟨g, 0, none⟩ v0).setCell ⟨g, 1, none⟩ v1).setCell ⟨g, 2, none⟩ v2).setCell ⟨g, 3, none⟩ v3).setCell ⟨g, 4, none⟩ v4).setCell ⟨g, 5, none⟩ v5) :=
  Below.setCell (p := ⟨g, _, none⟩) (Below.setCell (p := ⟨g, _, none⟩) (Below.setCell (p := ⟨g, _, none⟩) (Below.setCell (p := ⟨g, _, none⟩) (Below.setCell (p := ⟨g, _, none⟩) (Below.setCell (p := ⟨g, _, none⟩) (h) hg _) hg _) hg _) hg _) hg _) hg _
theorem heap_set6 {w : World} {g : Nat} {t : TypeId} {u0 u1 u2 u3 u4 u5 v0 v1 v2 v3 v4 v5 : Value} (h : w.heap[g]? = some (.cells #[u0, u1, u2, u3, u4, u5] t (0, 0))) : ((((((w.setCell ⟨g, 0, none⟩ v0).setCell ⟨g, 1, none⟩ v1).setCell ⟨g, 2, none⟩ v2).setCell ⟨g, 3, none⟩ v3).setCell ⟨g, 4, none⟩ v4).setCell ⟨g, 5, none⟩ v5).heap[g]? = some (.cells #[v0, v1, v2, v3, v4, v5] t (0, 0)) := by
  have h0 := heap_setCell_same _ g 0 _ t v0 h
  simp only [List.setIfInBounds_toArray, List.set_cons_zero, List.set_cons_succ] at h0
  have h1 := heap_setCell_same _ g 1 _ t v1 h0
  simp only [List.setIfInBounds_toArray, List.set_cons_zero, List.set_cons_succ] at h1
  have h2 := heap_setCell_same _ g 2 _ t v2 h1
  simp only [List.setIfInBounds_toArray, List.set_cons_zero, List.set_cons_succ] at h2
  have h3 := heap_setCell_same _ g 3 _ t v3 h2
  simp only [List.setIfInBounds_toArray, List.set_cons_zero, List.set_cons_succ] at h3
  have h4 := heap_setCell_same _ g 4 _ t v4 h3
  simp only [List.setIfInBounds_toArray, List.set_cons_zero, List.set_cons_succ] at h4
  have h5 := heap_setCell_same _ g 5 _ t v5 h4
  simp only [List.setIfInBounds_toArray, List.set_cons_zero, List.set_cons_succ] at h5
  exact h5
theorem gr_set6 {w : World} {g : Nat} {v0 v1 v2 v3 v4 v5 : Value} : w.grownBy ((((((w.setCell ⟨g, 0, none⟩ v0).setCell ⟨g, 1, none⟩ v1).setCell ⟨g, 2, none⟩ v2).setCell ⟨g, 3, none⟩ v3).setCell ⟨g, 4, none⟩ v4).setCell ⟨g, 5, none⟩ v5) (some g) :=
  gr_set (gr_set (gr_set (gr_set (gr_set (gr_set (World.grownBy.refl _ _) _ _) _ _) _ _) _ _) _ _) _ _
def fv (k : Nat) : Value := .func (.func k) #[] #[]
set_option maxRecDepth 20000 in
set_option maxHeartbeats 800000 in
theorem rules_any (w : World) : Calls Try.prog 87 #[] w fun e w' => e = .returned (.slice (some ⟨w.heap.size, 0, none⟩) 3 3) ∧ w' = w.alloc (.cells #[.int .u64 6, .func (.func 88) #[] #[], .int .u64 7, .func (.func 90) #[] #[], .int .u64 10, .func (.func 91) #[] #[]] 131) := by
  go_enter Try.func87, Try.ntmps87
  go_wp2
  go_ret
  exact ⟨rfl, rfl⟩
set_option maxRecDepth 20000 in
set_option maxHeartbeats 1600000 in
theorem ruleOf_six (kind : Nat) (hk : kind = 6) (w : World) : Calls Try.prog 85 #[.int .u64 kind] w fun e w' => e = .returned (.tuple #[.agg #[.int .u64 6, .func (.func 88) #[] #[]], .bool true]) ∧ Below w.heap.size w w' := by
  obtain ⟨W0, hW0⟩ : ∃ W0 : World, W0 = w.alloc (.cells #[.int .u64 0, .nilFunc] 131) := ⟨_, rfl⟩
  have hR : W0.heap[w.heap.size]? = some (.cells #[.int .u64 0, .nilFunc] 131 (0, 0)) := by rw [hW0]; exact heap_alloc_new w _
  have hb0 : Below w.heap.size w W0 := by rw [hW0]; exact al (Below.refl _ _) _
  have hs0 : W0.heap.size = w.heap.size + 1 := by rw [hW0]; simp
  go_enter Try.func85, Try.ntmps85
  go_wp2_with fail
  rw [← hW0]
  clear hW0
  refine (rules_any W0).mono ?_
  rintro e w1 ⟨rfl, hw1⟩
  have hb1 : Below W0.heap.size W0 w1 := by rw [hw1]; exact al (Below.refl _ _) _
  have hT : w1.heap[W0.heap.size]? = some (.cells #[.int .u64 6, .func (.func 88) #[] #[], .int .u64 7, .func (.func 90) #[] #[], .int .u64 10, .func (.func 91) #[] #[]] 131 (0, 0)) := by rw [hw1]; exact heap_alloc_new W0 _
  clear hw1
  have hR1 := box_on hR hb1
  have hbw1 := below_next hb0 hb1
  rw [hs0] at hT
  rw [hs0]
  obtain ⟨r0, r1, e0, e1⟩ := boxc2 hR1
  obtain ⟨t0, t1, t2, t3, t4, t5, -⟩ := boxc6 hT
  have hlt : w.heap.size + 1 < w1.heap.size := (Array.getElem?_eq_some_iff.1 hT).1
  have hltR : w.heap.size < w1.heap.size := by omega
  have hltR1 : w.heap.size < w1.heap.size + 1 := by omega
  have hltR2 : w.heap.size < w1.heap.size + 1 + 1 := by omega
  have hlt1 : w.heap.size + 1 < w1.heap.size + 1 := by omega
  have hlt2 : w.heap.size + 1 < w1.heap.size + 1 + 1 := by omega
  have HR1 : Hid _ := hR1
  clear hR1 hT hR hb1 hs0 hb0
  go_wp2
  refine wp_loop_rounds 1 ?_
  rw [rounds_succ]
  go_wp2
  all_goals
    refine bodyPost_ret (results_ct rfl _ _ w.heap.size 131 _ (0, 0) _ rfl (box_on (heap_set2 (v0 := .int .u64 6) (v1 := .func (.func 88) #[] #[]) HR1.out) (al (Below.refl _ _) _)) Try.underlying131 rfl (by kernel_rfl)) rfl ?_
    exact ⟨rfl, below_next (below_set2 hbw1 (Nat.le_refl _)) (al (Below.refl _ _) _)⟩
set_option maxRecDepth 20000 in
set_option maxHeartbeats 1600000 in
theorem ruleOf_seven (kind : Nat) (hk : kind = 7) (w : World) : Calls Try.prog 85 #[.int .u64 kind] w fun e w' => e = .returned (.tuple #[.agg #[.int .u64 7, .func (.func 90) #[] #[]], .bool true]) ∧ Below w.heap.size w w' := by
  obtain ⟨W0, hW0⟩ : ∃ W0 : World, W0 = w.alloc (.cells #[.int .u64 0, .nilFunc] 131) := ⟨_, rfl⟩
  have hR : W0.heap[w.heap.size]? = some (.cells #[.int .u64 0, .nilFunc] 131 (0, 0)) := by rw [hW0]; exact heap_alloc_new w _
  have hb0 : Below w.heap.size w W0 := by rw [hW0]; exact al (Below.refl _ _) _
  have hs0 : W0.heap.size = w.heap.size + 1 := by rw [hW0]; simp
  go_enter Try.func85, Try.ntmps85
  go_wp2_with fail
  rw [← hW0]
  clear hW0
  refine (rules_any W0).mono ?_
  rintro e w1 ⟨rfl, hw1⟩
  have hb1 : Below W0.heap.size W0 w1 := by rw [hw1]; exact al (Below.refl _ _) _
  have hT : w1.heap[W0.heap.size]? = some (.cells #[.int .u64 6, .func (.func 88) #[] #[], .int .u64 7, .func (.func 90) #[] #[], .int .u64 10, .func (.func 91) #[] #[]] 131 (0, 0)) := by rw [hw1]; exact heap_alloc_new W0 _
  clear hw1
  have hR1 := box_on hR hb1
  have hbw1 := below_next hb0 hb1
  rw [hs0] at hT
  rw [hs0]
  obtain ⟨r0, r1, e0, e1⟩ := boxc2 hR1
  obtain ⟨t0, t1, t2, t3, t4, t5, -⟩ := boxc6 hT
  have hlt : w.heap.size + 1 < w1.heap.size := (Array.getElem?_eq_some_iff.1 hT).1
  have hltR : w.heap.size < w1.heap.size := by omega
  have hltR1 : w.heap.size < w1.heap.size + 1 := by omega
  have hltR2 : w.heap.size < w1.heap.size + 1 + 1 := by omega
  have hlt1 : w.heap.size + 1 < w1.heap.size + 1 := by omega
  have hlt2 : w.heap.size + 1 < w1.heap.size + 1 + 1 := by omega
  have HR1 : Hid _ := hR1
  clear hR1 hT hR hb1 hs0 hb0
  go_wp2
  refine wp_loop_rounds 2 ?_
  rw [rounds_succ]
  go_wp2
  rw [rounds_succ]
  go_wp2
  all_goals
    refine bodyPost_ret (results_ct rfl _ _ w.heap.size 131 _ (0, 0) _ rfl (box_on (heap_set2 (v0 := .int .u64 7) (v1 := .func (.func 90) #[] #[]) HR1.out) (al (al (Below.refl _ _) _) _)) Try.underlying131 rfl (by kernel_rfl)) rfl ?_
    exact ⟨rfl, below_next (below_set2 hbw1 (Nat.le_refl _)) (al (al (Below.refl _ _) _) _)⟩
set_option maxRecDepth 20000 in
set_option maxHeartbeats 1600000 in
theorem ruleOf_ten (kind : Nat) (hk : kind = 10) (w : World) : Calls Try.prog 85 #[.int .u64 kind] w fun e w' => e = .returned (.tuple #[.agg #[.int .u64 10, .func (.func 91) #[] #[]], .bool true]) ∧ Below w.heap.size w w' := by
  obtain ⟨W0, hW0⟩ : ∃ W0 : World, W0 = w.alloc (.cells #[.int .u64 0, .nilFunc] 131) := ⟨_, rfl⟩
  have hR : W0.heap[w.heap.size]? = some (.cells #[.int .u64 0, .nilFunc] 131 (0, 0)) := by rw [hW0]; exact heap_alloc_new w _
  have hb0 : Below w.heap.size w W0 := by rw [hW0]; exact al (Below.refl _ _) _
  have hs0 : W0.heap.size = w.heap.size + 1 := by rw [hW0]; simp
  go_enter Try.func85, Try.ntmps85
  go_wp2_with fail
  rw [← hW0]
  clear hW0
  refine (rules_any W0).mono ?_
  rintro e w1 ⟨rfl, hw1⟩
  have hb1 : Below W0.heap.size W0 w1 := by rw [hw1]; exact al (Below.refl _ _) _
  have hT : w1.heap[W0.heap.size]? = some (.cells #[.int .u64 6, .func (.func 88) #[] #[], .int .u64 7, .func (.func 90) #[] #[], .int .u64 10, .func (.func 91) #[] #[]] 131 (0, 0)) := by rw [hw1]; exact heap_alloc_new W0 _
  clear hw1
  have hR1 := box_on hR hb1
  have hbw1 := below_next hb0 hb1
  rw [hs0] at hT
  rw [hs0]
  obtain ⟨r0, r1, e0, e1⟩ := boxc2 hR1
  obtain ⟨t0, t1, t2, t3, t4, t5, -⟩ := boxc6 hT
  have hlt : w.heap.size + 1 < w1.heap.size := (Array.getElem?_eq_some_iff.1 hT).1
  have hltR : w.heap.size < w1.heap.size := by omega
  have hltR1 : w.heap.size < w1.heap.size + 1 := by omega
  have hltR2 : w.heap.size < w1.heap.size + 1 + 1 := by omega
  have hlt1 : w.heap.size + 1 < w1.heap.size + 1 := by omega
  have hlt2 : w.heap.size + 1 < w1.heap.size + 1 + 1 := by omega
  have HR1 : Hid _ := hR1
  clear hR1 hT hR hb1 hs0 hb0
  go_wp2
  refine wp_loop_rounds 3 ?_
  rw [rounds_succ]
  go_wp2
  rw [rounds_succ]
  go_wp2
  rw [rounds_succ]
  go_wp2
  all_goals
    refine bodyPost_ret (results_ct rfl _ _ w.heap.size 131 _ (0, 0) _ rfl (box_on (heap_set2 (v0 := .int .u64 10) (v1 := .func (.func 91) #[] #[]) HR1.out) (al (al (al (Below.refl _ _) _) _) _)) Try.underlying131 rfl (by kernel_rfl)) rfl ?_
    exact ⟨rfl, below_next (below_set2 hbw1 (Nat.le_refl _)) (al (al (al (Below.refl _ _) _) _) _)⟩
set_option maxRecDepth 20000 in
set_option maxHeartbeats 1600000 in
theorem ruleOf_none (kind : Nat) (hk6 : ¬ kind = 6) (hk7 : ¬ kind = 7) (hk10 : ¬ kind = 10) (w : World) : Calls Try.prog 85 #[.int .u64 kind] w fun e w' => e = .returned (.tuple #[.agg #[.int .u64 0, .nilFunc], .bool false]) ∧ Below w.heap.size w w' := by
  obtain ⟨W0, hW0⟩ : ∃ W0 : World, W0 = w.alloc (.cells #[.int .u64 0, .nilFunc] 131) := ⟨_, rfl⟩
  have hR : W0.heap[w.heap.size]? = some (.cells #[.int .u64 0, .nilFunc] 131 (0, 0)) := by rw [hW0]; exact heap_alloc_new w _
  have hb0 : Below w.heap.size w W0 := by rw [hW0]; exact al (Below.refl _ _) _
  have hs0 : W0.heap.size = w.heap.size + 1 := by rw [hW0]; simp
  go_enter Try.func85, Try.ntmps85
  go_wp2_with fail
  rw [← hW0]
  clear hW0
  refine (rules_any W0).mono ?_
  rintro e w1 ⟨rfl, hw1⟩
  have hb1 : Below W0.heap.size W0 w1 := by rw [hw1]; exact al (Below.refl _ _) _
  have hT : w1.heap[W0.heap.size]? = some (.cells #[.int .u64 6, .func (.func 88) #[] #[], .int .u64 7, .func (.func 90) #[] #[], .int .u64 10, .func (.func 91) #[] #[]] 131 (0, 0)) := by rw [hw1]; exact heap_alloc_new W0 _
  clear hw1
  have hR1 := box_on hR hb1
  have hbw1 := below_next hb0 hb1
  rw [hs0] at hT
  rw [hs0]
  obtain ⟨r0, r1, e0, e1⟩ := boxc2 hR1
  obtain ⟨t0, t1, t2, t3, t4, t5, -⟩ := boxc6 hT
  have hlt : w.heap.size + 1 < w1.heap.size := (Array.getElem?_eq_some_iff.1 hT).1
  have hltR : w.heap.size < w1.heap.size := by omega
  have hltR1 : w.heap.size < w1.heap.size + 1 := by omega
  have hltR2 : w.heap.size < w1.heap.size + 1 + 1 := by omega
  have hlt1 : w.heap.size + 1 < w1.heap.size + 1 := by omega
  have hlt2 : w.heap.size + 1 < w1.heap.size + 1 + 1 := by omega
  have HR1 : Hid _ := hR1
  clear hR1 hT hR hb1 hs0 hb0
  go_wp2
  refine wp_loop_rounds 4 ?_
  rw [rounds_succ]
  go_wp2
  rw [rounds_succ]
  go_wp2
  rw [rounds_succ]
  go_wp2
  rw [rounds_succ]
  go_wp2
  all_goals
    refine bodyPost_ret (results_ct rfl _ _ w.heap.size 131 _ (0, 0) _ rfl (box_on (heap_set2 (v0 := .int .u64 0) (v1 := .nilFunc) HR1.out) (al (al (al (Below.refl _ _) _) _) _)) Try.underlying131 rfl (by kernel_rfl)) rfl ?_
    exact ⟨rfl, below_next (below_set2 hbw1 (Nat.le_refl _)) (al (al (al (Below.refl _ _) _) _) _)⟩
end Go.Proofs.Ytdpkommmkcmifab
namespace Go.Proofs.Ytdpkommmkcmifab
set_option linter.unusedVariables false
set_option linter.unusedSimpArgs false
open Go.RowKit
set_option maxRecDepth 20000 in
set_option maxHeartbeats 400000 in
theorem clo1_any (ao : Option Addr) (cap : Nat) (xs : List UInt8) (w : World) (hx : Rd w ao xs) (hnil : ao = none → cap = 0) (hl : xs.length ≤ 140737488355328) :
    Calls Try.prog 88 #[.slice ao xs.length cap] w fun e w' => e = .returned (.bool ((prevS xs).2.2 == 0)) ∧ Below w.heap.size w w' := by
  have HN : Hid (ao = none → cap = 0) := hnil
  clear hnil
  have hfd : ∀ (a b c : Value) (u : World), (Instr.field 138 (.agg #[a, b, c]) 1).run Try.prog u = .ok c u := fun _ _ _ _ => by kernel_rfl
  go_enter Try.func88, Try.ntmps88
  go_wp2_with fail
  refine (readPrevious_any ao cap xs w hx HN.out hl).mono ?_
  rintro e w1 ⟨rfl, hb1⟩
  go_wp2
  go_ret
  exact ⟨rfl, hb1⟩
set_option maxRecDepth 20000 in
set_option maxHeartbeats 400000 in
theorem clo2_any (ao : Option Addr) (cap : Nat) (xs : List UInt8) (w : World) (hx : Rd w ao xs) (hnil : ao = none → cap = 0) (hl : xs.length ≤ 140737488355328) :
    Calls Try.prog 90 #[.slice ao xs.length cap] w fun e w' => e = .returned (.bool ((ageS xs).2 == 0)) ∧ Below w.heap.size w w' := by
  have HN : Hid (ao = none → cap = 0) := hnil
  clear hnil
  have hfd : ∀ (a b : Value) (u : World), (Instr.field 79 (.agg #[a, b]) 1).run Try.prog u = .ok b u := fun _ _ _ => by kernel_rfl
  go_enter Try.func90, Try.ntmps90
  go_wp2_with fail
  refine (readAge_any ao cap xs w hx HN.out hl).mono ?_
  rintro e w1 ⟨rfl, hb1⟩
  go_wp2
  go_ret
  exact ⟨rfl, hb1⟩
set_option maxRecDepth 20000 in
set_option maxHeartbeats 400000 in
theorem clo3_any (ao : Option Addr) (cap : Nat) (xs : List UInt8) (w : World) (hx : Rd w ao xs) (hnil : ao = none → cap = 0) (hl : xs.length ≤ 140737488355328) :
    Calls Try.prog 91 #[.slice ao xs.length cap] w fun e w' => e = .returned (.bool ((hopS xs).2.2 == 0)) ∧ Below w.heap.size w w' := by
  have HN : Hid (ao = none → cap = 0) := hnil
  clear hnil
  have hfd : ∀ (a b c : Value) (u : World), (Instr.field 75 (.agg #[a, b, c]) 2).run Try.prog u = .ok c u := fun _ _ _ _ => by kernel_rfl
  go_enter Try.func91, Try.ntmps91
  go_wp2_with fail
  refine (readHops_any ao cap xs w hx HN.out hl).mono ?_
  rintro e w1 ⟨rfl, hb1⟩
  go_wp2
  go_ret
  exact ⟨rfl, hb1⟩
theorem holdsS_other {t : Nat} {xs : List UInt8} (h6 : ¬ t = 6) (h7 : ¬ t = 7) (h10 : ¬ t = 10) : holdsS t xs = true := by unfold holdsS; rw [if_neg h6, if_neg h7, if_neg h10]
set_option maxRecDepth 20000 in
set_option maxHeartbeats 800000 in
theorem goodData_lo (kind : Nat) (ao : Option Addr) (cap : Nat) (xs : List UInt8) (w : World) (hx : Rd w ao xs) (hnil : ao = none → cap = 0) (hl : xs.length ≤ 64) :
    Calls Try.prog 78 #[.int .u64 kind, .slice ao xs.length cap] w fun e w' => e = .returned (.bool (holdsS kind xs)) ∧ Below w.heap.size w w' := by
  have HN : Hid (ao = none → cap = 0) := hnil
  clear hnil
  by_cases hk : kind = 6
  · subst hk
    have HV : Hid (holdsS 6 xs = ((prevS xs).2.2 == 0)) := rfl
    go_enter Try.func78, Try.ntmps78
    go_wp2_with fail
    refine (ruleOf_six 6 rfl w).mono ?_
    rintro e w1 ⟨rfl, hb1⟩
    go_wp2_with fail
    refine (clo1_any ao cap xs _ ((hx.below hb1).alloc _) HN.out (by omega)).mono ?_
    rintro e w2 ⟨rfl, hb2⟩
    go_wp2
    go_ret
    exact ⟨by rw [HV.out]; rfl, below_next hb1 (below_next (al (Below.refl _ _) _) hb2)⟩
  by_cases hk7 : kind = 7
  · subst hk7
    have HV : Hid (holdsS 7 xs = ((ageS xs).2 == 0)) := rfl
    go_enter Try.func78, Try.ntmps78
    go_wp2_with fail
    refine (ruleOf_seven 7 rfl w).mono ?_
    rintro e w1 ⟨rfl, hb1⟩
    go_wp2_with fail
    refine (clo2_any ao cap xs _ ((hx.below hb1).alloc _) HN.out (by omega)).mono ?_
    rintro e w2 ⟨rfl, hb2⟩
    go_wp2
    go_ret
    exact ⟨by rw [HV.out]; rfl, below_next hb1 (below_next (al (Below.refl _ _) _) hb2)⟩
  by_cases hk10 : kind = 10
  · subst hk10
    have HV : Hid (holdsS 10 xs = ((hopS xs).2.2 == 0)) := rfl
    go_enter Try.func78, Try.ntmps78
    go_wp2_with fail
    refine (ruleOf_ten 10 rfl w).mono ?_
    rintro e w1 ⟨rfl, hb1⟩
    go_wp2_with fail
    refine (clo3_any ao cap xs _ ((hx.below hb1).alloc _) HN.out (by omega)).mono ?_
    rintro e w2 ⟨rfl, hb2⟩
    go_wp2
    go_ret
    exact ⟨by rw [HV.out]; rfl, below_next hb1 (below_next (al (Below.refl _ _) _) hb2)⟩
  have HV : Hid (holdsS kind xs = true) := holdsS_other hk hk7 hk10
  go_enter Try.func78, Try.ntmps78
  go_wp2_with fail
  refine (ruleOf_none kind hk hk7 hk10 w).mono ?_
  rintro e w1 ⟨rfl, hb1⟩
  go_wp2
  go_ret
  exact ⟨by rw [HV.out]; rfl, al hb1 _⟩
set_option maxRecDepth 20000 in
theorem goodData_hi (kind : Nat) (ao : Option Addr) (cap : Nat) (xs : List UInt8) (w : World) (hl : 64 < xs.length) (hl2 : xs.length ≤ 140737488355328) :
    Calls Try.prog 78 #[.int .u64 kind, .slice ao xs.length cap] w fun e w' => e = .returned (.bool false) ∧ Below w.heap.size w w' := by
  go_enter Try.func78, Try.ntmps78
  go_wp2
  go_ret
  exact ⟨rfl, Below.refl _ _⟩
def dataS (t : Nat) (xs : List UInt8) : Bool := decide (xs.length ≤ 64) && holdsS t xs
theorem goodData_any (kind : Nat) (ao : Option Addr) (cap : Nat) (xs : List UInt8) (w : World) (hx : Rd w ao xs) (hnil : ao = none → cap = 0) (hl : xs.length ≤ 140737488355328) :
    Calls Try.prog 78 #[.int .u64 kind, .slice ao xs.length cap] w fun e w' => e = .returned (.bool (dataS kind xs)) ∧ Below w.heap.size w w' := by
  by_cases h : xs.length ≤ 64
  · unfold dataS
    rw [decide_eq_true h, Bool.true_and]
    exact goodData_lo kind ao cap xs w hx hnil h
  · unfold dataS
    rw [decide_eq_false h, Bool.false_and]
    exact goodData_hi kind ao cap xs w (by omega) hl
end Go.Proofs.Ytdpkommmkcmifab
namespace Go.Proofs.Ytdpkommmkcmifab
set_option linter.unusedVariables false
set_option linter.unusedSimpArgs false
open Go.RowKit
def knownB (t : Nat) : Bool := t == 6 || t == 7 || t == 10
theorem ruleOf_any (kind : Nat) (w : World) : Calls Try.prog 85 #[.int .u64 kind] w fun e w' => (∃ k g, e = .returned (.tuple #[.agg #[.int .u64 k, .func (.func g) #[] #[]], .bool true]) ∧ knownB kind = true ∨ e = .returned (.tuple #[.agg #[.int .u64 0, .nilFunc], .bool false]) ∧ knownB kind = false) ∧ Below w.heap.size w w' := by
  by_cases h6 : kind = 6
  · subst h6; exact (ruleOf_six 6 rfl w).mono fun e w' ⟨h1, h2⟩ => ⟨⟨_, _, .inl ⟨h1, rfl⟩⟩, h2⟩
  by_cases h7 : kind = 7
  · subst h7; exact (ruleOf_seven 7 rfl w).mono fun e w' ⟨h1, h2⟩ => ⟨⟨_, _, .inl ⟨h1, rfl⟩⟩, h2⟩
  by_cases h10 : kind = 10
  · subst h10; exact (ruleOf_ten 10 rfl w).mono fun e w' ⟨h1, h2⟩ => ⟨⟨_, _, .inl ⟨h1, rfl⟩⟩, h2⟩
  exact (ruleOf_none kind h6 h7 h10 w).mono fun e w' ⟨h1, h2⟩ => ⟨⟨0, 0, .inr ⟨h1, by simp [knownB, h6, h7, h10]⟩⟩, h2⟩
def typeS (l : List Blk) (t : Nat) : Bool := decide (2 ≤ t) && (decide (t ≤ 255) && !(knownB t && decide (0 ≤ placeS l t)))
set_option maxRecDepth 20000 in
set_option maxHeartbeats 1600000 in
theorem goodType_n (so : Option Addr) (n cap : Nat) (l : List Blk) (t : Nat) (w : World) (hn : n = l.length) (hl : RdBlks w so l) (hlc : l.length ≤ cap) (hb : l.length ≤ 140737488351232) :
    Calls Try.prog 75 #[.slice so n cap, .int .u64 t] w fun e w' => e = .returned (.bool (typeS l t)) ∧ Below w.heap.size w w' := by
  subst hn
  go_enter Try.func75, Try.ntmps75
  go_wp2_with fail
  refine (ruleOf_any t w).mono ?_
  rintro e w1 ⟨⟨k, g, ⟨rfl, hK⟩ | ⟨rfl, hK⟩⟩, hb1⟩
  · by_cases h2 : 2 ≤ t
    · by_cases h255 : t ≤ 255
      · go_wp2_with fail
        refine (place_any so cap l t _ ((hl.below hb1).alloc _) hlc hb).mono ?_
        rintro e w2 ⟨rfl, hb2⟩
        have hbb := below_next hb1 (below_next (al (Below.refl _ _) _) hb2)
        by_cases h0 : 0 ≤ placeS l t
        · have HV : Hid (typeS l t = false) := by unfold Hid typeS; simp [h2, h255, hK, h0]
          go_wp2
          go_ret
          exact ⟨by rw [HV.out]; first | rfl | simp [h0], hbb⟩
        · have HV : Hid (typeS l t = true) := by unfold Hid typeS; simp [h2, h255, hK, h0]
          go_wp2
          go_ret
          exact ⟨by rw [HV.out]; first | rfl | simp [h0], hbb⟩
      · have HV : Hid (typeS l t = false) := by unfold Hid typeS; simp [h255]
        go_wp2
        go_ret
        exact ⟨by rw [HV.out]; rfl, al hb1 _⟩
    · have HV : Hid (typeS l t = false) := by unfold Hid typeS; simp [h2]
      go_wp2
      go_ret
      exact ⟨by rw [HV.out]; rfl, al hb1 _⟩
  · by_cases h2 : 2 ≤ t
    · by_cases h255 : t ≤ 255
      · have HV : Hid (typeS l t = true) := by unfold Hid typeS; simp [h2, h255, hK]
        go_wp2
        go_ret
        exact ⟨by rw [HV.out]; rfl, al hb1 _⟩
      · have HV : Hid (typeS l t = false) := by unfold Hid typeS; simp [h255]
        go_wp2
        go_ret
        exact ⟨by rw [HV.out]; rfl, al hb1 _⟩
    · have HV : Hid (typeS l t = false) := by unfold Hid typeS; simp [h2]
      go_wp2
      go_ret
      exact ⟨by rw [HV.out]; rfl, al hb1 _⟩
def numbS (l : List Blk) (n : Nat) : Bool := l.all (fun x => x.n != n) && (decide (2 ≤ n) && decide (n ≤ 255))
theorem numbS_hit (l : List Blk) (n k : Nat) (hk : k < l.length) (he : l[k].n = n) : numbS l n = false := by
  have : l.all (fun x => x.n != n) = false := by
    rw [List.all_eq_false]
    exact ⟨l[k], List.getElem_mem _, by simp [he]⟩
  unfold numbS
  rw [this, Bool.false_and]
theorem numbS_miss (l : List Blk) (n : Nat) (h : ∀ j (hj : j < l.length), l[j].n ≠ n) : numbS l n = (decide (2 ≤ n) && decide (n ≤ 255)) := by
  have : l.all (fun x => x.n != n) = true := by
    rw [List.all_eq_true]
    intro x hx
    obtain ⟨j, hj, rfl⟩ := List.getElem_of_mem hx
    simpa using h j hj
  unfold numbS
  rw [this, Bool.true_and]
set_option maxRecDepth 20000 in
set_option maxHeartbeats 800000 in
theorem goodNumber_n (so : Option Addr) (m cap : Nat) (l : List Blk) (n : Nat) (w : World) (hm : m = l.length) (hl : RdBlks w so l) (hlc : l.length ≤ cap) (hb : l.length ≤ 140737488351232) :
    Calls Try.prog 76 #[.slice so m cap, .int .u64 n] w fun e w' => e = .returned (.bool (numbS l n)) ∧ Below w.heap.size w w' := by
  subst hm
  go_enter Try.func76, Try.ntmps76
  go_wp2
  go_loopw [9] (fun i wr => ∃ k : Nat, k ≤ l.length ∧ i = .int .i64 k ∧ (∀ j (hj : j < l.length), j < k → l[j].n ≠ n) ∧ Below w.heap.size w wr) (fun i _ => l.length - (intOf i).toNat)
  case atStart => exact ⟨0, Nat.zero_le _, rfl, fun j _ h => absurd h (Nat.not_lt_zero j), Below.refl _ _⟩
  case round =>
    obtain ⟨k, hk, rfl, hall, hbel⟩ := hrel
    have HA : Hid (∀ j (hj : j < l.length), j < k → l[j].n ≠ n) := hall
    clear hall
    by_cases hlt : k < l.length
    · obtain ⟨b, o, rfl, hx⟩ := hl.at k hlt
      obtain ⟨a, c, h0, h1, h2, h3, -⟩ := hx.below hbel
      have hsz := hbel.size
      by_cases he : l[k].n = n
      · have HP : Hid (numbS l n = false) := numbS_hit l n k hlt he
        go_wp2
        go_ret
        exact ⟨by rw [HP.out]; rfl, (hbel.alloc hsz _)⟩
      · go_wp2
        go_roundw
        case rel =>
          refine ⟨k + 1, by omega, by go_num, fun j hj hjk => ?_, hbel.alloc hsz _⟩
          by_cases e : j = k
          · subst e; exact he
          · exact HA.out j hj (by omega)
        case measure => simp [intOf]; omega
    · have HP : Hid (numbS l n = (decide (2 ≤ n) && decide (n ≤ 255))) := numbS_miss l n (fun j hj => HA.out j hj (by omega))
      obtain rfl : k = l.length := by omega
      by_cases h2 : 2 ≤ n
      · by_cases h255 : n ≤ 255
        · go_wp2
          go_ret
          exact ⟨by rw [HP.out]; simp [h2, h255]; omega, hbel⟩
        · go_wp2
          go_ret
          exact ⟨by rw [HP.out]; simp [h255]; omega, hbel⟩
      · go_wp2
        go_ret
        exact ⟨by rw [HP.out]; simp [h2], hbel⟩
set_option maxRecDepth 20000 in
theorem goodFlags_any (f : Nat) (w : World) : Calls Try.prog 77 #[.int .u64 f] w fun e w' => e = .returned (.bool (decide (f ≤ 255))) ∧ w' = w := by
  by_cases h : f ≤ 255
  · go_enter Try.func77, Try.ntmps77
    go_wp2
    go_ret
    exact ⟨by simp [h]; omega, rfl⟩
  · go_enter Try.func77, Try.ntmps77
    go_wp2
    go_ret
    exact ⟨by simp [h]; omega, rfl⟩
def RdU (w : World) (so : Option Addr) (ns : List Nat) : Prop := 0 < ns.length → ∃ b o, so = some ⟨b, o, none⟩ ∧ ∀ i (h : i < ns.length), w.cell? ⟨b, o + i, none⟩ = some (.int .u64 (ns[i] : Nat))
def numsS (ns : List Nat) : Bool := ns.all (fun n => decide (n ≤ 281474976710655))
set_option maxRecDepth 20000 in
set_option maxHeartbeats 800000 in
theorem numbers_any (so : Option Addr) (m cap : Nat) (ns : List Nat) (w : World) (hm : m = ns.length) (hl : RdU w so ns) (hb : ns.length ≤ 1000) :
    Calls Try.prog 28 #[.slice so m cap] w fun e w' => e = .returned (.bool (numsS ns)) ∧ w' = w := by
  subst hm
  go_enter Try.func28, Try.ntmps28
  go_wp2
  go_loop [7] (fun i => ∃ k : Nat, k ≤ ns.length ∧ i = .int .i64 k ∧ (∀ j (hj : j < ns.length), j < k → ns[j] ≤ 281474976710655)) (fun i => ns.length - (intOf i).toNat)
  case atStart => exact ⟨0, Nat.zero_le _, rfl, fun j _ h => absurd h (Nat.not_lt_zero j)⟩
  case round =>
    obtain ⟨k, hk, rfl, hall⟩ := hrel
    have HA : Hid (∀ j (hj : j < ns.length), j < k → ns[j] ≤ 281474976710655) := hall
    clear hall
    by_cases hlt : k < ns.length
    · obtain ⟨b, o, rfl, hc⟩ := hl (by omega)
      have hck := hc k hlt
      clear hc hl
      by_cases he : ns[k] ≤ 281474976710655
      · have he' : decide ((281474976710655 : Int) < (ns[k] : Nat)) = false := by simp; omega
        go_wp2
        go_round
        case rel =>
          refine ⟨k + 1, by omega, by go_num, fun j hj hjk => ?_⟩
          by_cases e : j = k
          · subst e; exact he
          · exact HA.out j hj (by omega)
        case measure => simp [intOf]; omega
      · have he' : decide ((281474976710655 : Int) < (ns[k] : Nat)) = true := by simp; omega
        have HP : Hid (numsS ns = false) := by
          unfold Hid numsS
          rw [List.all_eq_false]
          exact ⟨ns[k], List.getElem_mem _, by simpa using he⟩
        go_wp2
        go_ret
        exact ⟨by rw [HP.out]; rfl, rfl⟩
    · have HP : Hid (numsS ns = true) := by
        unfold Hid numsS
        rw [List.all_eq_true]
        intro x hx
        obtain ⟨j, hj, rfl⟩ := List.getElem_of_mem hx
        simpa using HA.out j hj (by omega)
      obtain rfl : k = ns.length := by omega
      go_wp2
      go_ret
      exact ⟨by rw [HP.out]; rfl, rfl⟩
end Go.Proofs.Ytdpkommmkcmifab
