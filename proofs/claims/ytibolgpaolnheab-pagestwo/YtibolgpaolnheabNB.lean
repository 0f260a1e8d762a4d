import Derived.Test.YtibolgpaolnheabNXq
namespace Go.Proofs.Ytibolgpaolnheab
set_option linter.unusedVariables false
set_option linter.unusedSimpArgs false
open Go.RowKit Go.Maps
section
set_option maxRecDepth 20000
set_option maxHeartbeats 3200000
theorem newU_no (z : Int) (hz : z < 4 ∨ 64 < z) (w : World) : Calls Try.prog 15 #[.int .i64 z] w fun er w' => er = .returned (.tuple #[.pointer none, .int .i64 1]) ∧ w' = w := by
  by_cases h1 : z < 4
  · go_enter Try.func15, Try.ntmps15
    go_wp2
    refine bodyPost_ret (results_tmp2 rfl _ _ _) rfl ?_
    exact ⟨rfl, rfl⟩
  · have h2 : 64 < z := by omega
    go_enter Try.func15, Try.ntmps15
    go_wp2
    refine bodyPost_ret (results_tmp2 rfl _ _ _) rfl ?_
    exact ⟨rfl, rfl⟩
theorem newR_no (z : Int) (hz : z < 4 ∨ 64 < z) (w : World) : Calls Try.prog 40 #[.int .i64 z] w fun er w' => er = .returned (.tuple #[.pointer none, .int .i64 1]) ∧ w' = w := by
  by_cases h1 : z < 4
  · go_enter Try.func40, Try.ntmps40
    go_wp2
    refine bodyPost_ret (results_tmp2 rfl _ _ _) rfl ?_
    exact ⟨rfl, rfl⟩
  · have h2 : 64 < z := by omega
    go_enter Try.func40, Try.ntmps40
    go_wp2
    refine bodyPost_ret (results_tmp2 rfl _ _ _) rfl ?_
    exact ⟨rfl, rfl⟩
theorem newR_t (S : Nat) (hS : 4 ≤ S ∧ S ≤ 64) (w : World) : Calls Try.prog 40 #[.int .i64 (S : Int)] w fun er w' => er = .returned (.tuple #[.pointer (some ⟨w.heap.size, 0, none⟩), .int .i64 0]) ∧ RefI w' w.heap.size S [] (.slice none 0 0) [] ∧ Below w.heap.size w w' := by
  have h1 : ¬ (S : Int) < 4 := by omega
  have h2 : ¬ (64 : Int) < (S : Int) := by omega
  have h3 : (S : Int) ≤ 64 := by omega
  go_enter Try.func40, Try.ntmps40
  go_wp2
  refine bodyPost_ret (results_tmp2 rfl _ _ _) rfl ?_
  exact ⟨rfl, ⟨heap_alloc_new w _, World.ownsRow_nil _ _ _ _, fun j hj => absurd hj (Nat.not_lt_zero _), List.Pairwise.nil⟩, al (Below.refl _ _) _⟩
/-- begin, where the size fits -/
theorem begin_t (S : Nat) (hS : 4 ≤ S ∧ S ≤ 64) (w : World) : Calls Try.prog 13 #[.int .i64 (S : Int)] w fun e w' => ∃ g r, e = .returned (.tuple #[.pointer (some ⟨g, 0, none⟩), .pointer (some ⟨r, 0, none⟩), .bool true]) ∧ IdxAt w' g S [] (.slice none 0 0) [] ∧ RefI w' r S [] (.slice none 0 0) [] ∧ w.heap.size ≤ g ∧ w.heap.size ≤ r ∧ Below w.heap.size w w' := by
  go_enter Try.func13, Try.ntmps13
  go_wp2_with fail
  refine Calls.mono (newU_t S hS w) ?_
  rintro e w1 ⟨rfl, hi, hb1⟩
  have HI : Hid (IdxAt w1 w.heap.size S [] (.slice none 0 0) []) := hi
  have HB1 : Hid (Below w.heap.size w w1) := hb1
  clear hi hb1
  go_wp2_with fail
  refine Calls.mono (newR_t S hS w1) ?_
  rintro e w2 ⟨rfl, hr, hb2⟩
  have HR : Hid (RefI w2 w1.heap.size S [] (.slice none 0 0) []) := hr
  have HI2 : Hid (IdxAt w2 w.heap.size S [] (.slice none 0 0) []) := HI.out.below hb2
  have HB2 : Hid (Below w.heap.size w w2) := below_next HB1.out hb2
  clear hr hb2
  go_wp2_with fail
  refine Calls.mono (num_t 0 w2) ?_
  rintro e w3 ⟨rfl, hw3⟩
  subst hw3
  go_wp2
  refine bodyPost_ret (results_tmp3 rfl _ _ _) rfl ?_
  exact ⟨_, _, rfl, HI2.out, HR.out, Nat.le_refl _, HB1.out.size, HB2.out⟩
/-- begin, where it does not -/
theorem begin_no (z : Int) (hz : z < 4 ∨ 64 < z) (w : World) : Calls Try.prog 13 #[.int .i64 z] w fun e w' => e = .returned (.tuple #[.pointer none, .pointer none, .bool true]) ∧ w' = w := by
  have HZ : Hid (z < 4 ∨ 64 < z) := hz
  clear hz
  go_enter Try.func13, Try.ntmps13
  go_wp2_with fail
  refine Calls.mono (newU_no z HZ.out w) ?_
  rintro e w1 ⟨rfl, hw1⟩
  subst hw1
  go_wp2_with fail
  refine Calls.mono (newR_no z HZ.out w1) ?_
  rintro e w2 ⟨rfl, hw2⟩
  subst hw2
  go_wp2_with fail
  refine Calls.mono (num_t 1 w2) ?_
  rintro e w3 ⟨rfl, hw3⟩
  subst hw3
  go_wp2
  refine bodyPost_ret (results_tmp3 rfl _ _ _) rfl ?_
  exact ⟨rfl, rfl⟩
end
end Go.Proofs.Ytibolgpaolnheab
