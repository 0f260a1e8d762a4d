import Derived.Test.YtpmegacbpidnaaaQW
namespace Go.Proofs.Ytpmegacbpidnaaa
set_option linter.unusedVariables false
set_option linter.unusedSimpArgs false
open Go.RowKit
set_option maxRecDepth 20000 in
set_option maxHeartbeats 3200000 in
theorem pagesNames_walk (w : World) : Calls Try.prog 3 #[] w fun e w' => e = .returned (.bool true) ∧ Below w.heap.size w w' := by
  have H1 : Hid (Calls Try.prog 9 #[.int .i64 3] w fun er w' => er = .returned (.tuple #[.pointer none, .int .i64 1]) ∧ w' = w) := newS_no 3 (by decide) w
  have H2 : Hid (Calls Try.prog 9 #[.int .i64 65] w fun er w' => er = .returned (.tuple #[.pointer none, .int .i64 1]) ∧ w' = w) := newS_no 65 (by decide) w
  have H3 : Hid (Calls Try.prog 9 #[.int .i64 4] w fun er w' => er = .returned (.tuple #[.pointer (some ⟨w.heap.size, 0, none⟩), .int .i64 0]) ∧ Below w.heap.size w w') := newS_ok 4 (by decide) w
  go_enter Try.func3, Try.ntmps3
  go_wp2_with fail
  refine Calls.mono H1.out ?_
  rintro e z ⟨rfl, hz⟩
  have hz := hz.symm
  subst hz
  go_wp2_with fail
  refine Calls.mono H2.out ?_
  rintro e z ⟨rfl, hz⟩
  have hz := hz.symm
  subst hz
  go_wp2_with fail
  refine Calls.mono H3.out ?_
  rintro e w1 ⟨rfl, hb1⟩
  have H4 : Hid (Calls Try.prog 9 #[.int .i64 64] w1 fun er w' => er = .returned (.tuple #[.pointer (some ⟨w1.heap.size, 0, none⟩), .int .i64 0]) ∧ Below w1.heap.size w1 w') := newS_ok 64 (by decide) w1
  have HB1 : Hid (Below w.heap.size w w1) := hb1
  clear hb1 H1 H2 H3
  go_wp2_with fail
  refine Calls.mono H4.out ?_
  rintro e w2 ⟨rfl, hb2⟩
  have HB2 : Hid (Below w.heap.size w w2) := below_next HB1.out hb2
  have HN0 : Hid _ := num_t 0 w2
  have HN1 : Hid _ := num_t 1 w2
  have HSM : Hid _ := small_t w2
  clear hb2 H4
  iterate 6
    go_wp2_with fail
    first | refine Calls.mono HN1.out ?_ | refine Calls.mono HN0.out ?_
    rintro e z ⟨rfl, hz⟩
    have hz := hz.symm
    subst hz
  go_wp2_with fail
  refine Calls.mono HSM.out ?_
  rintro e w3 ⟨rfl, hb3⟩
  have HB3 : Hid (Below w.heap.size w w3) := below_next HB2.out hb3
  clear hb3
  go_wp2
  go_ret
  exact ⟨rfl, HB3.out⟩
end Go.Proofs.Ytpmegacbpidnaaa
