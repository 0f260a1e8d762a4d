import Derived.Test.YtnfikcegmicooaaDoorLwA
namespace Go.Proofs.YtnfikcegmicooaaDoor
set_option linter.unusedVariables false
set_option linter.unusedSimpArgs false
open Go.RowKit Go.Maps Go.Shelf
/-- no wheel, or one that New did not make -/
def NoW (w : World) (v : Value) : Prop := v = .pointer none ∨ ∃ p, v = .pointer (some ⟨p, 0, none⟩) ∧ w.cell? ⟨p, 522, none⟩ = some (.map none)
theorem made_no {w : World} {v : Value} (h : NoW w v) : Calls Tryd.prog 27 #[v] w fun e w' => e = .returned (.bool false) ∧ w' = w := by
  rcases h with rfl | ⟨p, rfl, h⟩
  · exact made_nil w
  · exact made_t p none w h
set_option maxRecDepth 20000 in
set_option maxHeartbeats 1600000 in
theorem next_no {w : World} {v : Value} (h : NoW w v)  : Calls Tryd.prog 12 #[v] w fun e w' => e = .returned (.tuple #[.int .u64 0, .bool false]) ∧ w' = w := by
  have HM : Hid _ := made_no h
  go_enter Tryd.func12, Tryd.ntmps12
  go_wp2_with (first
    | (go_at_call 27; refine Calls.mono HM.out ?_; rintro e w' ⟨rfl, hq⟩; have hq := hq.symm; subst hq))
  go_ret2
  exact ⟨rfl, rfl⟩
set_option maxRecDepth 20000 in
set_option maxHeartbeats 1600000 in
theorem now_no {w : World} {v : Value} (h : NoW w v)  : Calls Tryd.prog 13 #[v] w fun e w' => e = .returned (.int .u64 0) ∧ w' = w := by
  have HM : Hid _ := made_no h
  go_enter Tryd.func13, Tryd.ntmps13
  go_wp2_with (first
    | (go_at_call 27; refine Calls.mono HM.out ?_; rintro e w' ⟨rfl, hq⟩; have hq := hq.symm; subst hq))
  go_ret
  exact ⟨rfl, rfl⟩
set_option maxRecDepth 20000 in
set_option maxHeartbeats 1600000 in
theorem len_no {w : World} {v : Value} (h : NoW w v)  : Calls Tryd.prog 14 #[v] w fun e w' => e = .returned (.int .i64 0) ∧ w' = w := by
  have HM : Hid _ := made_no h
  go_enter Tryd.func14, Tryd.ntmps14
  go_wp2_with (first
    | (go_at_call 27; refine Calls.mono HM.out ?_; rintro e w' ⟨rfl, hq⟩; have hq := hq.symm; subst hq))
  go_ret
  exact ⟨rfl, rfl⟩
set_option maxRecDepth 20000 in
set_option maxHeartbeats 1600000 in
theorem stop_no {w : World} {v : Value} (h : NoW w v) (id : Int) : Calls Tryd.prog 16 #[v, .int .i64 id] w fun e w' => e = .returned (.bool false) ∧ w' = w := by
  have HM : Hid _ := made_no h
  go_enter Tryd.func16, Tryd.ntmps16
  go_wp2_with (first
    | (go_at_call 27; refine Calls.mono HM.out ?_; rintro e w' ⟨rfl, hq⟩; have hq := hq.symm; subst hq))
  go_ret
  exact ⟨rfl, rfl⟩
set_option maxRecDepth 20000 in
set_option maxHeartbeats 1600000 in
theorem set_no {w : World} {v : Value} (h : NoW w v) (id : Int) (x : Nat) : Calls Tryd.prog 11 #[v, .int .i64 id, .int .u64 (x : Int)] w fun e w' => e = .returned (.int .i64 1) ∧ w' = w := by
  have HM : Hid _ := made_no h
  go_enter Tryd.func11, Tryd.ntmps11
  go_wp2_with (first
    | (go_at_call 27; refine Calls.mono HM.out ?_; rintro e w' ⟨rfl, hq⟩; have hq := hq.symm; subst hq))
  go_ret
  exact ⟨rfl, rfl⟩
set_option maxRecDepth 20000 in
set_option maxHeartbeats 1600000 in
theorem adv_no {w : World} {v : Value} (h : NoW w v) (x : Nat) : Calls Tryd.prog 15 #[v, .int .u64 (x : Int)] w fun e w' => e = .returned (.slice none 0 0) ∧ w' = w := by
  have HM : Hid _ := made_no h
  go_enter Tryd.func15, Tryd.ntmps15
  go_wp2_with (first
    | (go_at_call 27; refine Calls.mono HM.out ?_; rintro e w' ⟨rfl, hq⟩; have hq := hq.symm; subst hq)
    | (go_at_call 26; refine Calls.mono (time_t x _) ?_; rintro e w' ⟨rfl, hq⟩; have hq := hq.symm; subst hq))
  go_ret
  exact ⟨rfl, rfl⟩
set_option maxRecDepth 20000 in
set_option maxHeartbeats 1600000 in
theorem nothing_t {w : World} {v : Value} (h : NoW w v) (id : Int) (x : Nat) : Calls Tryd.prog 19 #[v, .int .i64 id, .int .u64 (x : Int)] w fun e w' => e = .returned (.bool true) ∧ w' = w := by
  have H1 : Hid _ := next_no h
  have H2 : Hid _ := now_no h
  have H3 : Hid _ := len_no h
  have H4 : Hid _ := stop_no h id
  have H5 : Hid _ := set_no h id x
  have H6 : Hid _ := adv_no h x
  go_enter Tryd.func19, Tryd.ntmps19
  go_wp2_with (first
    | (go_at_call 12; refine Calls.mono H1.out ?_; rintro e w' ⟨rfl, hq⟩; have hq := hq.symm; subst hq)
    | (go_at_call 13; refine Calls.mono H2.out ?_; rintro e w' ⟨rfl, hq⟩; have hq := hq.symm; subst hq)
    | (go_at_call 14; refine Calls.mono H3.out ?_; rintro e w' ⟨rfl, hq⟩; have hq := hq.symm; subst hq)
    | (go_at_call 16; refine Calls.mono H4.out ?_; rintro e w' ⟨rfl, hq⟩; have hq := hq.symm; subst hq)
    | (go_at_call 11; refine Calls.mono H5.out ?_; rintro e w' ⟨rfl, hq⟩; have hq := hq.symm; subst hq)
    | (go_at_call 15; refine Calls.mono H6.out ?_; rintro e w' ⟨rfl, hq⟩; have hq := hq.symm; subst hq))
  go_ret
  exact ⟨rfl, rfl⟩
end Go.Proofs.YtnfikcegmicooaaDoor
