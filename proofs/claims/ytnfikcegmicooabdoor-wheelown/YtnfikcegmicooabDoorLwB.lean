import Derived.Test.YtnfikcegmicooabDoorLwA
namespace Go.Proofs.YtnfikcegmicooabDoor
set_option linter.unusedVariables false
set_option linter.unusedSimpArgs false
open Go.RowKit Go.Maps Go.Shelf
/-- no wheel, or one that New did not make -/
def NoW (w : World) (v : Value) : Prop := v = .pointer none ∨ ∃ p, v = .pointer (some ⟨p, 0, none⟩) ∧ w.cell? ⟨p, 522, none⟩ = some (.map none)
theorem made_no {w : World} {v : Value} (h : NoW w v) : Calls Tryd.prog 24 #[v] w fun e w' => e = .returned (.bool false) ∧ w' = w := by
  rcases h with rfl | ⟨p, rfl, h⟩
  · exact made_nil w
  · exact made_t p none w h
set_option maxRecDepth 20000 in
set_option maxHeartbeats 1600000 in
theorem next_no {w : World} {v : Value} (h : NoW w v)  : Calls Tryd.prog 21 #[v] w fun e w' => e = .returned (.tuple #[.int .u64 0, .bool false]) ∧ w' = w := by
  have HM : Hid _ := made_no h
  go_enter Tryd.func21, Tryd.ntmps21
  go_wp2_with (first
    | (go_at_call 24; refine Calls.mono HM.out ?_; rintro e w' ⟨rfl, hq⟩; have hq := hq.symm; subst hq))
  go_ret2
  exact ⟨rfl, rfl⟩
set_option maxRecDepth 20000 in
set_option maxHeartbeats 1600000 in
theorem now_no {w : World} {v : Value} (h : NoW w v)  : Calls Tryd.prog 19 #[v] w fun e w' => e = .returned (.int .u64 0) ∧ w' = w := by
  have HM : Hid _ := made_no h
  go_enter Tryd.func19, Tryd.ntmps19
  go_wp2_with (first
    | (go_at_call 24; refine Calls.mono HM.out ?_; rintro e w' ⟨rfl, hq⟩; have hq := hq.symm; subst hq))
  go_ret
  exact ⟨rfl, rfl⟩
set_option maxRecDepth 20000 in
set_option maxHeartbeats 1600000 in
theorem len_no {w : World} {v : Value} (h : NoW w v)  : Calls Tryd.prog 22 #[v] w fun e w' => e = .returned (.int .i64 0) ∧ w' = w := by
  have HM : Hid _ := made_no h
  go_enter Tryd.func22, Tryd.ntmps22
  go_wp2_with (first
    | (go_at_call 24; refine Calls.mono HM.out ?_; rintro e w' ⟨rfl, hq⟩; have hq := hq.symm; subst hq))
  go_ret
  exact ⟨rfl, rfl⟩
set_option maxRecDepth 20000 in
set_option maxHeartbeats 1600000 in
theorem stop_no {w : World} {v : Value} (h : NoW w v) (id : Int) : Calls Tryd.prog 34 #[v, .int .i64 id] w fun e w' => e = .returned (.bool false) ∧ w' = w := by
  have HM : Hid _ := made_no h
  go_enter Tryd.func34, Tryd.ntmps34
  go_wp2_with (first
    | (go_at_call 24; refine Calls.mono HM.out ?_; rintro e w' ⟨rfl, hq⟩; have hq := hq.symm; subst hq))
  go_ret
  exact ⟨rfl, rfl⟩
set_option maxRecDepth 20000 in
set_option maxHeartbeats 1600000 in
theorem set_no {w : World} {v : Value} (h : NoW w v) (id : Int) (x : Nat) : Calls Tryd.prog 20 #[v, .int .i64 id, .int .u64 (x : Int)] w fun e w' => e = .returned (.int .i64 1) ∧ w' = w := by
  have HM : Hid _ := made_no h
  go_enter Tryd.func20, Tryd.ntmps20
  go_wp2_with (first
    | (go_at_call 24; refine Calls.mono HM.out ?_; rintro e w' ⟨rfl, hq⟩; have hq := hq.symm; subst hq))
  go_ret
  exact ⟨rfl, rfl⟩
set_option maxRecDepth 20000 in
set_option maxHeartbeats 1600000 in
theorem adv_no {w : World} {v : Value} (h : NoW w v) (x : Nat) : Calls Tryd.prog 10 #[v, .int .u64 (x : Int)] w fun e w' => e = .returned (.slice none 0 0) ∧ w' = w := by
  have HM : Hid _ := made_no h
  go_enter Tryd.func10, Tryd.ntmps10
  go_wp2_with (first
    | (go_at_call 24; refine Calls.mono HM.out ?_; rintro e w' ⟨rfl, hq⟩; have hq := hq.symm; subst hq)
    | (go_at_call 23; refine Calls.mono (time_t x _) ?_; rintro e w' ⟨rfl, hq⟩; have hq := hq.symm; subst hq))
  go_ret
  exact ⟨rfl, rfl⟩
end Go.Proofs.YtnfikcegmicooabDoor
