import Derived.Test.YtgdkiejlggiakaaDRead
namespace Go.Proofs.Ytgdkiejlggiakaa
set_option linter.unusedVariables false
set_option linter.unusedSimpArgs false
open Go.RowKit
/-- may the operation be done? the answer, and power and fuse behind it -/
def begE (off : Bool) (fuse : Int) : Int := if fuse = 0 then 5 else if off then 5 else 0
def begO (off : Bool) (fuse : Int) : Bool := if fuse = 0 then true else off
def begF (off : Bool) (fuse : Int) : Int := if fuse = 0 then -1 else if off then fuse else if 0 < fuse then fuse - 1 else fuse
theorem heap_set4 {w : World} {p : Nat} {a b c d : Value} {t : TypeId} (h : w.heap[p]? = some (.cells #[a, b, c, d] t (0, 0))) (v : Value) : (w.setCell ⟨p, 2, none⟩ v).heap[p]? = some (.cells #[a, b, v, d] t (0, 0)) ∧ (w.setCell ⟨p, 3, none⟩ v).heap[p]? = some (.cells #[a, b, c, v] t (0, 0)) :=
  ⟨by rw [heap_setCell_same w p 2 _ t v h]; rfl, by rw [heap_setCell_same w p 3 _ t v h]; rfl⟩
set_option maxRecDepth 20000 in
set_option maxHeartbeats 400000 in
theorem begin_t (p : Nat) (a b : Value) (off : Bool) (fuse : Int) (w : World) (h : w.heap[p]? = some (.cells #[a, b, .bool off, .int .i64 fuse] 57 (0, 0))) (hf : fuse ≤ 9223372036854775807) :
    Calls Try.prog 33 #[.pointer (some ⟨p, 0, none⟩)] w fun e w' => e = .returned (.int .i64 (begE off fuse)) ∧ w'.heap[p]? = some (.cells #[a, b, .bool (begO off fuse), .int .i64 (begF off fuse)] 57 (0, 0)) ∧ w.grownBy w' (some p) := by
  have c2 : w.cell? ⟨p, 2, none⟩ = some (.bool off) := by rw [cell_of_row _ _ 2 _ _ _ h]; rfl
  have c3 : w.cell? ⟨p, 3, none⟩ = some (.int .i64 fuse) := by rw [cell_of_row _ _ 3 _ _ _ h]; rfl
  have f2 := frozen_of_row w p 2 _ _ h
  have f3 := frozen_of_row w p 3 _ _ h
  have HH : Hid _ := h
  clear h
  by_cases h0 : fuse = 0
  · subst h0
    go_enter Try.func33, Try.ntmps33
    go_wp2
    go_ret
    refine ⟨rfl, ?_, (gset1 w p 2 _).trans' (gset1 _ p 3 _)⟩
    have h1 := (heap_set4 HH.out (.bool true)).1
    exact (heap_set4 h1 (.int .i64 (-1))).2
  · have hb : (fuse == 0) = false := by simpa using h0
    cases off
    · by_cases h1 : 0 < fuse
      · have e1 : begE false fuse = 0 := by simp [begE, h0]
        have e2 : begO false fuse = false := by simp [begO, h0]
        have e3 : begF false fuse = fuse - 1 := by simp [begF, h0, h1]
        rw [e1, e2, e3]
        clear e1 e2 e3
        go_enter Try.func33, Try.ntmps33
        go_wp2
        go_ret
        exact ⟨rfl, (heap_set4 HH.out _).2, gset1 w p 3 _⟩
      · have e1 : begE false fuse = 0 := by simp [begE, h0]
        have e2 : begO false fuse = false := by simp [begO, h0]
        have e3 : begF false fuse = fuse := by simp [begF, h0, h1]
        rw [e1, e2, e3]
        clear e1 e2 e3
        go_enter Try.func33, Try.ntmps33
        go_wp2
        go_ret
        exact ⟨rfl, HH.out, World.grownBy.refl _ _⟩
    · have e1 : begE true fuse = 5 := by simp [begE]
      have e2 : begO true fuse = true := by simp [begO]
      have e3 : begF true fuse = fuse := by simp [begF, h0]
      rw [e1, e2, e3]
      clear e1 e2 e3
      go_enter Try.func33, Try.ntmps33
      go_wp2
      go_ret
      exact ⟨rfl, HH.out, World.grownBy.refl _ _⟩
end Go.Proofs.Ytgdkiejlggiakaa
