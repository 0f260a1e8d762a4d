import Derived.Test.YtnhjkipaclchiabQO
namespace Go.Proofs.Ytnhjkipaclchiab
set_option linter.unusedVariables false
set_option linter.unusedSimpArgs false
open Go.RowKit Go.Shelf
section
set_option maxHeartbeats 3200000
set_option maxRecDepth 100000
theorem falling_t (pa : Option Addr) (np cap count : Nat) (w : World) : Calls Try.prog 47 #[.slice pa np cap, .int .i64 (count : Int)] w fun e w' => e = .returned (.func (.func 63) #[] #[.pointer (some ⟨w.heap.size, 0, none⟩), .pointer (some ⟨w.heap.size + 1, 0, none⟩)]) ∧ w' = (w.alloc (.cells #[.slice pa np cap] tPs)).alloc (.cells #[.int .i64 (count : Int)] 3) := by
  go_enter Try.func47, Try.ntmps47
  go_wp2
  go_ret
  exact ⟨rfl, rfl⟩
/-- an index of no pages: nil, or a row of which nothing is left -/
theorem from0_t (x : Value) (pa : Option Addr) (cap : Nat) (hpa : (pa = none ∧ cap = 0) ∨ (∃ b o, pa = some ⟨b, o, none⟩)) (s1 s2 : Nat) (w : World) (hx : PgV w x pa 0 cap) :
    Calls Try.prog 42 #[x, sv (s1, s2)] w fun e w' => e = .returned (.tuple #[.slice pa 0 cap, .int .i64 0]) ∧ Below w.heap.size w w' := by
  obtain ⟨w1, hw1⟩ : ∃ X : World, X = w.alloc (.cells #[.int .u64 (s1 : Int), .int .u64 (s2 : Int)] tSt) := ⟨_, rfl⟩
  have hb1 : Below w.heap.size w w1 := by rw [hw1]; exact al (Below.refl _ _) _
  have HPL : Hid _ := place_t x pa 0 cap [] (s1, s2) w1 (hx.below hb1) rfl (fun j hj => by simp at hj) ⟨by simp, by simp [SP]⟩ (by omega) (by simp)
  have HX : Hid (PgV w x pa 0 cap) := hx
  have HB1 : Hid _ := hb1
  clear hx hb1
  go_enter Try.func42, Try.ntmps42
  go_wp2_with fail
  rw [← hw1]
  refine Calls.mono HPL.out ?_
  rintro e w2 ⟨p, i, ok, rfl, hpl, hb2⟩
  obtain ⟨rfl, rfl⟩ : p = 0 ∧ i = 0 := by
    rcases hpl with ⟨-, h1, h2, -⟩ | ⟨r, -, -, h3, -⟩
    · exact ⟨h1, h2⟩
    · simp at h3
  have HB2 : Hid (Below w.heap.size w w2) := below_next HB1.out hb2
  have HA : Hid _ := all_t x pa 0 cap w2 (PgV.below HX.out HB2.out)
  clear hpl hb2 hw1
  go_wp2_with fail
  refine Calls.mono HA.out ?_
  rintro e z ⟨rfl, hz⟩
  have hz := hz.symm
  subst hz
  rcases hpa with ⟨rfl, rfl⟩ | ⟨b, o, rfl⟩
  · go_wp2
    refine bodyPost_ret (results_tmp2 rfl _ _ _) rfl ?_
    exact ⟨by simp, HB2.out⟩
  · by_cases hc2 : cap = 0
    · subst hc2
      go_wp2
      refine bodyPost_ret (results_tmp2 rfl _ _ _) rfl ?_
      exact ⟨by simp, HB2.out⟩
    · go_wp2
      refine bodyPost_ret (results_tmp2 rfl _ _ _) rfl ?_
      exact ⟨by simp, HB2.out⟩
theorem upTo0_t (x : Value) (pa : Option Addr) (cap : Nat) (hpa : (pa = none ∧ cap = 0) ∨ (∃ b o, pa = some ⟨b, o, none⟩)) (s1 s2 : Nat) (w : World) (hx : PgV w x pa 0 cap) :
    Calls Try.prog 46 #[x, sv (s1, s2)] w fun e w' => e = .returned (.tuple #[.slice pa 0 cap, .int .i64 0]) ∧ Below w.heap.size w w' := by
  obtain ⟨w1, hw1⟩ : ∃ X : World, X = w.alloc (.cells #[.int .u64 (s1 : Int), .int .u64 (s2 : Int)] tSt) := ⟨_, rfl⟩
  have hb1 : Below w.heap.size w w1 := by rw [hw1]; exact al (Below.refl _ _) _
  have HPL : Hid _ := place_t x pa 0 cap [] (s1, s2) w1 (hx.below hb1) rfl (fun j hj => by simp at hj) ⟨by simp, by simp [SP]⟩ (by omega) (by simp)
  have HX : Hid (PgV w x pa 0 cap) := hx
  have HB1 : Hid _ := hb1
  clear hx hb1
  go_enter Try.func46, Try.ntmps46
  go_wp2_with fail
  rw [← hw1]
  refine Calls.mono HPL.out ?_
  rintro e w2 ⟨p, i, ok, rfl, hpl, hb2⟩
  obtain ⟨rfl, rfl, rfl⟩ : p = 0 ∧ i = 0 ∧ ok = false := by
    rcases hpl with ⟨-, h1, h2, h3⟩ | ⟨r, -, -, h3, -⟩
    · exact ⟨h1, h2, h3⟩
    · simp at h3
  have HB2 : Hid (Below w.heap.size w w2) := below_next HB1.out hb2
  have HA : Hid _ := all_t x pa 0 cap w2 (PgV.below HX.out HB2.out)
  clear hpl hb2 hw1
  go_wp2_with fail
  refine Calls.mono HA.out ?_
  rintro e z ⟨rfl, hz⟩
  have hz := hz.symm
  subst hz
  rcases hpa with ⟨rfl, rfl⟩ | ⟨b, o, rfl⟩
  · go_wp2
    refine bodyPost_ret (results_tmp2 rfl _ _ _) rfl ?_
    exact ⟨by simp, HB2.out⟩
  · by_cases hc2 : cap = 0
    · subst hc2
      go_wp2
      refine bodyPost_ret (results_tmp2 rfl _ _ _) rfl ?_
      exact ⟨by simp, HB2.out⟩
    · go_wp2
      refine bodyPost_ret (results_tmp2 rfl _ _ _) rfl ?_
      exact ⟨by simp, HB2.out⟩
end
end Go.Proofs.Ytnhjkipaclchiab
