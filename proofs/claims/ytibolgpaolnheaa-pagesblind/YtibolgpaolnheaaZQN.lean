import Derived.Test.YtibolgpaolnheaaQT
import Derived.Test.YtibolgpaolnheaaZQU
namespace Go.Proofs.Ytibolgpaolnheaa.Str
set_option linter.unusedVariables false
set_option linter.unusedSimpArgs false
open Go.RowKit
section
set_option maxRecDepth 20000
theorem newU_t (S : Nat) (hS : 4 ≤ S ∧ S ≤ 64) (w : World) : Calls Try.prog 9 #[.int .i64 (S : Int)] w fun er w' => er = .returned (.tuple #[.pointer (some ⟨w.heap.size, 0, none⟩), .int .i64 0]) ∧ IdxAt w' w.heap.size S [] (.slice none 0 0) [] ∧ Below w.heap.size w w' := by
  have h1 : ¬ (S : Int) < 4 := by omega
  have h2 : ¬ (64 : Int) < (S : Int) := by omega
  have h3 : (S : Int) ≤ 64 := by omega
  go_enter Try.func9, Try.ntmps9
  go_wp2
  refine bodyPost_ret (results_tmp2 rfl _ _ _) rfl ?_
  exact ⟨rfl, ⟨heap_alloc_new w _, World.ownsRow_nil _ _ _ _, fun j hj => absurd hj (Nat.not_lt_zero _)⟩, al (Below.refl _ _) _⟩
theorem len_t (x : Value) (pa : Option Addr) (n cap : Nat) (P : List (List Ent)) (w : World) (hx : PgV w x pa n cap) (hn : n = P.length) (hp : RdP w pa P) (hl : n ≤ 4398046511104) (hlp : ∀ p ∈ P, p.length ≤ 100) :
    Calls Try.prog 24 #[x] w fun e w' => e = .returned (.int .i64 (P.flatten.length : Int)) ∧ w' = w := by
  have HA : Hid _ := all_t x pa n cap w hx
  obtain ⟨TL, hTL⟩ : ∃ TL, TL = P.flatten.length := ⟨_, rfl⟩
  rw [← hTL]
  have HTL : Hid (TL = (P.take n).flatten.length) := (show TL = (P.take n).flatten.length by rw [hTL, hn, List.take_length])
  have HN : Hid (n = P.length) := hn
  have HLP : Hid _ := sum_le hlp
  have HL1 : Hid _ := hlp
  clear hx hn hlp hTL
  go_enter Try.func24, Try.ntmps24
  go_wp2_with fail
  refine Calls.mono HA.out ?_
  rintro e z ⟨rfl, hz⟩
  have hz := hz.symm
  subst hz
  go_wp2
  go_loop [3, 9] (fun s i => ∃ k : Nat, k ≤ n ∧ i = .int .i64 (k : Int) ∧ s = .int .i64 ((P.take k).flatten.length : Nat)) (fun _ i => n - (intOf i).toNat)
  case atStart => exact ⟨0, Nat.zero_le _, rfl, rfl⟩
  case round =>
    obtain ⟨k, hk, rfl, rfl⟩ := hrel
    by_cases hlt : k < n
    · have hkP : k < P.length := by have := HN.out; omega
      obtain ⟨b, o, rfl, a, c, hcp, hkc, hnc, -⟩ := hp k hkP
      obtain ⟨K0, hK0⟩ : ∃ K0, K0 = P[k].length := ⟨_, rfl⟩
      rw [← hK0] at hcp
      obtain ⟨T0, hT0⟩ : ∃ T0, T0 = (P.take k).flatten.length := ⟨_, rfl⟩
      rw [← hT0]
      have HS : Hid ((P.take (k + 1)).flatten.length = T0 + K0) := (show (P.take (k + 1)).flatten.length = T0 + K0 by rw [sum_take hkP, hT0, hK0])
      have hb1 : T0 + K0 ≤ 439804651110400 := by have h9 := HLP.out (k + 1); have h8 := HS.out; omega
      have hki : (k : Int) < (n : Int) := by omega
      have hk0 : (0 : Int) ≤ (k : Int) := by omega
      clear hp hK0 hT0
      go_wp2
      go_round
      case rel => exact ⟨k + 1, by omega, by go_num, by rw [HS.out]; go_num⟩
      case measure => simp [intOf]; omega
    · obtain rfl : k = n := by omega
      rw [← HTL.out]
      clear hp
      go_wp2
      go_ret
      exact ⟨rfl, rfl⟩
end
end Go.Proofs.Ytibolgpaolnheaa.Str
