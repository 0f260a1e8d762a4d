import Derived.Test.YtmjhbckedagjjabLCe
namespace Go.Proofs.Ytmjhbckedagjjab
set_option linter.unusedVariables false
set_option linter.unusedSimpArgs false
open Go.RowKit
theorem cutE_zero {n : Nat} {m : Int} (h : cutE n m = 0) : 1 ≤ m ∧ m ≤ 1024 ∧ 1 ≤ n ∧ n ≤ 1024 ∧ (n : Int) ≤ m * 64 := by
  unfold cutE at h
  split at h
  · cases h
  · split at h
    · cases h
    · split at h
      · cases h
      · omega
theorem cutN_le {n m : Nat} (h1 : 1 ≤ m) (h2 : n ≤ m * 64) : cutN n m ≤ 64 := by
  unfold cutN
  refine Nat.le_of_lt_succ ((Nat.div_lt_iff_lt_mul (by omega)).2 ?_)
  rw [Nat.succ_mul]
  omega
theorem cutS_len (xs : Seg) (m : Int) : (cutS xs m).length ≤ 64 := by
  unfold cutS
  split
  · rename_i h
    obtain ⟨h1, h2, h3, h4, h5⟩ := cutE_zero h
    rw [segN_len]
    exact cutN_le (by omega) (by omega)
  · simp
/-- what Cut answers -/
def CutOut (xs : Seg) (m : Int) (w : World) (e : Ending) (w' : World) : Prop := ∃ v E, e = .returned (.tuple #[v, .int .i64 (cutE xs.length m)]) ∧ Lists w' w.heap.size v E (cutS xs m) ∧ Below w.heap.size w w'
section
variable {w : World}
theorem cut_p (ao : Option Addr) (n cap : Nat) (xs : Seg) (m : Int) (hm : -9223372036854775808 ≤ m ∧ m ≤ 9223372036854775807) (hn : n = xs.length) (hx : Rd w ao xs) (hle : n ≤ cap) (hl : n ≤ 140737488355328) :
    Calls Try.prog 10 #[.slice ao n cap, .int .i64 m] w fun e w' => CutOut xs m w e w' := by
  by_cases he : cutE n m = 0
  · obtain ⟨h1, h2, h3, h4, h5⟩ := cutE_zero he
    obtain ⟨k, rfl⟩ : ∃ k : Nat, m = (k : Int) := ⟨m.toNat, by omega⟩
    refine Calls.mono (cut_t ao n cap xs k hn hx hle (by omega) (by omega) (by omega) (by omega) (by omega)) ?_
    rintro e w' ⟨v, E, rfl, h6, h7⟩
    refine ⟨v, E, by rw [← hn, he], ?_, h7⟩
    have e1 : cutS xs (k : Int) = segN xs k (cutN n k) := by
      unfold cutS
      rw [← hn, if_pos he]
      rfl
    rw [e1]
    exact h6
  · refine Calls.mono (cut_no ao n cap m hm hl he) ?_
    rintro e w' ⟨rfl, hw⟩
    have hw := hw.symm
    subst hw
    have e1 : cutS xs m = [] := by unfold cutS; rw [← hn, if_neg he]
    exact ⟨_, [], by rw [← hn], by rw [e1]; exact Lists.nil _ _, Below.refl _ _⟩
end
end Go.Proofs.Ytmjhbckedagjjab
