import Derived.Test.YtmjhbckedagjjabCuP
namespace Go.Proofs.Ytmjhbckedagjjab
set_option linter.unusedVariables false
set_option linter.unusedSimpArgs false
/-- the document's ranges of the first k -/
def gS (S : List Seg) : Nat → List Rg
  | 0 => []
  | k + 1 => if (S[k]?.getD []).length = 0 then gS S k else mstep (gS S k) ((k : Int), (k : Int) + 1)
theorem gS_mi (S : List Seg) : ∀ k, MI (gS S k) (ones S k)
  | 0 => MI.nil
  | k + 1 => by
    have ih := gS_mi S k
    unfold gS ones
    by_cases h : (S[k]?.getD []).length = 0
    · rw [if_pos h, if_pos h, List.append_nil]
      exact ih
    · rw [if_neg h, if_neg h]
      exact ih.step (fun z hz => by have := ones_mem S k z hz; omega)
theorem mstep_cases (out : List Rg) (k : Int) : (out = [] ∧ mstep out (k, k + 1) = [(k, k + 1)]) ∨ (∃ o y, out = o ++ [y] ∧ mstep out (k, k + 1) = if k ≤ y.2 then o ++ [(y.1, max y.2 (k + 1))] else o ++ [y] ++ [(k, k + 1)]) := by
  rcases List.eq_nil_or_concat out with h | ⟨o, y, h⟩
  · subst h
    refine .inl ⟨rfl, ?_⟩
    unfold mstep
    rw [if_neg (by omega)]
    rfl
  · rw [List.concat_eq_append] at h
    subst h
    refine .inr ⟨o, y, rfl, ?_⟩
    unfold mstep
    rw [if_neg (by simp only; omega)]
    simp
theorem gS_le (S : List Seg) : ∀ k, ∀ y ∈ gS S k, y.2 ≤ (k : Int)
  | 0, y, h => by cases h
  | k + 1, y, h => by
    have ih := gS_le S k
    unfold gS at h
    by_cases h0 : (S[k]?.getD []).length = 0
    · rw [if_pos h0] at h
      have := ih y h
      omega
    · rw [if_neg h0] at h
      rcases mstep_cases (gS S k) (k : Int) with ⟨-, e⟩ | ⟨o, z, e1, e⟩
      · rw [e] at h
        simp at h
        subst h
        simp
      · have hz := ih z (by rw [e1]; simp)
        rw [e] at h
        split at h
        · rcases List.mem_append.1 h with h1 | h1
          · have := ih y (by rw [e1]; simp [h1])
            omega
          · simp at h1
            subst h1
            simp only
            omega
        · rcases List.mem_append.1 h with h1 | h1
          · have := ih y (by rw [e1]; exact h1)
            omega
          · simp at h1
            subst h1
            simp
theorem gS_empty (S : List Seg) (k : Nat) (h : (S[k]?.getD []).length = 0) : gS S (k + 1) = gS S k := if_pos h
theorem gS_last (S : List Seg) (k : Nat) (h : (S[k]?.getD []).length ≠ 0) : ∃ o a, gS S (k + 1) = o ++ [(a, (k : Int) + 1)] := by
  unfold gS
  rw [if_neg h]
  rcases mstep_cases (gS S k) (k : Int) with ⟨-, e⟩ | ⟨o, z, e1, e⟩
  · exact ⟨[], k, by rw [e]; rfl⟩
  · have hz := gS_le S k z (by rw [e1]; simp)
    rw [e]
    split
    · exact ⟨o, z.1, by rw [show max z.2 ((k : Int) + 1) = (k : Int) + 1 by omega]⟩
    · exact ⟨_, _, rfl⟩
theorem gS_grow (S : List Seg) (k : Nat) (o : List Rg) (a : Int) (h : (S[k]?.getD []).length ≠ 0) (e : gS S k = o ++ [(a, (k : Int))]) : gS S (k + 1) = o ++ [(a, (k : Int) + 1)] := by
  unfold gS
  rw [if_neg h, e]
  unfold mstep
  rw [if_neg (by simp only; omega)]
  simp
  omega
theorem gS_push (S : List Seg) (k : Nat) (h : (S[k]?.getD []).length ≠ 0) (hl : k = 0 ∨ ∃ j, k = j + 1 ∧ (S[j]?.getD []).length = 0) : gS S (k + 1) = gS S k ++ [((k : Int), (k : Int) + 1)] := by
  have hlt : ∀ y ∈ gS S k, y.2 < (k : Int) := fun y hy => by
    rcases hl with rfl | ⟨j, rfl, hj⟩
    · cases hy
    · rw [gS_empty S j hj] at hy
      have := gS_le S j y hy
      push_cast
      omega
  rcases mstep_cases (gS S k) (k : Int) with ⟨e1, e⟩ | ⟨o, z, e1, e⟩
  · conv => lhs; unfold gS
    rw [if_neg h, e, e1]
    rfl
  · have hz := hlt z (by rw [e1]; simp)
    conv => lhs; unfold gS
    rw [if_neg h, e, if_neg (by omega), e1]
theorem gS_len (S : List Seg) : ∀ k, (gS S k).length ≤ k
  | 0 => Nat.le_refl _
  | k + 1 => by
    have ih := gS_len S k
    unfold gS
    split
    · omega
    · rcases mstep_cases (gS S k) (k : Int) with ⟨e1, e⟩ | ⟨o, z, e1, e⟩
      · rw [e]; simp
      · rw [e1] at ih
        rw [e]
        split <;> simp at ih ⊢ <;> omega
theorem gS_got (S : List Seg) : GotIs (gS S S.length) (some S) := ⟨(gS_mi S S.length).lst, (gS_mi S S.length).has⟩
end Go.Proofs.Ytmjhbckedagjjab
