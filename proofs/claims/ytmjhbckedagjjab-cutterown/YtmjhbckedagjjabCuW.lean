import Derived.Test.YtmjhbckedagjjabLCe
namespace Go.Proofs.Ytmjhbckedagjjab
set_option linter.unusedVariables false
set_option linter.unusedSimpArgs false
theorem drop_flat : ∀ (i : Nat) (S : List Seg) (l : Nat), i ≤ S.length → (∀ (j : Nat) x, j < i → S[j]? = some x → x.length = l) → S.flatten.drop (i * l) = (S.drop i).flatten
  | 0, S, l, _, _ => by simp
  | i + 1, [], l, h, _ => by simp at h
  | i + 1, x :: r, l, h, hl => by
    have hx : x.length = l := hl 0 x (by omega) rfl
    have ih := drop_flat i r l (by simpa using h) (fun j y hj hy => hl (j + 1) y (by omega) (by simpa using hy))
    rw [List.flatten_cons, List.drop_succ_cons, ← ih, Nat.succ_mul, Nat.add_comm, ← List.drop_drop, ← hx]
    simp
theorem lastS_app (A : List Seg) (x : Seg) : lastS (A ++ [x]) = x.length := by
  unfold lastS
  simp
theorem flat_uni (A : List Seg) (l : Nat) (h : ∀ x ∈ A, x.length = l) : A.flatten.length = A.length * l := by
  induction A with
  | nil => simp
  | cons x r ih =>
    rw [List.flatten_cons, List.length_append, ih (fun y hy => h y (by simp [hy])), h x (by simp), List.length_cons, Nat.succ_mul]
    omega
/-- a box that is whole is cut into its segments again -/
theorem whole_cut {S : List Seg} (h0 : 1 ≤ S.length) (h64 : S.length ≤ 64) (hs : ∀ x ∈ S, x.length ≤ 1024) (hf : fitS S = true) (ha : allS S = true) (m : Nat) (hm : m = if 1 < S.length then (S[0]?.getD []).length else S.flatten.length) :
    S.flatten.length ≤ 1024 ∧ cutE S.flatten.length (m : Int) = 0 ∧ cutS S.flatten (m : Int) = S := by
  have hne : ∀ x ∈ S, x.length ≠ 0 := fun x hx => by
    unfold allS at ha
    have := List.all_eq_true.1 ha x hx
    simpa using this
  obtain ⟨A, z, rfl⟩ : ∃ A z, S = A ++ [z] := by
    rcases List.eq_nil_or_concat S with h | ⟨A, z, h⟩
    · rw [h] at h0; simp at h0
    · exact ⟨A, z, by rw [h, List.concat_eq_append]⟩
  have hz0 : z.length ≠ 0 := hne z (by simp)
  have htk : (A ++ [z]).take ((A ++ [z]).length - 1) = A := by simp
  unfold fitS at hf
  rw [Bool.and_eq_true, lastS_app, htk] at hf
  obtain ⟨hu, hc⟩ := hf
  have hcut : ∀ (n l : Nat), n = (A ++ [z]).flatten.length → 1 ≤ l → l ≤ 1024 → 1 ≤ n → n ≤ 1024 → n ≤ l * 64 → cutN n l = (A ++ [z]).length → (∀ x ∈ A, x.length = l) → z.length ≤ l → cutE n (l : Int) = 0 ∧ cutS (A ++ [z]).flatten (l : Int) = A ++ [z] := by
    intro n l hn h1 h2 h3 h4 h5 h6 h7 h8
    have he : cutE n (l : Int) = 0 := by
      unfold cutE
      rw [if_neg (by omega), if_neg (by omega), if_neg (by omega)]
    refine ⟨he, ?_⟩
    unfold cutS
    rw [← hn, if_pos he, Int.toNat_natCast, h6]
    apply List.ext_getElem?
    intro i
    by_cases hi : i < (A ++ [z]).length
    · rw [segN_get _ _ _ _ hi, drop_flat i (A ++ [z]) l (by omega) (fun j x hj hx => by
        rw [List.getElem?_append_left (by simp at hi; omega)] at hx
        exact h7 x (List.mem_of_getElem? hx))]
      rw [List.getElem?_eq_getElem hi, List.drop_eq_getElem_cons hi, List.flatten_cons]
      congr 1
      by_cases hA : i < A.length
      · have e : (A ++ [z])[i] = A[i] := List.getElem_append_left hA
        rw [e, List.take_append_of_le_length (by rw [h7 _ (List.getElem_mem hA)]; exact Nat.le_refl _), List.take_of_length_le (by rw [h7 _ (List.getElem_mem hA)]; exact Nat.le_refl _)]
      · have hil : i = A.length := by simp at hi; omega
        subst hil
        simp
        exact List.take_of_length_le h8
    · rw [List.getElem?_eq_none (by rw [segN_len]; omega), List.getElem?_eq_none (by omega)]
  by_cases hN : A = []
  · subst hN
    have hl0 : lenS ([] ++ [z]) = 0 := rfl
    rw [hl0] at hc
    have hz : z.length ≤ 1024 := hs z (by simp)
    simp only [List.nil_append, List.length_singleton, Nat.lt_irrefl, if_false, List.flatten_cons, List.flatten_nil, List.append_nil] at hm ⊢
    subst hm
    obtain ⟨r1, r2⟩ := hcut z.length z.length (by simp) (by omega) hz (by omega) hz (by omega) (by rw [cutN_of (j := 1) (by omega) (by omega) (by omega)]; rfl) (by simp) (Nat.le_refl _)
    simp only [List.nil_append, List.flatten_cons, List.flatten_nil, List.append_nil] at r2
    exact ⟨hz, r1, r2⟩
  · have hAl : 0 < A.length := List.length_pos_iff.2 hN
    have hlen : (A ++ [z]).length = A.length + 1 := by simp
    have hl : lenS (A ++ [z]) = (A[0]?.getD []).length := by
      have hx0 : A[0]? = some A[0] := List.getElem?_eq_getElem hAl
      have h9 := lenS_at (S := A ++ [z]) (k := 0) (x := A[0]) (by rw [hlen]; omega) (fun j y hj => absurd hj (Nat.not_lt_zero _)) (by rw [List.getElem?_append_left hAl]; exact hx0) (hne _ (by simp))
      rw [h9, hx0]
      rfl
    have hm' : m = lenS (A ++ [z]) := by
      rw [hm, if_pos (by rw [hlen]; omega), hl, List.getElem?_append_left hAl]
    have hl0 : lenS (A ++ [z]) ≠ 0 := by
      rw [hl, List.getElem?_eq_getElem hAl]
      exact hne _ (by simp)
    rw [← hm'] at hu hc hl0
    have hA : ∀ x ∈ A, x.length = m := fun x hx => by
      rcases uniD_iff.1 hu x hx with h | h
      · exact absurd h (hne x (by simp [hx]))
      · exact h
    unfold capB at hc
    rw [if_neg hl0, Bool.and_eq_true, decide_eq_true_eq, decide_eq_true_eq, hlen] at hc
    have hfl : (A ++ [z]).flatten.length = A.length * m + z.length := by
      rw [List.flatten_append, List.length_append, flat_uni A m hA]
      simp
    have hm1 : 1 * m ≤ A.length * m := Nat.mul_le_mul_right _ hAl
    have hle : A.length * m + z.length ≤ 1024 := by
      have := hc.2
      rw [Nat.add_sub_cancel] at this
      omega
    have hN1 : (A.length + 1) * m = A.length * m + m := Nat.succ_mul _ _
    obtain ⟨r1, r2⟩ := hcut (A.length * m + z.length) m hfl.symm (by omega) (by omega) (by omega) hle (by
      have : (A.length + 1) * m ≤ 64 * m := Nat.mul_le_mul_right _ (by rw [hlen] at h64; exact h64)
      rw [Nat.mul_comm m 64]
      omega) (by rw [cutN_of (j := A.length + 1) (by omega) (by omega) (by omega), hlen]) hA hc.1
    rw [hfl]
    exact ⟨hle, r1, r2⟩
end Go.Proofs.Ytmjhbckedagjjab
