import Derived.Test.YtmjhbckedagjjabCuW
import Derived.Test.YtmjhbckedagjjabLCf
namespace Go.Proofs.Ytmjhbckedagjjab
set_option linter.unusedVariables false
set_option linter.unusedSimpArgs false
theorem segN_flat (xs : Seg) (m : Nat) : ∀ k, (segN xs m k).flatten = xs.take (k * m)
  | 0 => by simp [segN]
  | k + 1 => by
    rw [segN_succ, List.flatten_append, segN_flat xs m k, Nat.succ_mul, List.take_add]
    simp
/-- the segments' shape -/
structure SegT (T : List Seg) (xs : Seg) (m : Nat) : Prop where
  len : 1 ≤ T.length
  l64 : T.length ≤ 64
  m1 : 1 ≤ m
  mid : ∀ (i : Nat) t, i + 1 < T.length → T[i]? = some t → t.length = m
  last : ∀ t, T[T.length - 1]? = some t → 1 ≤ t.length ∧ t.length ≤ m ∧ (T.length - 1) * m + t.length = xs.length
  flat : T.flatten = xs
  n1 : xs.length ≤ 1024
theorem segT_of {xs : Seg} {m : Nat} (h1 : 1 ≤ m) (h2 : 1 ≤ xs.length) (h3 : xs.length ≤ 1024) (h4 : xs.length ≤ m * 64) : SegT (segN xs m (cutN xs.length m)) xs m := by
  obtain ⟨K, hK⟩ : ∃ K, K = cutN xs.length m := ⟨_, rfl⟩
  have hKd : K = (xs.length + m - 1) / m := hK
  have hlo : K * m ≤ xs.length + m - 1 := by rw [hKd]; exact Nat.div_mul_le_self _ _
  have hhi : xs.length + m - 1 < (K + 1) * m := by
    rw [hKd]
    have := Nat.lt_div_mul_add (a := xs.length + m - 1) (b := m) (by omega)
    rw [Nat.succ_mul]
    exact this
  rw [Nat.succ_mul] at hhi
  have hK0 : K ≠ 0 := fun e => by rw [e] at hhi; omega
  have hKm : (K - 1) * m + m = K * m := by
    rw [← Nat.succ_mul]
    congr 1
    omega
  rw [← hK]
  refine ⟨by rw [segN_len]; omega, by rw [segN_len, hK]; exact cutN_le h1 h4, h1, fun i t hi ht => ?_, fun t ht => ?_, ?_, h3⟩
  · rw [segN_len] at hi
    rw [segN_get _ _ _ _ (by omega)] at ht
    cases ht
    have hi2 : (i + 1) * m ≤ (K - 1) * m := Nat.mul_le_mul_right _ (by omega)
    rw [Nat.succ_mul] at hi2
    rw [List.length_take, List.length_drop]
    omega
  · rw [segN_len] at ht ⊢
    rw [segN_get _ _ _ _ (by omega)] at ht
    cases ht
    rw [List.length_take, List.length_drop]
    omega
  · rw [segN_flat, List.take_of_length_le (by omega)]
/-- some of the segments are there -/
structure PtS (T S : List Seg) : Prop where
  len : S.length = T.length
  el : ∀ (i : Nat) t s, T[i]? = some t → S[i]? = some s → s = [] ∨ s = t
theorem PtS.empty (T : List Seg) : PtS T (List.replicate T.length []) := ⟨by simp, fun i t s ht hs => by
  rw [List.getElem?_replicate] at hs
  split at hs
  · cases hs; exact .inl rfl
  · cases hs⟩
theorem PtS.set {T S : List Seg} (h : PtS T S) {k : Nat} {t : Seg} (ht : T[k]? = some t) : PtS T (S.set k t) := by
  refine ⟨by rw [List.length_set]; exact h.len, fun i u s hu hs => ?_⟩
  by_cases hi : k = i
  · subst hi
    rw [List.getElem?_set_self (by rw [h.len]; exact (List.getElem?_eq_some_iff.1 ht).1)] at hs
    rw [ht] at hu
    cases hu
    cases hs
    exact .inr rfl
  · rw [List.getElem?_set_ne hi] at hs
    exact h.el i u s hu hs
theorem PtS.fit {T S : List Seg} {xs : Seg} {m : Nat} (hT : SegT T xs m) (h : PtS T S) : fitS S = true := by
  have hn := hT.len
  have hmid : ∀ x ∈ S.take (S.length - 1), x.length = 0 ∨ x.length = m := fun x hx => by
    obtain ⟨i, hi, rfl⟩ := List.mem_iff_getElem.1 hx
    rw [List.length_take] at hi
    rw [List.getElem_take]
    have hiS : i < S.length := by omega
    have hiT : i < T.length := by rw [← h.len]; exact hiS
    rcases h.el i T[i] S[i] (List.getElem?_eq_getElem hiT) (List.getElem?_eq_getElem hiS) with e | e
    · rw [e]; exact .inl rfl
    · rw [e]
      exact .inr (hT.mid i _ (by rw [← h.len]; omega) (List.getElem?_eq_getElem hiT))
  have hz : lastS S = 0 ∨ (1 ≤ lastS S ∧ lastS S ≤ m ∧ (S.length - 1) * m + lastS S = xs.length) := by
    have hiS : S.length - 1 < S.length := by rw [h.len]; omega
    have hiT : S.length - 1 < T.length := by rw [← h.len]; exact hiS
    unfold lastS
    rw [List.getElem?_eq_getElem hiS]
    simp only [Option.getD_some]
    rcases h.el _ T[S.length - 1] _ (List.getElem?_eq_getElem hiT) (List.getElem?_eq_getElem hiS) with e | e
    · rw [e]; exact .inl rfl
    · rw [e]
      have h9 := hT.last T[S.length - 1] (by rw [← h.len]; exact List.getElem?_eq_getElem hiT)
      rw [← h.len] at h9
      exact .inr h9
  have hlast1 : (S.length - 1) * m + 1 ≤ 1024 := by
    have hiT : T.length - 1 < T.length := by omega
    have h9 := hT.last _ (List.getElem?_eq_getElem hiT)
    have h8 := hT.n1
    rw [h.len]
    omega
  have hl : lenS S = 0 ∨ lenS S = m := by
    by_cases h0 : lenS S = 0
    · exact .inl h0
    · obtain ⟨x, hx, e⟩ := frL_mem (D := S.take (S.length - 1)) h0
      have e' : x.length = lenS S := e
      rcases hmid x hx with h9 | h9
      · omega
      · exact .inr (by omega)
  have hm1 := hT.m1
  have hn1 := hT.n1
  unfold fitS
  rw [Bool.and_eq_true]
  constructor
  · refine uniD_iff.2 (fun x hx => ?_)
    rcases hl with h0 | h0
    · exact .inl (frL_zero.1 h0 x hx)
    · rw [h0]; exact hmid x hx
  · unfold capB
    rcases hl with h0 | h0
    · rw [if_pos h0, decide_eq_true_eq]
      rcases hz with hz | ⟨hz1, hz2, hz3⟩
      · rw [hz]; simp
      · have h7 : (S.length - 1) * lastS S ≤ (S.length - 1) * m := Nat.mul_le_mul_left _ hz2
        have h6 : (S.length - 1) * lastS S + lastS S = S.length * lastS S := by
          rw [← Nat.succ_mul]
          congr 1
          rw [h.len]
          omega
        omega
    · rw [if_neg (by omega), h0, Bool.and_eq_true, decide_eq_true_eq, decide_eq_true_eq]
      rcases hz with hz | ⟨hz1, hz2, hz3⟩
      · rw [hz]
        exact ⟨by omega, by omega⟩
      · exact ⟨hz2, by omega⟩
/-- which are there -/
def hvL (S : List Seg) : List Bool := S.map (fun x => x.length != 0)
def leftN (S : List Seg) : Nat := (S.filter (fun x => x.length == 0)).length
theorem leftN_rep (K : Nat) : leftN (List.replicate K []) = K := by
  unfold leftN
  rw [List.filter_replicate]
  simp
theorem leftN_zero {S : List Seg} : leftN S = 0 ↔ allS S = true := by
  unfold leftN allS
  rw [List.length_eq_zero_iff, List.filter_eq_nil_iff, List.all_eq_true]
  constructor
  · intro h x hx
    have := h x hx
    simpa using this
  · intro h x hx
    have := h x hx
    simpa using this
theorem leftN_set : ∀ {S : List Seg} {k : Nat} {t : Seg}, S[k]? = some [] → t ≠ [] → leftN (S.set k t) + 1 = leftN S
  | [], k, t, h, _ => by simp at h
  | x :: r, 0, t, h, ht => by
    simp at h
    subst h
    unfold leftN
    simp [ht]
  | x :: r, k + 1, t, h, ht => by
    have ih := leftN_set (S := r) (k := k) (by simpa using h) ht
    unfold leftN at ih ⊢
    rw [List.set_cons_succ]
    by_cases hx : x.length = 0
    · simp only [List.filter_cons, hx]
      simp
      omega
    · simp only [List.filter_cons]
      simp [hx]
      simpa using ih
theorem leftN_le (S : List Seg) : leftN S ≤ S.length := List.length_filter_le _ _
/-- all are there -/
theorem PtS.all {T S : List Seg} (h : PtS T S) (ha : allS S = true) : S = T := by
  apply List.ext_getElem?
  intro i
  by_cases hi : i < S.length
  · have hiT : i < T.length := by rw [← h.len]; exact hi
    rw [List.getElem?_eq_getElem hi, List.getElem?_eq_getElem hiT]
    rcases h.el i _ _ (List.getElem?_eq_getElem hiT) (List.getElem?_eq_getElem hi) with e | e
    · exfalso
      unfold allS at ha
      have := List.all_eq_true.1 ha S[i] (List.getElem_mem hi)
      rw [e] at this
      simp at this
    · rw [e]
  · rw [List.getElem?_eq_none (by omega), List.getElem?_eq_none (by rw [← h.len]; omega)]
theorem SegT.pos {T : List Seg} {xs : Seg} {m : Nat} (h : SegT T xs m) {i : Nat} {t : Seg} (ht : T[i]? = some t) : 1 ≤ t.length ∧ t.length ≤ 1024 := by
  have hi := (List.getElem?_eq_some_iff.1 ht).1
  have hm := h.m1
  have hn := h.n1
  obtain ⟨t2, ht2⟩ : ∃ t2, T[T.length - 1]? = some t2 := ⟨_, List.getElem?_eq_getElem (by omega)⟩
  have h9 := h.last t2 ht2
  by_cases hl : i + 1 < T.length
  · have h8 := h.mid i t hl ht
    have h7 : 1 * m ≤ (T.length - 1) * m := Nat.mul_le_mul_right _ (by omega)
    omega
  · have e : i = T.length - 1 := by omega
    subst e
    rw [ht] at ht2
    cases ht2
    omega
theorem SegT.lenS {T : List Seg} {xs : Seg} {m : Nat} (h : SegT T xs m) : lenS T = if 1 < T.length then m else 0 := by
  by_cases h1 : 1 < T.length
  · rw [if_pos h1]
    obtain ⟨t, ht⟩ : ∃ t, T[0]? = some t := ⟨_, List.getElem?_eq_getElem (by omega)⟩
    rw [lenS_at (k := 0) (x := t) (by omega) (fun j y hj => absurd hj (Nat.not_lt_zero _)) ht (by have := h.pos ht; omega)]
    exact h.mid 0 t (by omega) ht
  · rw [if_neg h1]
    exact lenS_0 (fun j y hj => by omega)
theorem hvL_get {S : List Seg} {k : Nat} {s : Seg} (hs : S[k]? = some s) : (hvL S)[k]? = some (s.length != 0) := by
  unfold hvL
  rw [List.getElem?_map, hs]
  rfl
theorem hvL_set {S : List Seg} {k : Nat} {t : Seg} (ht : t ≠ []) : hvL (S.set k t) = (hvL S).set k true := by
  unfold hvL
  rw [List.map_set]
  congr 1
  simp [ht]
theorem hvL_same {S : List Seg} {k : Nat} {s : Seg} (hs : S[k]? = some s) (h0 : s ≠ []) : (hvL S).set k true = hvL S := by
  have h9 := hvL_get hs
  have : (s.length != 0) = true := by simp [h0]
  rw [this] at h9
  obtain ⟨hk, e⟩ := List.getElem?_eq_some_iff.1 h9
  rw [← e]
  exact List.set_getElem_self hk
end Go.Proofs.Ytmjhbckedagjjab
