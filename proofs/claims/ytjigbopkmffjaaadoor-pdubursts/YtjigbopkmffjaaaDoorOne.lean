import Derived.Test.YtjigbopkmffjaaaDoorCrc
namespace Go.Proofs.YtjigbopkmffjaaaDoor
set_option linter.unusedVariables false
set_option linter.unusedSimpArgs false
open Go.RowKit

theorem head_app {xs ys : List UInt8} (h : xs ≠ []) : (xs ++ ys).head? = xs.head? := by cases xs with | nil => exact absurd rfl h | cons x xs => rfl
theorem vl_append : ∀ (xs ys : List UInt8) (n : Nat), vl n (xs ++ ys) = (vl n xs).bind (fun m => vl m ys)
  | [], ys, n => by simp [vl]
  | c :: r, ys, n => by
    simp only [List.cons_append, vl]
    split
    · rfl
    · exact vl_append r ys _
theorem hiD_ge (f : Nat) : ∀ n, n ≤ f → ∀ c ∈ hiD n, 128 ≤ c.toNat := by
  induction f with
  | zero => intro n hn c hc; obtain rfl : n = 0 := by omega
            rw [hiD_zero] at hc; cases hc
  | succ f ih =>
    intro n hn c hc
    by_cases h0 : n = 0
    · subst h0; rw [hiD_zero] at hc; cases hc
    · rw [hiD_pos n h0, List.mem_append] at hc
      rcases hc with hc | hc
      · exact ih (n / 128) (by omega) c hc
      · simp only [List.mem_cons, List.not_mem_nil, or_false] at hc
        subst hc
        rw [UInt8.toNat_ofNat']; omega
theorem hiD_head (f : Nat) : ∀ n, n ≤ f → (hiD n).head? ≠ some 128 := by
  induction f with
  | zero => intro n hn; obtain rfl : n = 0 := by omega
            rw [hiD_zero]; simp
  | succ f ih =>
    intro n hn
    by_cases h0 : n = 0
    · subst h0; rw [hiD_zero]; simp
    · rw [hiD_pos n h0]
      by_cases h1 : n / 128 = 0
      · rw [h1, hiD_zero]
        simp only [List.nil_append, List.head?_cons, ne_eq, Option.some.injEq]
        intro e
        have := congrArg UInt8.toNat e
        rw [UInt8.toNat_ofNat'] at this
        simp at this
        omega
      · have h2 := ih (n / 128) (by omega)
        have h3 : hiD (n / 128) ≠ [] := by
          rw [hiD_pos _ h1]; simp
        rw [head_app h3]
        exact h2
theorem hiD_vl (f : Nat) : ∀ n, n ≤ f → n < 18446744073709551616 → vl 0 (hiD n) = some n := by
  induction f with
  | zero => intro n hn _; obtain rfl : n = 0 := by omega
            rw [hiD_zero]; rfl
  | succ f ih =>
    intro n hn hlt
    by_cases h0 : n = 0
    · subst h0; rw [hiD_zero]; rfl
    · rw [hiD_pos n h0, vl_append, ih (n / 128) (by omega) (by omega)]
      simp only [Option.bind_some, vl]
      rw [if_neg (by omega), UInt8.toNat_ofNat']
      congr 1
      omega
theorem dg_vl (n : Nat) (h : n < 18446744073709551616) : vl 0 (dg n) = some n := by
  unfold dg
  rw [vl_append, hiD_vl _ (n / 128) (Nat.le_refl _) (by omega)]
  simp only [Option.bind_some, vl]
  rw [if_neg (by omega), UInt8.toNat_ofNat']
  congr 1
  omega
theorem nsz_dg (n : Nat) (h : n < 18446744073709551616) (ys : List UInt8) : nsz (dg n ++ ys) = (dg n).length := by
  have hl := dg_len n h
  have hlen : (dg n).length = (hiD (n / 128)).length + 1 := by simp [dg]
  rw [hlen]
  refine nsz_hit (dg n ++ ys) (hiD (n / 128)).length (by simp [dg]) (by omega) ?_ ?_
  · intro i hi hlt
    have e : (dg n ++ ys)[i] = (hiD (n / 128))[i] := by simp [dg, List.getElem_append_left, hlt]
    rw [e]
    exact hiD_ge _ _ (Nat.le_refl _) _ (List.getElem_mem _)
  · have e : (dg n ++ ys)[(hiD (n / 128)).length]'(by simp [dg]) = UInt8.ofNat (n % 128) := by simp [dg]
    rw [e, UInt8.toNat_ofNat']
    omega
theorem dg_head (n : Nat) (ys : List UInt8) : (dg n ++ ys).head? ≠ some 128 := by
  unfold dg
  by_cases h : n / 128 = 0
  · rw [h, hiD_zero]
    simp only [List.nil_append, List.cons_append, List.head?_cons, ne_eq, Option.some.injEq]
    intro e
    have := congrArg UInt8.toNat e
    rw [UInt8.toNat_ofNat'] at this
    simp at this
    omega
  · have h3 : hiD (n / 128) ≠ [] := by rw [hiD_pos _ h]; simp
    rw [List.append_assoc, head_app h3]
    exact hiD_head _ _ (Nat.le_refl _)
/-- a number's bytes are read back -/
theorem numS_dg (n : Nat) (h : n < 18446744073709551616) (ys : List UInt8) : numS (dg n ++ ys) = (n, (dg n).length, 0) := by
  have hl := dg_len n h
  unfold numS
  rw [nsz_dg n h ys, if_neg (by omega), if_neg (dg_head n ys), List.take_left' rfl, dg_vl n h]

def vv : Nat → List UInt8 → Nat
  | n, [] => n
  | n, c :: r => vv (n * 128 + c.toNat % 128) r
theorem vv_append : ∀ (xs ys : List UInt8) (n : Nat), vv n (xs ++ ys) = vv (vv n xs) ys
  | [], ys, n => by simp [vv]
  | c :: r, ys, n => by simp only [List.cons_append, vv]; exact vv_append r ys _
theorem vl_vv : ∀ (xs : List UInt8) (n m : Nat), vl n xs = some m → m = vv n xs
  | [], n, m, h => by simp [vl] at h; simp [vv, h]
  | c :: r, n, m, h => by
    simp only [vl] at h
    split at h
    · cases h
    · exact vl_vv r _ m h
theorem hiD_vv : ∀ (k : Nat) (zs : List UInt8), zs.length = k → (∀ c ∈ zs, 128 ≤ c.toNat) → zs.head? ≠ some 128 → hiD (vv 0 zs) = zs
  | 0, zs, hk, _, _ => by obtain rfl : zs = [] := List.eq_nil_of_length_eq_zero hk
                          simp [vv, hiD_zero]
  | k + 1, zs, hk, hall, hh => by
    have hne : zs ≠ [] := by intro e; subst e; simp at hk
    obtain ⟨ys, c, rfl⟩ : ∃ ys c, zs = ys ++ [c] := ⟨zs.dropLast, zs.getLast hne, (List.dropLast_concat_getLast hne).symm⟩
    have hc := hall c (by simp)
    have hc2 := c.toNat_lt
    have hyl : ys.length = k := by simpa using hk
    rw [vv_append]
    simp only [vv]
    by_cases hy : ys = []
    · subst hy
      have hc3 : c.toNat ≠ 128 := by
        intro e; apply hh; simp; apply UInt8.toNat_inj.1; simpa using e
      simp only [vv]
      rw [hiD_pos _ (by omega), show (0 * 128 + c.toNat % 128) / 128 = 0 from by omega, hiD_zero]
      simp only [List.nil_append]
      congr 1
      apply UInt8.toNat_inj.1
      rw [UInt8.toNat_ofNat']
      omega
    · have ih := hiD_vv k ys hyl (fun x hx => hall x (by simp [hx])) (by rw [head_app hy] at hh; exact hh)
      have hv : vv 0 ys ≠ 0 := by intro e; rw [e, hiD_zero] at ih; exact hy ih.symm
      rw [hiD_pos _ (by omega), show (vv 0 ys * 128 + c.toNat % 128) / 128 = vv 0 ys from by omega, ih]
      congr 2
      apply UInt8.toNat_inj.1
      rw [UInt8.toNat_ofNat']
      omega
/-- a number that is found stands there in the one way in which it is written -/
theorem numS_one (xs : List UInt8) (n k : Nat) (h : numS xs = (n, k, 0)) : 1 ≤ k ∧ k ≤ xs.length ∧ xs.take k = dg n := by
  unfold numS at h
  split at h
  · split at h <;> simp at h
  · rename_i h0
    rcases nsz_le xs with h1 | ⟨h1, h2, h3, h4, h5⟩
    · exact absurd h1 h0
    · split at h
      · simp at h
      · rename_i hh
        split at h
        · simp at h
        · rename_i m hv
          simp only [Prod.mk.injEq, and_true] at h
          obtain ⟨rfl, rfl⟩ := h
          refine ⟨h1, by omega, ?_⟩
          have hm := vl_vv _ _ _ hv
          generalize nsz xs = s at *
          obtain ⟨s, rfl⟩ : ∃ t, s = t + 1 := ⟨s - 1, by omega⟩
          simp only [Nat.add_sub_cancel] at h3 h4 h5
          rw [List.take_succ_eq_append_getElem h3] at hm ⊢
          have hlt := xs[s].toNat_lt
          rw [vv_append] at hm
          simp only [vv] at hm
          have hz := hiD_vv s (xs.take s) (by simp; omega) (by
            intro c hc
            obtain ⟨i, hi, rfl⟩ := List.getElem_of_mem hc
            have hi' : i < s := by simp at hi; omega
            rw [List.getElem_take]
            exact h5 i (by omega) hi') (by
            intro e
            apply hh
            cases xs with
            | nil => simp at e
            | cons x xs => cases s with
              | zero => simp at e
              | succ s => simpa using e)
          unfold dg
          rw [show m / 128 = vv 0 (xs.take s) from by omega, hz]
          congr 2
          apply UInt8.toNat_inj.1
          rw [UInt8.toNat_ofNat']
          omega
/-- neither's bytes begin with the other's -/
theorem dg_prefix (n m : Nat) (hn : n < 18446744073709551616) (hm : m < 18446744073709551616) : (dg n).take (dg m).length = dg m ↔ n = m := by
  constructor
  · intro h
    have h1 := numS_dg n hn []
    rw [List.append_nil, ← List.take_append_drop (dg m).length (dg n), h, numS_dg m hm] at h1
    simp at h1
    exact h1.1.symm
  · rintro rfl
    simp
end Go.Proofs.YtjigbopkmffjaaaDoor
