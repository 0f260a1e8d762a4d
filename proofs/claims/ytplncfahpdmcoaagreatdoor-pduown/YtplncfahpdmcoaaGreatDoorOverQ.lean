import Derived.Test.YtplncfahpdmcoaaGreatDoorRdr5
import Derived.Test.YtplncfahpdmcoaaGreatDoorOne
namespace Go.Proofs.YtplncfahpdmcoaaGreatDoor
set_option linter.unusedVariables false
set_option linter.unusedSimpArgs false
open Go.RowKit
theorem ahS_ok (m : Nat) (ys : List UInt8) (n k : Nat) (h : ahS m ys = (n, k, 0)) : 1 ≤ k ∧ k ≤ ys.length ∧ ys.take k = dg n ∧ n < 18446744073709551616 := by
  unfold ahS at h
  split at h
  · simp at h
  · have h1 := numS_one ys n k h
    have h2 := (numS_lt ys).1
    rw [h] at h2
    exact ⟨h1.1, h1.2.1, h1.2.2, h2⟩
theorem rNum_okO (m : Nat) (ys : List UInt8) (f : Int) (n k : Nat) (h : rNum m ys f = (n, k, 0)) : 1 ≤ k ∧ k ≤ ys.length ∧ ys.take k = dg n ∧ n < 18446744073709551616 := by
  unfold rNum at h
  split at h
  · split at h
    · rename_i h1
      simp only [Prod.mk.injEq] at h
      exact ahS_ok m ys n k (by rw [← h.1, ← h.2.1, ← h1])
    · rename_i h1
      simp only [Prod.mk.injEq] at h
      omega
  · rename_i h1
    simp only [Prod.mk.injEq] at h
    exact absurd h.2.2 h1
theorem rNum_badO (m : Nat) (ys : List UInt8) (f : Int) (n k : Nat) (e : Int) (h : rNum m ys f = (n, k, e)) (he : e ≠ 0) : k = 0 := by
  unfold rNum at h
  split at h
  · split at h
    · simp only [Prod.mk.injEq] at h
      omega
    · simp only [Prod.mk.injEq] at h
      omega
  · simp only [Prod.mk.injEq] at h
    omega
theorem rTake_all (n : Int) (ys : List UInt8) (f : Int) (zs : List UInt8) (k : Nat) (e : Int) (h : rTake n ys f = (zs, k, e)) : zs = ys.take k ∧ k ≤ ys.length ∧ (e ≠ 0 → k = 0) := by
  unfold rTake at h
  split at h
  · split at h
    · simp only [Prod.mk.injEq] at h
      obtain ⟨rfl, rfl, rfl⟩ := h
      simp
    · split at h
      · simp only [Prod.mk.injEq] at h
        obtain ⟨rfl, rfl, rfl⟩ := h
        simp
      · simp only [Prod.mk.injEq] at h
        obtain ⟨rfl, rfl, rfl⟩ := h
        refine ⟨rfl, by omega, fun h => absurd rfl h⟩
  · simp only [Prod.mk.injEq] at h
    obtain ⟨rfl, rfl, rfl⟩ := h
    simp
theorem rBytes_ok (n : Int) (ys : List UInt8) (f : Int) (zs : List UInt8) (k : Nat) (h : rBytes n ys f = (zs, k, 0)) : dg zs.length ++ zs = ys.take k ∧ k ≤ ys.length ∧ (dg zs.length).length + zs.length = k := by
  unfold rBytes at h
  split at h
  · split at h
    · simp at h
    · split at h
      · rename_i h1
        obtain ⟨N, K, E, hN⟩ : ∃ N K E : Nat, ahS n.toNat ys = (N, K, E) := ⟨_, _, _, rfl⟩
        rw [hN] at h h1
        simp only at h h1
        subst h1
        have h2 := ahS_ok _ _ _ _ hN
        split at h
        · simp at h
        · rename_i h3
          simp only [Prod.mk.injEq, and_true] at h
          obtain ⟨rfl, rfl⟩ := h
          have hz : ((ys.drop K).take N).length = N := by simp; omega
          rw [hz, ← h2.2.2.1]
          refine ⟨?_, by omega, by simp; omega⟩
          rw [List.take_add]
      · rename_i h1
        simp only [Prod.mk.injEq] at h
        omega
  · rename_i h1
    simp only [Prod.mk.injEq] at h
    exact absurd h.2.2 h1
theorem rBytes_bad (n : Int) (ys : List UInt8) (f : Int) (zs : List UInt8) (k : Nat) (e : Int) (h : rBytes n ys f = (zs, k, e)) (he : e ≠ 0) : k = 0 := by
  unfold rBytes at h
  split at h
  · split at h
    · simp only [Prod.mk.injEq] at h
      omega
    · split at h
      · split at h
        · simp only [Prod.mk.injEq] at h
          omega
        · simp only [Prod.mk.injEq] at h
          omega
      · simp only [Prod.mk.injEq] at h
        omega
  · simp only [Prod.mk.injEq] at h
    omega
theorem take_drop_add (xs : List UInt8) (p k : Nat) : xs.take p ++ (xs.drop p).take k = xs.take (p + k) := by
  rw [List.take_add]
end Go.Proofs.YtplncfahpdmcoaaGreatDoor
