import Derived.Test.YtnhjkipaclchiaaQS
namespace Go.Proofs.Ytnhjkipaclchiaa
set_option linter.unusedVariables false
set_option linter.unusedSimpArgs false
open Go.RowKit
/-- pages in order -/
def SP (P : List (List Ent)) : Prop := (∀ p ∈ P, 0 < p.length) ∧ P.flatten.Pairwise fun a b => ltS a.st b.st = true
theorem SP.fst {P : List (List Ent)} (h : SP P) {a b : Nat} (hab : a < b) (hb : b < P.length) : ltS (fst1 P[a]) (fst1 P[b]) = true := by
  have h1 := (List.pairwise_flatten.1 h.2).2
  have h2 := (List.pairwise_iff_getElem.1 h1) a b (by omega) hb hab
  rw [fst1_get (h.1 _ (List.getElem_mem (by omega))), fst1_get (h.1 _ (List.getElem_mem hb))]
  exact h2 _ (List.getElem_mem _) _ (List.getElem_mem _)
theorem SP.page {P : List (List Ent)} (h : SP P) {p : List Ent} (hp : p ∈ P) : p.Pairwise fun a b => ltS a.st b.st = true := (List.pairwise_flatten.1 h.2).1 p hp
abbrev pr1 (P : List (List Ent)) (s : St) (i : Nat) : Bool := ltS s (fst1 (P.getD i []))
abbrev pr2 (xs : List Ent) (s : St) (i : Nat) : Bool := !ltS ((xs.map (·.st)).getD i (0, 0)) s
theorem SP.mono1 {P : List (List Ent)} (h : SP P) (s : St) (a b : Nat) (hab : a ≤ b) (hb : b < P.length) (ha : pr1 P s a = true) : pr1 P s b = true := by
  rcases Nat.lt_or_ge a b with h1 | h1
  · unfold pr1 at *
    rw [show P.getD a [] = P[a] by simp [List.getD, show a < P.length by omega]] at ha
    rw [show P.getD b [] = P[b] by simp [List.getD, hb]]
    exact ltS_trans ha (h.fst h1 hb)
  · obtain rfl : a = b := by omega
    exact ha
theorem mono2 {xs : List Ent} (h : xs.Pairwise fun a b => ltS a.st b.st = true) (s : St) (a b : Nat) (hab : a ≤ b) (hb : b < xs.length) (ha : pr2 xs s a = true) : pr2 xs s b = true := by
  rcases Nat.lt_or_ge a b with h1 | h1
  · unfold pr2 at *
    rw [show (xs.map (·.st)).getD a (0, 0) = xs[a].st by simp [List.getD, show a < xs.length by omega]] at ha
    rw [show (xs.map (·.st)).getD b (0, 0) = xs[b].st by simp [List.getD, hb]]
    have h2 := (List.pairwise_iff_getElem.1 h) a b (by omega) hb h1
    simp only [Bool.not_eq_true'] at ha ⊢
    cases h9 : ltS xs[b].st s
    · rfl
    · rw [ltS_trans h2 h9] at ha; cases ha
  · obtain rfl : a = b := by omega
    exact ha
/-- where a stamp stands, or would stand -/
def PlaceIs (P : List (List Ent)) (s : St) (p i : Nat) (ok : Bool) : Prop :=
  (P = [] ∧ p = 0 ∧ i = 0 ∧ ok = false) ∨ (∃ r, Found P.length (pr1 P s) r ∧ p = r - 1 ∧ p < P.length ∧ Found (P.getD p []).length (pr2 (P.getD p []) s) i ∧ (ok = true ↔ ∃ h : i < (P.getD p []).length, (P.getD p [])[i].st = s))
theorem PlaceIs.uniq {P : List (List Ent)} {s : St} {p i p' i' : Nat} {ok ok' : Bool} (h : PlaceIs P s p i ok) (k : PlaceIs P s p' i' ok') : p = p' ∧ i = i' ∧ ok = ok' := by
  rcases h with ⟨h1, rfl, rfl, rfl⟩ | ⟨r, h1, h2, h3, h4, h5⟩
  · rcases k with ⟨-, rfl, rfl, rfl⟩ | ⟨r, -, -, k3, -⟩
    · exact ⟨rfl, rfl, rfl⟩
    · rw [h1] at k3; exact absurd k3 (Nat.not_lt_zero _)
  · rcases k with ⟨k1, -⟩ | ⟨r', k1, k2, k3, k4, k5⟩
    · rw [k1] at h3; exact absurd h3 (Nat.not_lt_zero _)
    · obtain rfl := h1.uniq k1
      obtain rfl : p = p' := by omega
      obtain rfl := h4.uniq k4
      exact ⟨rfl, rfl, Bool.eq_iff_iff.2 (h5.trans k5.symm)⟩
end Go.Proofs.Ytnhjkipaclchiaa
