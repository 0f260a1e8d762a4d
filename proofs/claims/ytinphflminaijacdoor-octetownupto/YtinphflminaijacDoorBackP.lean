import Derived.Test.YtinphflminaijacDoorOverP
namespace Go.Proofs.YtinphflminaijacDoor
set_option linter.unusedVariables false
set_option linter.unusedSimpArgs false
open Go.RowKit
/-- what is laid: a list, else a number -/
structure It where
  l : Bool
  n : Nat
  b : List UInt8
def It.lay (i : It) : List UInt8 := if i.l = true then dg i.b.length ++ i.b else dg i.n
def It.ok (i : It) : Prop := i.n < 18446744073709551616 ∧ i.b.length ≤ 140737488355328
def layAll (is : List It) : List UInt8 := is.flatMap It.lay
theorem lay_len (i : It) (h : i.ok) : 1 ≤ i.lay.length ∧ i.lay.length ≤ i.b.length + 10 := by
  have h1 := dg_len i.n h.1
  have h2 := dg_len i.b.length (by have := h.2; omega)
  unfold It.lay
  split
  · simp only [List.length_append]; omega
  · omega
theorem layAll_snoc (is : List It) (k : Nat) (h : k < is.length) : layAll (is.take (k + 1)) = layAll (is.take k) ++ is[k].lay := by
  unfold layAll
  rw [List.take_succ_eq_append_getElem h, List.flatMap_append]
  simp
theorem layAll_drop (is : List It) (k : Nat) (h : k < is.length) : layAll (is.drop k) = is[k].lay ++ layAll (is.drop (k + 1)) := by
  unfold layAll
  rw [List.drop_eq_getElem_cons h, List.flatMap_cons]
theorem layAll_split (is : List It) (k : Nat) : layAll is = layAll (is.take k) ++ layAll (is.drop k) := by
  unfold layAll
  rw [← List.flatMap_append, List.take_append_drop]
theorem layAll_le (is : List It) (k : Nat) : (layAll (is.take k)).length ≤ (layAll is).length := by
  rw [layAll_split is k, List.length_append]
  omega
theorem layAll_ne (is : List It) (h : ∀ i ∈ is, i.ok) (hn : is ≠ []) : layAll is ≠ [] := by
  cases is with
  | nil => exact absurd rfl hn
  | cons i r =>
    intro e
    have h1 := lay_len i (h i (by simp))
    have h2 : (layAll (i :: r)).length = 0 := by rw [e]; rfl
    unfold layAll at h2
    rw [List.flatMap_cons, List.length_append] at h2
    omega
theorem ahS_dg (n : Nat) (h : n < 18446744073709551616) (ys : List UInt8) : ahS n (dg n ++ ys) = (n, (dg n).length, 0) := by
  unfold ahS
  rw [numS_dg n h ys]
  simp
theorem rNum_dg (n : Nat) (h : n < 18446744073709551616) (ys : List UInt8) : rNum n (dg n ++ ys) 0 = (n, (dg n).length, 0) := by
  unfold rNum
  rw [ahS_dg n h ys]
  simp
theorem rBytes_dg (b : List UInt8) (h : b.length ≤ 140737488355328) (ys : List UInt8) : rBytes b.length (dg b.length ++ b ++ ys) 0 = (b, (dg b.length ++ b).length, 0) := by
  unfold rBytes
  rw [if_pos rfl, if_neg (by omega), Int.toNat_natCast, List.append_assoc, ahS_dg b.length (by omega) (b ++ ys)]
  simp only [if_true]
  rw [if_neg (by simp only [List.length_append]; omega), List.drop_left' rfl, List.take_left' rfl, List.length_append]
theorem numS_cut (n : Nat) (h : n < 18446744073709551616) : numS (dg n).dropLast = (0, 0, 10) := by
  have hl := dg_len n h
  have e : (dg n).dropLast = hiD (n / 128) := by unfold dg; rw [List.dropLast_concat]
  have hlen : (dg n).length = (hiD (n / 128)).length + 1 := by simp [dg]
  rw [e]
  unfold numS
  rw [nsz_miss (hiD (n / 128)) _ rfl (fun i hi _ => hiD_ge _ _ (Nat.le_refl _) _ (List.getElem_mem _)), if_pos rfl, if_pos (by omega)]
theorem ahS_cut (m n : Nat) (h : n < 18446744073709551616) : ahS m (dg n).dropLast = (0, 0, 10) := by
  unfold ahS
  rw [numS_cut n h]
  simp
theorem rNum_cut (n : Nat) (h : n < 18446744073709551616) : rNum n (dg n).dropLast 0 = (0, 0, 10) := by
  unfold rNum
  rw [ahS_cut n n h]
  simp
theorem rBytes_cut (b : List UInt8) (h : b.length ≤ 140737488355328) : rBytes b.length (dg b.length ++ b).dropLast 0 = ([], 0, 10) := by
  unfold rBytes
  rw [if_pos rfl, if_neg (by omega), Int.toNat_natCast]
  by_cases hb : b = []
  · subst hb
    rw [List.append_nil, ahS_cut _ _ (by simp)]
    simp
  · rw [List.dropLast_append_of_ne_nil hb, ahS_dg b.length (by omega) b.dropLast]
    have hp : 0 < b.length := List.length_pos_iff.2 hb
    simp only [if_true]
    rw [if_pos (by simp only [List.length_append, List.length_dropLast]; omega)]
/-- what lies ahead of a Reader at the k-th item -/
theorem ahead_k (is : List It) (k : Nat) (tl : List UInt8) : (layAll is ++ tl).drop (layAll (is.take k)).length = layAll (is.drop k) ++ tl := by
  conv => lhs; rw [layAll_split is k, List.append_assoc]
  rw [List.drop_left' rfl]
theorem ahead_cut (is : List It) (k : Nat) (h : ∀ i ∈ is, i.ok) (hk : k < is.length) : (layAll is).dropLast.drop (layAll (is.take k)).length = (layAll (is.drop k)).dropLast := by
  conv => lhs; rw [layAll_split is k]
  rw [List.dropLast_append_of_ne_nil (layAll_ne _ (fun i hi => h i (List.mem_of_mem_drop hi)) (by intro e; have := congrArg List.length e; simp at this; omega)), List.drop_left' rfl]
theorem ahead_cut2 (is : List It) (k : Nat) (h : ∀ i ∈ is, i.ok) (hk : k + 1 < is.length) : (layAll is).dropLast.drop (layAll (is.take k)).length = is[k].lay ++ (layAll (is.drop (k + 1))).dropLast := by
  rw [ahead_cut is k h (by omega), layAll_drop is k (by omega), List.dropLast_append_of_ne_nil (layAll_ne _ (fun i hi => h i (List.mem_of_mem_drop hi)) (by intro e; have := congrArg List.length e; simp at this; omega))]
theorem ahead_last (is : List It) (k : Nat) (h : ∀ i ∈ is, i.ok) (hk : k + 1 = is.length) : (layAll is).dropLast.drop (layAll (is.take k)).length = (is[k]'(by omega)).lay.dropLast := by
  rw [ahead_cut is k h (by omega), layAll_drop is k (by omega), show is.drop (k + 1) = [] from List.drop_eq_nil_of_le (by omega)]
  simp [layAll]
end Go.Proofs.YtinphflminaijacDoor
