import Derived.Test.YtekfolppahnpoaaDDirtyW
import Derived.Test.YtekfolppahnpoaaOpenD
namespace Go.Proofs.Ytekfolppahnpoaa
set_option linter.unusedVariables false
set_option linter.unusedSimpArgs false
open Go.RowKit Go.Maps Go.Sort
/-- a dirty sector's place among them -/
def posN (N : Nat) (C : Nat → List (List UInt8)) (i : Nat) : Nat := (dirtyL N C).countP (· < (i : Int))
/-- what a crash is told of it -/
def told (N : Nat) (C : Nat → List (List UInt8)) (chs : List Int) (i : Nat) : Int := chs.getD (posN N C i) 0
def crP (S : List Sec) (C : Nat → List (List UInt8)) (chs : List Int) (left : Lit → Bool) : List Sec := S.mapIdx fun k s => if left (kI k) = true ∨ C k = [] then s else afterS s (told S.length C chs k) (C k)
def crashed (S : List Sec) (C : Nat → List (List UInt8)) (chs : List Int) : List Sec := S.mapIdx fun k s => if C k = [] then s else afterS s (told S.length C chs k) (C k)
theorem crP_len (S : List Sec) (C : Nat → List (List UInt8)) (chs : List Int) (left : Lit → Bool) : (crP S C chs left).length = S.length := by simp [crP]
theorem crashed_len (S : List Sec) (C : Nat → List (List UInt8)) (chs : List Int) : (crashed S C chs).length = S.length := by simp [crashed]
theorem crP_start (S : List Sec) (C : Nat → List (List UInt8)) (chs : List Int) (left : Lit → Bool) (h : ∀ k, k < S.length → C k ≠ [] → left (kI k) = true) : crP S C chs left = S := by
  apply List.ext_getElem (crP_len S C chs left)
  intro k h1 h2
  simp only [crP, List.getElem_mapIdx]
  rw [if_pos]
  by_cases hc : C k = []
  · exact .inr hc
  · exact .inl (h k h2 hc)
theorem crP_end (S : List Sec) (C : Nat → List (List UInt8)) (chs : List Int) (left : Lit → Bool) (h : ∀ kl, left kl = false) : crP S C chs left = crashed S C chs := by
  unfold crP crashed
  simp only [h, Bool.false_eq_true, false_or]
theorem afterS_fit {s : Sec} (h : s.fit) (n : Int) {vs : List (List UInt8)} (hv : ∀ t ∈ vs, t.length = 128) : (afterS s n vs).fit := by
  unfold afterS
  split
  · exact h
  · split
    · rename_i h1 h2
      refine ⟨hv _ ?_, fun e => by cases e⟩
      rw [List.getD_eq_getElem?_getD, List.getElem?_eq_getElem (by omega), Option.getD_some]
      exact List.getElem_mem _
    · exact Sec.bad_fit
theorem crP_at {S : List Sec} {C : Nat → List (List UInt8)} {chs : List Int} {left : Lit → Bool} {i : Nat} (hi : i < (crP S C chs left).length) (hl : left (kI i) = true) : (crP S C chs left)[i] = S[i]'(by rw [crP_len] at hi; exact hi) := by
  simp only [crP, List.getElem_mapIdx, hl, true_or, if_true]
theorem crP_step (S : List Sec) (C : Nat → List (List UInt8)) (chs : List Int) (left : Lit → Bool) (i : Nat) (hi : i < (crP S C chs left).length) (hN : S.length ≤ 65536) (hl : left (kI i) = true) (hc : C i ≠ []) : (crP S C chs left).set i (afterS (crP S C chs left)[i] (told S.length C chs i) (C i)) = crP S C chs (fun z => left z && !z.sameKey (kI i)) := by
  have hi' : i < S.length := by rw [crP_len] at hi; exact hi
  apply List.ext_getElem (by simp [crP])
  intro k h1 h2
  have hk : k < S.length := by rw [crP_len] at h2; exact h2
  rw [List.getElem_set]
  by_cases e : i = k
  · subst e
    rw [if_pos rfl, crP_at hi hl]
    simp [crP, List.getElem_mapIdx, WideAt.sameKey_self (kI_key (show i ≤ 65536 by omega)), hc]
  · rw [if_neg e]
    have hs : (kI k).sameKey (kI i) = false := by
      cases h : (kI k).sameKey (kI i)
      · rfl
      · exact absurd (WideAt.sameKey_eq h) (kI_ne (Ne.symm e))
    simp only [crP, List.getElem_mapIdx, hs, Bool.not_false, Bool.and_true]
/-- where the choices end nothing becomes of a sector -/
theorem crP_skip (S : List Sec) (C : Nat → List (List UInt8)) (chs : List Int) (left : Lit → Bool) (i : Nat) (hi : i < S.length) (hN : S.length ≤ 65536) (hl : left (kI i) = true) (hp : chs.length ≤ posN S.length C i) : crP S C chs left = crP S C chs (fun z => left z && !z.sameKey (kI i)) := by
  apply List.ext_getElem (by simp [crP])
  intro k h1 h2
  have hk : k < S.length := by rw [crP_len] at h2; exact h2
  by_cases e : i = k
  · subst e
    rw [crP_at h1 hl]
    simp only [crP, List.getElem_mapIdx, WideAt.sameKey_self (kI_key (show i ≤ 65536 by omega)), Bool.not_true, Bool.and_false, Bool.false_eq_true, false_or]
    split
    · rfl
    · have : told S.length C chs i = 0 := by
        unfold told
        rw [List.getD_eq_getElem?_getD, List.getElem?_eq_none hp]
        rfl
      rw [this]
      simp [afterS]
  · have hs : (kI k).sameKey (kI i) = false := by
      cases h : (kI k).sameKey (kI i)
      · rfl
      · exact absurd (WideAt.sameKey_eq h) (kI_ne (Ne.symm e))
    simp only [crP, List.getElem_mapIdx, hs, Bool.not_false, Bool.and_true]
theorem pairwise_le {l : List Int} (h : l.Pairwise (· < ·)) : l.Pairwise (· ≤ ·) := h.imp (fun h => by omega)
/-- the library's search among the dirty ones -/
theorem search_t (B : Nat) (v : Value) (zs : List Int) (x : Int) (w : World) (h : OwnI w B v zs) (hs : zs.Pairwise (· < ·)) (hl : zs.length ≤ 1099511627776) :
    Calls Try.prog 30 #[v, .int .i64 x] w fun e w' => (∃ b, e = .returned (.tuple #[.int .i64 (zs.countP (· < x) : Nat), .bool b])) ∧ Below w.heap.size w w' := by
  obtain ⟨a, c, rfl, hc⟩ := h.val
  by_cases h0 : zs = []
  · subst h0
    refine (Try.slices_BinarySearch_int_empty a c x w).mono ?_
    rintro e w' ⟨rfl, rfl⟩
    exact ⟨⟨_, rfl⟩, Below.refl _ _⟩
  · obtain ⟨g, rfl, -, -, hcl⟩ := hc (List.length_pos_iff.2 h0)
    refine (Try.slices_BinarySearch_int g 0 zs.length c zs x w (Nat.le_refl _) (by omega) (fun j hj => by rw [Nat.zero_add, hcl j hj, List.getD_eq_getElem?_getD, List.getElem?_eq_getElem hj]; rfl) (by rw [List.take_length]; exact pairwise_le hs)).mono ?_
    rintro e w' ⟨rfl, q, rfl⟩
    rw [List.take_length]
    exact ⟨⟨_, rfl⟩, below_drewN (Below.refl _ _) q⟩
end Go.Proofs.Ytekfolppahnpoaa
