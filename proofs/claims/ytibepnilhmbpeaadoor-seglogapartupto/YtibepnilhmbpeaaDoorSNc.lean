import Derived.Test.YtibepnilhmbpeaaDoorSNb
import Derived.Test.YtibepnilhmbpeaaDoorSLf
namespace Go.Proofs.YtibepnilhmbpeaaDoor
set_option linter.unusedVariables false
set_option linter.unusedSimpArgs false
open Go.RowKit
/-- the starts that are read: rising, within the ring -/
structure StsOk (f0 top hi : Nat) (R : List Sta × Nat) : Prop where
  cnt : f0 + R.1.length ≤ R.2
  top : R.2 ≤ top
  ris : R.1.Pairwise (fun x y => x.n < y.n)
  all : ∀ s ∈ R.1, f0 ≤ s.n ∧ s.n < R.2 ∧ s.e ≤ hi ∧ s.e < 281474976710656
theorem stGo_ok {d : Dst} {A Z hi top f0 : Nat} : ∀ (k nx lo : Nat) (acc : List Sta), StsOk f0 top hi (acc, nx) → StsOk f0 top hi (stGo d A Z hi top k nx lo acc)
  | 0, _, _, _, h => h
  | k + 1, nx, lo, acc, h => by
    by_cases hc : frE d A Z nx lo hi ≠ 0 ∨ ptsE d A Z (pcL d A Z nx) (needS (pcL d A Z nx).len - 1) ≠ 0 ∨ top < nx + needS (pcL d A Z nx).len
    · rw [stGo_stop hc]; exact h
    · rw [stGo_next hc]
      have hfr : frE d A Z nx lo hi = 0 := by
        rcases Classical.em (frE d A Z nx lo hi = 0) with h9 | h9
        · exact h9
        · exact absurd (.inl h9) hc
      obtain ⟨-, -, -, -, h5, h6⟩ := frE_zero hfr
      have hlt := (pcL_lt d A Z nx).2.1
      have htop : nx + needS (pcL d A Z nx).len ≤ top := Nat.le_of_not_lt (fun h9 => hc (.inr (.inr h9)))
      have h1 := h.cnt
      dsimp only at h1
      refine stGo_ok k _ _ _ ⟨by rw [List.length_append]; simp; omega, htop, ?_, ?_⟩
      · refine List.pairwise_append.2 ⟨h.ris, List.pairwise_singleton _ _, fun a ha b hb => ?_⟩
        obtain rfl := List.mem_singleton.1 hb
        exact (h.all a ha).2.1
      · intro s hs
        show f0 ≤ s.n ∧ s.n < nx + needS (pcL d A Z nx).len ∧ s.e ≤ hi ∧ s.e < 281474976710656
        rcases List.mem_append.1 hs with h9 | h9
        · obtain ⟨a1, a2, a3, a4⟩ := h.all s h9
          dsimp only at a2
          exact ⟨a1, by omega, a3, a4⟩
        · obtain rfl := List.mem_singleton.1 h9
          exact ⟨by dsimp only; omega, by dsimp only; omega, h5, hlt⟩
theorem stS_ok (d : Dst) (A Z : Nat) (h : Hd) : StsOk h.f (h.f + (Z - 2)) h.e (stS d A Z h) :=
  stGo_ok _ _ _ _ ⟨by simp, by simp, List.Pairwise.nil, fun s hs => by cases hs⟩
theorem cntB_all {L : List Sta} {f : Nat} (h : ∀ s ∈ L, f ≤ s.n) : cntB L f = 0 := by
  unfold cntB
  cases L with
  | nil => rfl
  | cons s r => rw [List.takeWhile_cons_of_neg (by have := h s (List.mem_cons_self ..); simp; omega)]; rfl
/-- the log as Open finds it -/
def opX (d : Dst) (A Z : Nat) : Lg := ⟨A, Z, cntH d A Z, (stS d A Z (cntH d A Z)).2, (stS d A Z (cntH d A Z)).1, false⟩
theorem cntH_lt (d : Dst) (A Z : Nat) : (cntH d A Z).sm := by
  have h6 : ∀ xs i, hdN xs i 6 < 281474976710656 := fun xs i => by
    unfold hdN
    have h := lowS_lt ((xs.drop i).take 6)
    have h2 : ((xs.drop i).take 6).length ≤ 6 := by rw [List.length_take]; omega
    have h3 : 256 ^ ((xs.drop i).take 6).length ≤ 256 ^ 6 := Nat.pow_le_pow_right (by decide) h2
    have h4 : (256 : Nat) ^ 6 = 281474976710656 := by decide
    omega
  have : ∀ k, (cntK d A Z k).sm := fun k => by
    induction k with
    | zero => exact ⟨Nat.lt_of_sub_eq_succ rfl, Nat.lt_of_sub_eq_succ rfl, Nat.lt_of_sub_eq_succ rfl, Nat.lt_of_sub_eq_succ rfl⟩
    | succ k ih =>
      unfold cntK
      split
      · exact ⟨h6 _ _, h6 _ _, h6 _ _, h6 _ _⟩
      · exact ih
  exact this 2
/-- the head that Open writes -/
def opH (d : Dst) (A Z : Nat) : Hd := (opX d A Z).newH ((cntH d A Z).e + 1) (cntH d A Z).f
theorem opH_ok (d : Dst) (A Z : Nat) : (opH d A Z).ok := by
  have h := cntH_lt d A Z
  have hs := stS_ok d A Z (cntH d A Z)
  obtain ⟨h1, h2, h3, h4⟩ := h
  unfold opH Lg.newH opX
  refine ⟨by dsimp only; omega, by dsimp only; omega, by dsimp only; omega, ?_⟩
  dsimp only
  split
  · omega
  · rename_i s hs9
    split
    · have := (hs.all s (List.mem_of_getElem? hs9)).2.2.2; omega
    · omega
/-- what Open answers: the error, the disk -/
def openE (d : Dst) (A Z : Nat) : Int := if (cntH d A Z).g = 0 then 50 else if (cntH d A Z).g = 281474976710655 ∨ (cntH d A Z).e = 281474976710655 then 6 else opE (runO d (hdO A Z (opH d A Z))).2
def opY (d : Dst) (A Z : Nat) : Lg := { opX d A Z with h := opH d A Z }
theorem opY_eq (d : Dst) (A Z : Nat) : (opX d A Z).begun ((cntH d A Z).e + 1) (cntH d A Z).f = opY d A Z := by
  have hs := stS_ok d A Z (cntH d A Z)
  have h0 : cntB (opX d A Z).L (cntH d A Z).f = 0 := cntB_all (fun s hs9 => (hs.all s hs9).1)
  unfold Lg.begun
  rw [h0]
  rfl
end Go.Proofs.YtibepnilhmbpeaaDoor
