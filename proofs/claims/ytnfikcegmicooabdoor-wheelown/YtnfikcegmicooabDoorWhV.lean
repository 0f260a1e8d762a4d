import Derived.Test.YtnfikcegmicooabDoorWhU
namespace Go.Proofs.YtnfikcegmicooabDoor
set_option linter.unusedVariables false
set_option linter.unusedSimpArgs false
open Go.RowKit Go.Maps
/-- the wheels below r are empty -/
def tkF (F : Nat → Nat → List Tm) (r : Nat) : Nat → Nat → List Tm := fun k s => if k < r ∧ s < 64 then [] else F k s
def catA (F : Nat → Nat → List Tm) (r : Nat) : List Tm := (List.range r).flatMap (fun k => catF F k 64)
theorem tkF_zero (F : Nat → Nat → List Tm) : tkF F 0 = F := by funext k s; simp [tkF]
theorem tkF_at (F : Nat → Nat → List Tm) {k r : Nat} (h : r ≤ k) (s : Nat) : tkF F r k s = F k s := by unfold tkF; rw [if_neg (by omega)]
theorem tkF_step (F : Nat → Nat → List Tm) (r : Nat) : takF (tkF F r) r 64 = tkF F (r + 1) := by
  funext k s
  unfold takF tkF
  by_cases h1 : k = r
  · subst h1
    by_cases h2 : s < 64
    · simp [h2]
    · simp [h2]
  · by_cases h2 : k < r
    · by_cases h3 : s < 64
      · simp [h1, h2, h3, show k < r + 1 by omega]
      · simp [h1, h3]
    · simp [h1, h2, show ¬ k < r + 1 by omega]
theorem catF_tk (F : Nat → Nat → List Tm) {k r : Nat} (h : r ≤ k) (j : Nat) : catF (tkF F r) k j = catF F k j := by
  unfold catF
  congr 1
  funext s
  exact tkF_at F h s
theorem catA_step (F : Nat → Nat → List Tm) (r : Nat) : catA F (r + 1) = catA F r ++ catF F r 64 := by
  unfold catA
  rw [List.range_succ, List.flatMap_append]
  simp
theorem catF_mem {F : Nat → Nat → List Tm} {k r : Nat} {t : Tm} : t ∈ catF F k r ↔ ∃ s, s < r ∧ t ∈ F k s := by
  unfold catF
  simp [List.mem_flatMap]
theorem catA_mem {F : Nat → Nat → List Tm} {r : Nat} {t : Tm} : t ∈ catA F r ↔ ∃ k, k < r ∧ ∃ s, s < 64 ∧ t ∈ F k s := by
  unfold catA
  simp [List.mem_flatMap, catF_mem]
section
variable {N N' S : Nat} {L : List Tm} {F : Nat → Nat → List Tm} {X : Int → Pl}
theorem catF_in (hr : RepP N (fun t => t ∈ L) F X) {k r : Nat} (hk : k < 8) (hr64 : r ≤ 64) {t : Tm} : t ∈ catF F k r ↔ t ∈ L ∧ lev t.at_ N = k ∧ slt t.at_ k < r := by
  rw [catF_mem]
  constructor
  · rintro ⟨s, hs, h1⟩
    obtain ⟨h2, h3, h4⟩ := (hr.mem k s t hk (by omega)).1 h1
    exact ⟨h2, h3, by omega⟩
  · rintro ⟨h1, h2, h3⟩
    exact ⟨_, h3, (hr.mem k _ t hk (by omega)).2 ⟨h1, h2, rfl⟩⟩
theorem catF_nd (hr : RepP N (fun t => t ∈ L) F X) {k : Nat} (hk : k < 8) : ∀ {r : Nat}, r ≤ 64 → (catF F k r).Nodup := by
  intro r
  induction r with
  | zero => intro _; exact List.nodup_nil
  | succ r ih =>
    intro h
    rw [catF_step]
    refine List.nodup_append.2 ⟨ih (by omega), hr.fnd k r hk (by omega), fun a ha b hb e => ?_⟩
    subst e
    have h1 := (catF_in hr hk (by omega)).1 ha
    have h2 := (hr.mem k r a hk (by omega)).1 hb
    omega
theorem catA_in (hr : RepP N (fun t => t ∈ L) F X) {r : Nat} (hk : r ≤ 8) {t : Tm} : t ∈ catA F r ↔ t ∈ L ∧ lev t.at_ N < r := by
  rw [catA_mem]
  constructor
  · rintro ⟨k, hk', s, hs, h1⟩
    obtain ⟨h2, h3, h4⟩ := (hr.mem k s t (by omega) hs).1 h1
    exact ⟨h2, by omega⟩
  · rintro ⟨h1, h2⟩
    exact ⟨_, h2, _, slt_lt t.at_ (lev t.at_ N), (hr.mem _ _ t (by omega) (slt_lt _ _)).2 ⟨h1, rfl, rfl⟩⟩
theorem catA_nd (hr : RepP N (fun t => t ∈ L) F X) : ∀ {r : Nat}, r ≤ 8 → (catA F r).Nodup := by
  intro r
  induction r with
  | zero => intro _; exact List.nodup_nil
  | succ r ih =>
    intro h
    rw [catA_step]
    refine List.nodup_append.2 ⟨ih (by omega), catF_nd hr (by omega) (Nat.le_refl _), fun a ha b hb e => ?_⟩
    subst e
    have h1 := (catA_in hr (by omega)).1 ha
    have h2 := (catF_in hr (by omega) (Nat.le_refl _)).1 hb
    omega
theorem catA_le (hr : RepP N (fun t => t ∈ L) F X) {r : Nat} (h : r ≤ 8) : (catA F r).length ≤ L.length := sub_len (catA_nd hr h) (fun t ht => ((catA_in hr h).1 ht).1)
theorem catF_len (hr : RepP N (fun t => t ∈ L) F X) {k r : Nat} (hk : k < 8) (h : r ≤ 64) : (catF F k r).length ≤ L.length := sub_len (catF_nd hr hk h) (fun t ht => ((catF_in hr hk h).1 ht).1)
/-- where a timer stands behind the turn, by where it stood -/
theorem turn_where (ho : Ord N S L) (hN : N < N') {t : Tm} (ht : t ∈ L) (hl : N' < t.at_) (hn : ¬ (lev t.at_ N = lev N' N ∧ slt t.at_ (lev N' N) ≤ slt N' (lev N' N))) : lev t.at_ N' = lev t.at_ N ∧ (lev N' N < lev t.at_ N ∨ (lev t.at_ N = lev N' N ∧ slt N' (lev N' N) < slt t.at_ (lev N' N))) := by
  have h0 := (ho.ats t ht).1
  rcases Nat.lt_trichotomy (lev t.at_ N) (lev N' N) with h1 | h1 | h1
  · have := turn_below h0 hN h1; omega
  · have h2 : slt N' (lev N' N) < slt t.at_ (lev N' N) := by
      apply Classical.byContradiction
      intro h9
      exact hn ⟨h1, by omega⟩
    exact ⟨(turn_behind h0 hN h1 h2).2, .inr ⟨h1, h2⟩⟩
  · exact ⟨(turn_above h0 hN h1).2, .inl h1⟩
theorem turn_rep (hr : RepP N (fun t => t ∈ L) F X) (ho : Ord N S L) (hN : N < N') (hm : N' ≤ mxN) :
    RepP N' (fun t => t ∈ L ∧ N' < t.at_ ∧ ¬ (lev t.at_ N = lev N' N ∧ slt t.at_ (lev N' N) ≤ slt N' (lev N' N))) (takF (tkF F (lev N' N)) (lev N' N) (slt N' (lev N' N) + 1)) X := by
  have hk8 := lev_lt8 hN hm
  have hl64 := slt_lt N' (lev N' N)
  have hw := fun t (h : t ∈ L ∧ N' < t.at_ ∧ ¬ (lev t.at_ N = lev N' N ∧ slt t.at_ (lev N' N) ≤ slt N' (lev N' N))) => turn_where ho hN h.1 h.2.1 h.2.2
  generalize hk : lev N' N = k at *
  generalize hl : slt N' k = last at *
  have far : ∀ k' s', s' < 64 → (k < k' ∨ (k' = k ∧ last < s')) → takF (tkF F k) k (last + 1) k' s' = F k' s' := fun k' s' h1 h2 => by
    unfold takF tkF
    rw [if_neg (by omega), if_neg (by omega)]
  have near : ∀ k' s', s' < 64 → ¬ (k < k' ∨ (k' = k ∧ last < s')) → takF (tkF F k) k (last + 1) k' s' = [] := fun k' s' h1 h2 => by
    unfold takF tkF
    by_cases h3 : k' = k ∧ s' < last + 1
    · rw [if_pos h3]
    · rw [if_neg h3, if_pos (by omega)]
  refine ⟨fun k' s' t hk' hs' => ?_, fun k' s' hk' hs' => ?_, fun t ht h8 => ?_, fun t ht h8 => ?_, fun t u ht hu => hr.uni t u ht.1 hu.1⟩
  · by_cases h1 : k < k' ∨ (k' = k ∧ last < s')
    · rw [far k' s' hs' h1, hr.mem k' s' t hk' hs']
      constructor
      · rintro ⟨h2, h3, h4⟩
        have h0 := (ho.ats t h2).1
        rcases h1 with h1 | ⟨h1, h5⟩
        · have h6 := turn_above h0 hN (by rw [hk, h3]; exact h1)
          exact ⟨⟨h2, h6.1, by omega⟩, h6.2.trans h3, h4⟩
        · subst h1
          have h6 := turn_behind h0 hN (by rw [hk, h3]) (by rw [hk, hl, h4]; exact h5)
          exact ⟨⟨h2, h6.1, by omega⟩, h6.2.trans h3, h4⟩
      · rintro ⟨h2, h3, h4⟩
        have h5 := hw t h2
        exact ⟨h2.1, by omega, h4⟩
    · rw [near k' s' hs' h1]
      constructor
      · intro h9; cases h9
      · rintro ⟨h2, h3, h4⟩
        have h5 := hw t h2
        exfalso
        apply h1
        rcases h5.2 with h6 | ⟨h6, h7⟩
        · exact .inl (by omega)
        · have h8 : k' = k := by omega
          subst h8
          exact .inr ⟨rfl, by omega⟩
  · by_cases h1 : k < k' ∨ (k' = k ∧ last < s')
    · rw [far k' s' hs' h1]
      exact hr.fnd k' s' hk' hs'
    · rw [near k' s' hs' h1]
      exact List.nodup_nil
  · have h5 := hw t ht
    obtain ⟨i, h6, h7⟩ := hr.pl t ht.1 (by omega)
    refine ⟨i, by rw [h5.1]; exact h6, ?_⟩
    rw [h5.1, far _ _ (slt_lt _ _)]
    · exact h7
    · rcases h5.2 with h8 | ⟨h8, h9⟩
      · exact .inl h8
      · exact .inr ⟨h8, by rw [h8]; exact h9⟩
  · have h5 := hw t ht
    exact hr.p8 t ht.1 (by omega)
/-- what rings -/
theorem turn_due (hr : RepP N (fun t => t ∈ L) F X) (ho : Ord N S L) (hN : N < N') (hm : N' ≤ mxN) (t : Tm) : t ∈ catA F (lev N' N) ++ (catF F (lev N' N) (slt N' (lev N' N) + 1)).filter (fun t => decide (t.at_ ≤ N')) ↔ t ∈ L ∧ t.at_ ≤ N' := by
  have hk8 := lev_lt8 hN hm
  have hl64 := slt_lt N' (lev N' N)
  rw [List.mem_append, List.mem_filter, catA_in hr (by omega), catF_in hr hk8 (by omega)]
  constructor
  · rintro (⟨h1, h2⟩ | ⟨⟨h1, -, -⟩, h2⟩)
    · have := turn_below (ho.ats t h1).1 hN h2
      exact ⟨h1, by omega⟩
    · exact ⟨h1, by simpa using h2⟩
  · rintro ⟨h1, h2⟩
    have h0 := (ho.ats t h1).1
    rcases Nat.lt_trichotomy (lev t.at_ N) (lev N' N) with h3 | h3 | h3
    · exact .inl ⟨h1, h3⟩
    · refine .inr ⟨⟨h1, h3, ?_⟩, by simpa using h2⟩
      apply Classical.byContradiction
      intro h9
      have := (turn_behind h0 hN h3 (by omega)).1
      omega
    · have := (turn_above h0 hN h3).1
      omega
theorem turn_nd (hr : RepP N (fun t => t ∈ L) F X) (hN : N < N') (hm : N' ≤ mxN) : (catA F (lev N' N) ++ (catF F (lev N' N) (slt N' (lev N' N) + 1)).filter (fun t => decide (t.at_ ≤ N'))).Nodup := by
  have hk8 := lev_lt8 hN hm
  have hl64 := slt_lt N' (lev N' N)
  refine List.nodup_append.2 ⟨catA_nd hr (by omega), (catF_nd hr hk8 (by omega)).filter _, fun a ha b hb e => ?_⟩
  subst e
  have h1 := (catA_in hr (by omega)).1 ha
  have h2 := (catF_in hr hk8 (by omega)).1 (List.mem_filter.1 hb).1
  omega
/-- what stays -/
theorem turn_stay (hr : RepP N (fun t => t ∈ L) F X) (ho : Ord N S L) (hN : N < N') (hm : N' ≤ mxN) (t : Tm) : ((t ∈ L ∧ N' < t.at_ ∧ ¬ (lev t.at_ N = lev N' N ∧ slt t.at_ (lev N' N) ≤ slt N' (lev N' N))) ∨ (t ∈ catF F (lev N' N) (slt N' (lev N' N) + 1) ∧ N' < t.at_)) ↔ t ∈ L ∧ N' < t.at_ := by
  have hk8 := lev_lt8 hN hm
  have hl64 := slt_lt N' (lev N' N)
  rw [catF_in hr hk8 (by omega)]
  constructor
  · rintro (⟨h1, h2, -⟩ | ⟨⟨h1, -, -⟩, h2⟩)
    · exact ⟨h1, h2⟩
    · exact ⟨h1, h2⟩
  · rintro ⟨h1, h2⟩
    by_cases h3 : lev t.at_ N = lev N' N ∧ slt t.at_ (lev N' N) ≤ slt N' (lev N' N)
    · exact .inr ⟨⟨h1, h3.1, by omega⟩, h2⟩
    · exact .inl ⟨h1, h2, h3⟩
end
end Go.Proofs.YtnfikcegmicooabDoor
