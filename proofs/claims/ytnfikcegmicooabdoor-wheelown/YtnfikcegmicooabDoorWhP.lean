import Derived.Test.YtnfikcegmicooabDoorWhL
namespace Go.Proofs.YtnfikcegmicooabDoor
set_option linter.unusedVariables false
set_option linter.unusedSimpArgs false
open Go.RowKit Go.Maps
theorem nodup_inj {xs : List Tm} (h : xs.Nodup) {a b : Nat} {t : Tm} (ha : xs[a]? = some t) (hb : xs[b]? = some t) : a = b := by
  obtain ⟨h1, h2⟩ := List.getElem?_eq_some_iff.1 ha
  obtain ⟨h3, h4⟩ := List.getElem?_eq_some_iff.1 hb
  have h5 := List.pairwise_iff_getElem.1 h
  rcases Nat.lt_trichotomy a b with h6 | h6 | h6
  · exact absurd (h2.trans h4.symm) (h5 a b h1 h3 h6)
  · exact h6
  · exact absurd (h4.trans h2.symm) (h5 b a h3 h1 h6)
theorem inj_nodup {xs : List Tm} (h : ∀ (a b : Nat) (t : Tm), xs[a]? = some t → xs[b]? = some t → a = b) : xs.Nodup := by
  rw [List.Nodup, List.pairwise_iff_getElem]
  intro i j hi hj hij e
  have := h i j xs[i] (List.getElem?_eq_getElem hi) (by rw [List.getElem?_eq_getElem hj, e])
  omega
theorem sub_len {α : Type} {xs : List α} (h : xs.Nodup) : ∀ {L : List α}, (∀ x, x ∈ xs → x ∈ L) → xs.length ≤ L.length := by
  induction xs with
  | nil => intro L _; exact Nat.zero_le _
  | cons x xs ih =>
    intro L hs
    obtain ⟨h1, h2⟩ := List.nodup_cons.1 h
    obtain ⟨l1, l2, rfl⟩ := List.append_of_mem (hs x (by simp))
    have h3 := ih h2 (L := l1 ++ l2) (fun y hy => by
      have h4 := hs y (by simp [hy])
      simp only [List.mem_append, List.mem_cons] at h4 ⊢
      rcases h4 with h4 | h4 | h4
      · exact .inl h4
      · exact absurd (h4 ▸ hy) h1
      · exact .inr h4)
    simp only [List.length_cons, List.length_append] at *
    omega
theorem rem_get (xs : List Tm) (i j : Nat) (hi : i < xs.length) : (remL xs i)[j]? = if j < xs.length - 1 then (if j = i then xs[xs.length - 1]? else xs[j]?) else none := by
  unfold remL
  have hD : xs.getD (xs.length - 1) ⟨0, 0, 0⟩ = xs[xs.length - 1]'(by omega) := by rw [List.getD_eq_getElem?_getD, List.getElem?_eq_getElem (by omega)]; rfl
  rw [hD]
  by_cases h1 : j < xs.length - 1
  · rw [if_pos h1, List.getElem?_take_of_lt h1]
    by_cases h2 : j = i
    · subst h2
      rw [if_pos rfl, List.getElem?_set_self hi, List.getElem?_eq_getElem (by omega)]
    · rw [if_neg h2, List.getElem?_set_ne (fun e => h2 e.symm)]
  · rw [if_neg h1, List.getElem?_take_eq_none (by omega)]
theorem rem_mem {xs : List Tm} (hn : xs.Nodup) {i : Nat} (hi : i < xs.length) (t : Tm) : t ∈ remL xs i ↔ t ∈ xs ∧ xs[i]? ≠ some t := by
  rw [List.mem_iff_getElem?, List.mem_iff_getElem?]
  constructor
  · rintro ⟨j, hj⟩
    rw [rem_get xs i j hi] at hj
    by_cases h1 : j < xs.length - 1
    · rw [if_pos h1] at hj
      by_cases h2 : j = i
      · rw [if_pos h2] at hj
        exact ⟨⟨_, hj⟩, fun e => by have := nodup_inj hn hj e; omega⟩
      · rw [if_neg h2] at hj
        exact ⟨⟨_, hj⟩, fun e => h2 (nodup_inj hn hj e)⟩
    · rw [if_neg h1] at hj
      cases hj
  · rintro ⟨⟨j, hj⟩, hne⟩
    have hjl := (List.getElem?_eq_some_iff.1 hj).1
    have hji : j ≠ i := fun e => hne (e ▸ hj)
    by_cases h1 : j = xs.length - 1
    · refine ⟨i, ?_⟩
      rw [rem_get xs i i hi, if_pos (by omega), if_pos rfl, ← h1]
      exact hj
    · refine ⟨j, ?_⟩
      rw [rem_get xs i j hi, if_pos (by omega), if_neg hji]
      exact hj
theorem rem_nodup {xs : List Tm} (hn : xs.Nodup) {i : Nat} (hi : i < xs.length) : (remL xs i).Nodup := by
  apply inj_nodup
  intro a b t ha hb
  rw [rem_get xs i a hi] at ha
  rw [rem_get xs i b hi] at hb
  by_cases h1 : a < xs.length - 1
  · by_cases h2 : b < xs.length - 1
    · rw [if_pos h1] at ha
      rw [if_pos h2] at hb
      by_cases h3 : a = i
      · by_cases h4 : b = i
        · omega
        · rw [if_pos h3] at ha
          rw [if_neg h4] at hb
          have := nodup_inj hn ha hb
          omega
      · by_cases h4 : b = i
        · rw [if_neg h3] at ha
          rw [if_pos h4] at hb
          have := nodup_inj hn ha hb
          omega
        · rw [if_neg h3] at ha
          rw [if_neg h4] at hb
          exact nodup_inj hn ha hb
    · rw [if_neg h2] at hb
      cases hb
  · rw [if_neg h1] at ha
    cases ha
/-- where the timers of P stand -/
structure RepP (N : Nat) (P : Tm → Prop) (F : Nat → Nat → List Tm) (X : Int → Pl) : Prop where
  mem : ∀ k s t, k < 8 → s < 64 → (t ∈ F k s ↔ P t ∧ lev t.at_ N = k ∧ slt t.at_ k = s)
  fnd : ∀ k s, k < 8 → s < 64 → (F k s).Nodup
  pl : ∀ t, P t → lev t.at_ N < 8 → ∃ i, X t.id = ⟨lev t.at_ N, slt t.at_ (lev t.at_ N), i⟩ ∧ (F (lev t.at_ N) (slt t.at_ (lev t.at_ N)))[i]? = some t
  p8 : ∀ t, P t → lev t.at_ N = 8 → (X t.id).k = 8
  uni : ∀ t u, P t → P u → t.id = u.id → t = u
theorem RepP.put {N : Nat} {P : Tm → Prop} {F : Nat → Nat → List Tm} {X : Int → Pl} (h : RepP N P F X) (t : Tm) (ht : ∀ u, P u → u.id ≠ t.id) (hl : lev t.at_ N ≤ 8) : RepP N (fun u => P u ∨ u = t) (putF F N t) (updI X t.id (putPl F N t)) := by
  have hs := slt_lt t.at_ (lev t.at_ N)
  have hnt : ∀ k s, k < 8 → s < 64 → t ∉ F k s := fun k s hk hs h9 => ht t ((h.mem k s t hk hs).1 h9).1 rfl
  have hput : ∀ k s, k < 8 → s < 64 → ∀ u, u ∈ putF F N t k s ↔ u ∈ F k s ∨ (u = t ∧ lev t.at_ N = k ∧ slt t.at_ k = s) := by
    intro k s hk hs' u
    unfold putF
    by_cases h8 : lev t.at_ N < 8
    · rw [if_pos h8]
      by_cases e : k = lev t.at_ N ∧ s = slt t.at_ (lev t.at_ N)
      · obtain ⟨rfl, rfl⟩ := e
        rw [upd2_same]
        simp
      · rw [upd2_other _ e]
        refine ⟨.inl, fun h9 => h9.elim id (fun ⟨_, h1, h2⟩ => absurd ⟨h1.symm, by rw [← h2, h1]⟩ e)⟩
    · rw [if_neg h8]
      exact ⟨.inl, fun h9 => h9.elim id (fun ⟨_, h1, _⟩ => by omega)⟩
  refine ⟨fun k s u hk hs' => ?_, fun k s hk hs' => ?_, fun u hu h8 => ?_, fun u hu h8 => ?_, fun u v hu hv e => ?_⟩
  · rw [hput k s hk hs', h.mem k s u hk hs']
    constructor
    · rintro (⟨h1, h2, h3⟩ | ⟨rfl, h2, h3⟩)
      · exact ⟨.inl h1, h2, h3⟩
      · exact ⟨.inr rfl, h2, h3⟩
    · rintro ⟨h1 | rfl, h2, h3⟩
      · exact .inl ⟨h1, h2, h3⟩
      · exact .inr ⟨rfl, h2, h3⟩
  · unfold putF
    by_cases h8 : lev t.at_ N < 8
    · rw [if_pos h8]
      by_cases e : k = lev t.at_ N ∧ s = slt t.at_ (lev t.at_ N)
      · obtain ⟨rfl, rfl⟩ := e
        rw [upd2_same]
        refine List.nodup_append.2 ⟨h.fnd _ _ h8 hs, by simp, fun a ha b hb e => ?_⟩
        simp at hb
        subst hb e
        exact hnt _ _ h8 hs ha
      · rw [upd2_other _ e]
        exact h.fnd k s hk hs'
    · rw [if_neg h8]
      exact h.fnd k s hk hs'
  · rcases hu with hu | rfl
    · obtain ⟨i, h1, h2⟩ := h.pl u hu h8
      refine ⟨i, ?_, ?_⟩
      · rw [updI_other _ (ht u hu)]; exact h1
      · unfold putF
        by_cases h9 : lev t.at_ N < 8
        · rw [if_pos h9]
          by_cases e : lev u.at_ N = lev t.at_ N ∧ slt u.at_ (lev u.at_ N) = slt t.at_ (lev t.at_ N)
          · rw [e.2, e.1, upd2_same]
            rw [e.2, e.1] at h2
            rw [List.getElem?_append_left (List.getElem?_eq_some_iff.1 h2).1]
            exact h2
          · rw [upd2_other _ e]
            exact h2
        · rw [if_neg h9]
          exact h2
    · refine ⟨(F (lev u.at_ N) (slt u.at_ (lev u.at_ N))).length, ?_, ?_⟩
      · rw [updI_same]
        unfold putPl
        rw [if_pos h8]
      · unfold putF
        rw [if_pos h8, upd2_same]
        simp
  · rcases hu with hu | rfl
    · rw [updI_other _ (ht u hu)]
      exact h.p8 u hu h8
    · rw [updI_same]
      exact h8
  · rcases hu with hu | rfl
    · rcases hv with hv | rfl
      · exact h.uni u v hu hv e
      · exact absurd e (ht u hu)
    · rcases hv with hv | rfl
      · exact absurd e.symm (ht v hv)
      · rfl
theorem RepP.leave {N : Nat} {P : Tm → Prop} {F : Nat → Nat → List Tm} {X : Int → Pl} (h : RepP N P F X) (t : Tm) (ht : P t) (h8 : lev t.at_ N < 8) {k s i : Nat} (hx : X t.id = ⟨k, s, i⟩) :
    k < 8 ∧ s < 64 ∧ i < (F k s).length ∧ (i < (F k s).length - 1 → P ((F k s).getD ((F k s).length - 1) ⟨0, 0, 0⟩)) ∧ RepP N (fun u => P u ∧ u.id ≠ t.id) (upd2 F k s (remL (F k s) i)) (leaveX F X k s i) := by
  obtain ⟨i', h1, h2⟩ := h.pl t ht h8
  rw [hx] at h1
  obtain ⟨rfl, rfl, rfl⟩ := Pl.mk.inj h1
  have hs := slt_lt t.at_ (lev t.at_ N)
  have hi := (List.getElem?_eq_some_iff.1 h2).1
  generalize hk : lev t.at_ N = k at *
  generalize hsl : slt t.at_ k = s at *
  have hnd := h.fnd k s h8 hs
  have hD : (F k s).getD ((F k s).length - 1) ⟨0, 0, 0⟩ = (F k s)[(F k s).length - 1]'(by omega) := by rw [List.getD_eq_getElem?_getD, List.getElem?_eq_getElem (by omega)]; rfl
  have hlast : (F k s)[(F k s).length - 1]? = some ((F k s).getD ((F k s).length - 1) ⟨0, 0, 0⟩) := by rw [hD, List.getElem?_eq_getElem]
  generalize hM : (F k s).getD ((F k s).length - 1) ⟨0, 0, 0⟩ = M at *
  have hMin : M ∈ F k s := List.mem_iff_getElem?.2 ⟨_, hlast⟩
  have hMP := (h.mem k s M h8 hs).1 hMin
  have hmem : ∀ u, u ∈ remL (F k s) i ↔ u ∈ F k s ∧ u.id ≠ t.id := fun u => by
    rw [rem_mem hnd hi]
    constructor
    · rintro ⟨h3, h4⟩
      refine ⟨h3, fun e => h4 ?_⟩
      rw [h.uni u t ((h.mem k s u h8 hs).1 h3).1 ht e]
      exact h2
    · rintro ⟨h3, h4⟩
      refine ⟨h3, fun e => h4 ?_⟩
      rw [h2] at e
      rw [Option.some.inj e]
  refine ⟨h8, hs, hi, fun _ => hMP.1, ?_⟩
  refine ⟨fun k' s' u hk' hs' => ?_, fun k' s' hk' hs' => ?_, fun u hu h9 => ?_, fun u hu h9 => ?_, fun u v hu hv e => h.uni u v hu.1 hv.1 e⟩
  · by_cases e : k' = k ∧ s' = s
    · obtain ⟨rfl, rfl⟩ := e
      rw [upd2_same, hmem, h.mem k' s' u hk' hs']
      constructor
      · rintro ⟨⟨a, b, c⟩, d⟩; exact ⟨⟨a, d⟩, b, c⟩
      · rintro ⟨⟨a, d⟩, b, c⟩; exact ⟨⟨a, b, c⟩, d⟩
    · rw [upd2_other _ e, h.mem k' s' u hk' hs']
      constructor
      · rintro ⟨a, b, c⟩
        refine ⟨⟨a, fun e9 => e ?_⟩, b, c⟩
        have := h.uni u t a ht e9
        subst this
        exact ⟨b.symm.trans hk, by rw [← c, ← b, hk]; exact hsl⟩
      · rintro ⟨⟨a, -⟩, b, c⟩; exact ⟨a, b, c⟩
  · by_cases e : k' = k ∧ s' = s
    · obtain ⟨rfl, rfl⟩ := e
      rw [upd2_same]
      exact rem_nodup hnd hi
    · rw [upd2_other _ e]
      exact h.fnd k' s' hk' hs'
  · obtain ⟨j, h3, h4⟩ := h.pl u hu.1 h9
    have hut : u ≠ t := fun e => hu.2 (by rw [e])
    by_cases e : lev u.at_ N = k ∧ slt u.at_ (lev u.at_ N) = s
    · rw [e.2, e.1] at h3 h4
      have hjl := (List.getElem?_eq_some_iff.1 h4).1
      have hji : j ≠ i := fun e9 => by
        subst e9
        rw [h2] at h4
        exact hut (Option.some.inj h4).symm
      by_cases h5 : j = (F k s).length - 1
      · subst h5
        have huM : u = M := by rw [hlast] at h4; exact (Option.some.inj h4).symm
        have hlt : i < (F k s).length - 1 := by omega
        refine ⟨i, ?_, ?_⟩
        · unfold leaveX
          rw [if_pos hlt, hM, ← huM, updI_same, e.2, e.1]
        · rw [e.2, e.1, upd2_same, rem_get _ _ _ hi, if_pos hlt, if_pos rfl]
          exact h4
      · refine ⟨j, ?_, ?_⟩
        · unfold leaveX
          by_cases hlt : i < (F k s).length - 1
          · rw [if_pos hlt, hM, updI_other, h3, e.2, e.1]
            intro e9
            have := h.uni u M hu.1 hMP.1 e9
            subst this
            exact h5 (nodup_inj hnd h4 hlast)
          · rw [if_neg hlt, h3, e.2, e.1]
        · rw [e.2, e.1, upd2_same, rem_get _ _ _ hi, if_pos (by omega), if_neg hji]
          exact h4
    · refine ⟨j, ?_, ?_⟩
      · unfold leaveX
        by_cases hlt : i < (F k s).length - 1
        · rw [if_pos hlt, hM, updI_other, h3]
          intro e9
          have := h.uni u M hu.1 hMP.1 e9
          subst this
          exact e ⟨hMP.2.1, by rw [hMP.2.1]; exact hMP.2.2⟩
        · rw [if_neg hlt, h3]
      · rw [upd2_other _ e]
        exact h4
  · unfold leaveX
    by_cases hlt : i < (F k s).length - 1
    · rw [if_pos hlt, hM, updI_other]
      · exact h.p8 u hu.1 h9
      · intro e9
        have := h.uni u M hu.1 hMP.1 e9
        subst this
        omega
    · rw [if_neg hlt]
      exact h.p8 u hu.1 h9
theorem RepP.leave8 {N : Nat} {P : Tm → Prop} {F : Nat → Nat → List Tm} {X : Int → Pl} (h : RepP N P F X) (t : Tm) (ht : P t) (h8 : lev t.at_ N = 8) : RepP N (fun u => P u ∧ u.id ≠ t.id) F X := by
  refine ⟨fun k s u hk hs => ?_, h.fnd, fun u hu => h.pl u hu.1, fun u hu => h.p8 u hu.1, fun u v hu hv => h.uni u v hu.1 hv.1⟩
  rw [h.mem k s u hk hs]
  constructor
  · rintro ⟨a, b, c⟩
    refine ⟨⟨a, fun e => ?_⟩, b, c⟩
    have := h.uni u t a ht e
    subst this
    omega
  · rintro ⟨⟨a, -⟩, b, c⟩; exact ⟨a, b, c⟩
theorem RepP.congr {N : Nat} {P Q : Tm → Prop} {F : Nat → Nat → List Tm} {X : Int → Pl} (h : RepP N P F X) (e : ∀ t, P t ↔ Q t) : RepP N Q F X := by
  have : P = Q := funext fun t => propext (e t)
  rw [← this]
  exact h
end Go.Proofs.YtnfikcegmicooabDoor
