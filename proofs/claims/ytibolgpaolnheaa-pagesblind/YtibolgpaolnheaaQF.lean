import Derived.Test.YtibolgpaolnheaaQT
namespace Go.Proofs.Ytibolgpaolnheaa
set_option linter.unusedVariables false
set_option linter.unusedSimpArgs false
open Go.RowKit
/-- a row with other places in the place of those from i to j - 1 -/
def repL {α : Type} (l : List α) (i j : Nat) (new : List α) : List α := l.take i ++ new ++ l.drop j
theorem repL_len {α : Type} {l : List α} {i j : Nat} {new : List α} (hi : i ≤ l.length) : (repL l i j new).length = i + new.length + (l.length - j) := by
  unfold repL
  rw [List.length_append, List.length_append, List.length_take, List.length_drop]
  omega
theorem repL_set {α : Type} {l : List α} {i : Nat} {x : α} (hi : i < l.length) : l.set i x = repL l i (i + 1) [x] := by
  unfold repL
  rw [List.set_eq_take_append_cons_drop, if_pos hi]
  simp
theorem repL_mem {α : Type} {l : List α} {i j : Nat} {new : List α} {x : α} (h : x ∈ repL l i j new) : x ∈ l ∨ x ∈ new := by
  unfold repL at h
  simp only [List.mem_append] at h
  rcases h with (h | h) | h
  · exact .inl (List.mem_of_mem_take h)
  · exact .inr h
  · exact .inl (List.mem_of_mem_drop h)
theorem repL_flat {α : Type} (l : List (List α)) (i j : Nat) (new : List (List α)) : (repL l i j new).flatten = (l.take i).flatten ++ new.flatten ++ (l.drop j).flatten := by
  unfold repL
  rw [List.flatten_append, List.flatten_append]
theorem flat_cut {α : Type} (l : List (List α)) (i : Nat) (hi : i < l.length) : l.flatten = (l.take i).flatten ++ l[i] ++ (l.drop (i + 1)).flatten := by
  conv => lhs; rw [← List.take_append_drop i l, List.drop_eq_getElem_cons hi, List.flatten_append, List.flatten_cons, ← List.append_assoc]
/-- a row cut at a stamp -/
structure CutAt (L : List Ent) (s : St) (X M Y : List Ent) : Prop where
  eq : L = X ++ M ++ Y
  lo : ∀ x ∈ X, ltS x.st s = true
  mid : ∀ x ∈ M, x.st = s
  hi : ∀ x ∈ Y, ltS s x.st = true
def insL (L : List Ent) (e : Ent) : List Ent := L.filter (fun x => ltS x.st e.st) ++ [e] ++ L.filter (fun x => ltS e.st x.st)
def delL (L : List Ent) (s : St) : List Ent := L.filter (fun x => !decide (x.st = s))
theorem ltS_asymm {a b : St} (h : ltS a b = true) : ltS b a = false := by
  cases h9 : ltS b a
  · rfl
  · have := ltS_trans h h9
    rw [ltS_irrefl] at this; cases this
theorem ltS_ne {a b : St} (h : ltS a b = true) : a ≠ b := fun e => by subst e; rw [ltS_irrefl] at h; cases h
theorem ltS_ge {a b : St} (h : ltS a b = false) (hn : a ≠ b) : ltS b a = true := by
  cases h9 : ltS b a
  · exact absurd (ltS_tri h h9) hn
  · rfl
theorem filt_all {p : Ent → Bool} {l : List Ent} (h : ∀ x ∈ l, p x = true) : l.filter p = l := List.filter_eq_self.2 h
theorem filt_no {p : Ent → Bool} {l : List Ent} (h : ∀ x ∈ l, p x = false) : l.filter p = [] := List.filter_eq_nil_iff.2 fun x hx => by rw [h x hx]; simp
variable {L X M Y : List Ent} {s : St}
theorem CutAt.below (h : CutAt L s X M Y) : L.filter (fun x => ltS x.st s) = X := by
  rw [h.eq, List.filter_append, List.filter_append, filt_all h.lo, filt_no (fun x hx => by rw [h.mid x hx]; exact ltS_irrefl _), filt_no (fun x hx => ltS_asymm (h.hi x hx))]
  simp
theorem CutAt.above (h : CutAt L s X M Y) : L.filter (fun x => ltS s x.st) = Y := by
  rw [h.eq, List.filter_append, List.filter_append, filt_no (fun x hx => ltS_asymm (h.lo x hx)), filt_no (fun x hx => by rw [h.mid x hx]; exact ltS_irrefl _), filt_all h.hi]
  simp
theorem CutAt.ins {e : Ent} (h : CutAt L e.st X M Y) : insL L e = X ++ [e] ++ Y := by
  unfold insL
  rw [h.below, h.above]
theorem CutAt.del (h : CutAt L s X M Y) : delL L s = X ++ Y := by
  unfold delL
  rw [h.eq, List.filter_append, List.filter_append, filt_all (fun x hx => by simpa using ltS_ne (h.lo x hx)), filt_no (fun x hx => by simpa using h.mid x hx), filt_all (fun x hx => by simpa using (ltS_ne (h.hi x hx)).symm)]
  simp
abbrev Ord (L : List Ent) : Prop := L.Pairwise fun a b => ltS a.st b.st = true
theorem Ord.del (h : Ord L) (s : St) : Ord (delL L s) := List.Pairwise.filter _ h
theorem Ord.ins (h : Ord L) (e : Ent) : Ord (insL L e) := by
  unfold insL
  refine List.pairwise_append.2 ⟨List.pairwise_append.2 ⟨List.Pairwise.filter _ h, List.pairwise_singleton _ _, ?_⟩, List.Pairwise.filter _ h, ?_⟩
  · intro a ha b hb
    obtain rfl : b = e := by simpa using hb
    simpa using (List.mem_filter.1 ha).2
  · intro a ha b hb
    have hb2 : ltS e.st b.st = true := by simpa using (List.mem_filter.1 hb).2
    rcases List.mem_append.1 ha with ha | ha
    · have ha2 : ltS a.st e.st = true := by simpa using (List.mem_filter.1 ha).2
      exact ltS_trans ha2 hb2
    · obtain rfl : a = e := by simpa using ha
      exact hb2
/-- where a stamp stands in the whole row -/
theorem PlaceIs.cut {P : List (List Ent)} {s : St} {p i : Nat} {ok : Bool} (h : PlaceIs P s p i ok) (hsp : SP P) (hp : p < P.length) :
    i ≤ P[p].length ∧ (ok = true → i < P[p].length) ∧
    CutAt P.flatten s ((P.take p).flatten ++ P[p].take i) (if ok then (P[p].drop i).take 1 else []) (P[p].drop (if ok then i + 1 else i) ++ (P.drop (p + 1)).flatten) := by
  rcases h with ⟨h1, -⟩ | ⟨r, h1, h2, h3, h4, h5⟩
  · rw [h1] at hp; exact absurd hp (Nat.not_lt_zero _)
  have eP : P.getD p [] = P[p] := by simp [List.getD, hp]
  rw [eP] at h4 h5
  have hpg : Ord P[p] := hsp.page (List.getElem_mem hp)
  have hil : i ≤ P[p].length := h4.1
  have hok : ok = true → i < P[p].length := fun h9 => (h5.1 h9).1
  have p2 : ∀ k (hk : k < P[p].length), pr2 P[p] s k = !ltS P[p][k].st s := fun k hk => by unfold pr2; simp [List.getD, hk]
  have p1 : ∀ k (hk : k < P.length), pr1 P s k = ltS s (fst1 P[k]) := fun k hk => by unfold pr1; simp [List.getD, hk]
  refine ⟨hil, hok, ⟨?_, ?_, ?_, ?_⟩⟩
  · rw [flat_cut P p hp]
    cases ok
    · simp only [Bool.false_eq_true, if_false, List.append_nil, List.append_assoc]
      rw [← List.append_assoc (P[p].take i), List.take_append_drop]
    · simp only [if_true, List.append_assoc]
      rw [← List.append_assoc ((P[p].drop i).take 1), show P[p].drop (i + 1) = (P[p].drop i).drop 1 by rw [List.drop_drop], List.take_append_drop, ← List.append_assoc (P[p].take i), List.take_append_drop]
  · intro x hx
    rcases List.mem_append.1 hx with hx | hx
    · obtain ⟨q, hq, hxq⟩ := List.mem_flatten.1 hx
      obtain ⟨k, hk, e⟩ := List.getElem_of_mem hq
      have hk' : k < p ∧ k < P.length := by have := hk; rw [List.length_take] at this; omega
      rw [List.getElem_take] at e
      have hfr : pr1 P s p = false := h1.2.1 p (by omega)
      rw [p1 p hp] at hfr
      have h9 := (List.pairwise_iff_getElem.1 (List.pairwise_flatten.1 hsp.2).2) k p hk'.2 hp hk'.1
      have h0 : 0 < P[p].length := hsp.1 _ (List.getElem_mem hp)
      have h8 := h9 x (by rw [e]; exact hxq) P[p][0] (List.getElem_mem _)
      rw [fst1_get h0] at hfr
      exact ltS_le_trans h8 hfr
    · obtain ⟨k, hk, e⟩ := List.getElem_of_mem hx
      have hk' : k < i ∧ k < P[p].length := by have := hk; rw [List.length_take] at this; omega
      rw [List.getElem_take] at e
      have h9 := h4.2.1 k hk'.1
      rw [p2 k hk'.2, e] at h9
      simpa using h9
  · intro x hx
    cases ok
    · simp at hx
    · obtain ⟨h9, h8⟩ := h5.1 rfl
      rw [if_pos rfl, List.drop_eq_getElem_cons h9, List.take_succ_cons, List.take_zero, List.mem_singleton] at hx
      subst hx
      exact h8
  · intro x hx
    rcases List.mem_append.1 hx with hx | hx
    · obtain ⟨m, hm, e⟩ := List.getElem_of_mem hx
      rw [List.getElem_drop] at e
      rw [List.length_drop] at hm
      cases ok
      · simp only [Bool.false_eq_true, if_false] at e hm
        have h9 := h4.2.2 (i + m) (by omega) (by omega)
        rw [p2 (i + m) (by omega), e] at h9
        have h8 : ltS x.st s = false := by simpa using h9
        refine ltS_ge h8 fun e9 => ?_
        by_cases hm0 : m = 0
        · subst hm0
          have h7 := h5.2 ⟨by omega, by simpa using (congrArg Ent.st e).trans e9⟩
          cases h7
        · have h7 := (List.pairwise_iff_getElem.1 hpg) i (i + m) (by omega) (by omega) (by omega)
          have h6 := h4.2.2 i (Nat.le_refl _) (by omega)
          rw [p2 i (by omega)] at h6
          rw [e, e9] at h7
          rw [h7] at h6
          cases h6
      · simp only [if_true] at e hm
        obtain ⟨h9, h8⟩ := h5.1 rfl
        have h7 := (List.pairwise_iff_getElem.1 hpg) i (i + 1 + m) (by omega) (by omega) (by omega)
        rw [h8, e] at h7
        exact h7
    · obtain ⟨q, hq, hxq⟩ := List.mem_flatten.1 hx
      obtain ⟨m, hm, e⟩ := List.getElem_of_mem hq
      rw [List.length_drop] at hm
      rw [List.getElem_drop] at e
      have hk : p + 1 + m < P.length := by omega
      have h9 := h1.2.2 (p + 1 + m) (by omega) hk
      rw [p1 _ hk] at h9
      have h0 : 0 < P[p + 1 + m].length := hsp.1 _ (List.getElem_mem hk)
      rw [fst1_get h0] at h9
      obtain ⟨t, ht, e2⟩ := List.getElem_of_mem hxq
      subst e
      by_cases ht0 : t = 0
      · subst ht0
        rw [← e2]; exact h9
      · have h8 := (List.pairwise_iff_getElem.1 (hsp.page (List.getElem_mem hk))) 0 t h0 ht (by omega)
        rw [e2] at h8
        exact ltS_trans h9 h8
/-- the pages behind a Put -/
def putP (S : Nat) (P : List (List Ent)) (p i : Nat) (ok : Bool) (e : Ent) : List (List Ent) :=
  if (putL (P.getD p []) i ok e).length ≤ S then repL P p (p + 1) [putL (P.getD p []) i ok e]
  else repL P p (p + 1) [(putL (P.getD p []) i ok e).take ((S + 1) / 2), (putL (P.getD p []) i ok e).drop ((S + 1) / 2)]
theorem putP_nil (S : Nat) (hS : 1 ≤ S) (e : Ent) : putP S [] 0 0 false e = [[e]] := by
  unfold putP putL repL
  simp [hS]
theorem putL_len {xs : List Ent} {i : Nat} {ok : Bool} {e : Ent} (h : i ≤ xs.length) (hok : ok = true → i < xs.length) : (putL xs i ok e).length = if ok then xs.length else xs.length + 1 := by
  unfold putL
  rw [List.length_append, List.length_append, List.length_take, List.length_drop]
  cases ok
  · simp; omega
  · have := hok rfl
    simp; omega
/-- what every index keeps: its pages in order, none empty or above the size -/
def Tid (S : Nat) (P : List (List Ent)) : Prop := SP P ∧ ∀ p ∈ P, p.length ≤ S
theorem PlaceIs.lt {P : List (List Ent)} {s : St} {p i : Nat} {ok : Bool} (h : PlaceIs P s p i ok) (hne : P ≠ []) : p < P.length := by
  rcases h with ⟨h1, -⟩ | ⟨r, -, -, h3, -⟩
  · exact absurd h1 hne
  · exact h3
theorem PlaceIs.nil {P : List (List Ent)} {s : St} {p i : Nat} {ok : Bool} (h : PlaceIs P s p i ok) (hne : P = []) : p = 0 ∧ i = 0 ∧ ok = false := by
  rcases h with ⟨h1, h2⟩ | ⟨r, -, -, h3, -⟩
  · exact h2
  · rw [hne] at h3; exact absurd h3 (Nat.not_lt_zero _)
theorem putP_flat {S : Nat} {P : List (List Ent)} {p i : Nat} {ok : Bool} {e : Ent} (h : PlaceIs P e.st p i ok) (hsp : SP P) (hS : 1 ≤ S) : (putP S P p i ok e).flatten = insL P.flatten e := by
  by_cases hne : P = []
  · obtain ⟨rfl, rfl, rfl⟩ := h.nil hne
    subst hne
    rw [putP_nil S hS]
    simp [insL]
  · have hp := h.lt hne
    obtain ⟨h1, h2, h3⟩ := h.cut hsp hp
    have eP : P.getD p [] = P[p] := by simp [List.getD, hp]
    rw [h3.ins]
    unfold putP
    rw [eP]
    split
    · rw [repL_flat]
      simp [putL, List.append_assoc]
    · rw [repL_flat]
      simp only [List.flatten_cons, List.flatten_nil, List.append_nil, List.take_append_drop]
      simp [putL, List.append_assoc]
theorem putP_tid {S : Nat} {P : List (List Ent)} {p i : Nat} {ok : Bool} {e : Ent} (h : PlaceIs P e.st p i ok) (ht : Tid S P) (hS : 1 ≤ S) : Tid S (putP S P p i ok e) := by
  obtain ⟨hsp, hsz⟩ := ht
  refine ⟨⟨?_, ?_⟩, ?_⟩
  · intro q hq
    unfold putP at hq
    have hl : 0 < (putL (P.getD p []) i ok e).length := by unfold putL; simp; omega
    split at hq
    · rcases repL_mem hq with h9 | h9
      · exact hsp.1 q h9
      · obtain rfl := List.mem_singleton.1 h9
        exact hl
    · rename_i hgt
      rcases repL_mem hq with h9 | h9
      · exact hsp.1 q h9
      · have h8 := (List.mem_cons.1 h9).imp id List.mem_singleton.1
        rcases h8 with rfl | rfl
        · rw [List.length_take]; omega
        · rw [List.length_drop]; omega
  · rw [putP_flat h hsp hS]
    exact Ord.ins hsp.2 e
  · intro q hq
    by_cases hne : P = []
    · obtain ⟨rfl, rfl, rfl⟩ := h.nil hne
      subst hne
      rw [putP_nil S hS] at hq
      obtain rfl : q = [e] := by simpa using hq
      simpa using hS
    · have hp := h.lt hne
      obtain ⟨h1, h2, -⟩ := h.cut hsp hp
      have eP : P.getD p [] = P[p] := by simp [List.getD, hp]
      have hl := putL_len (e := e) h1 h2
      have hle := hsz _ (List.getElem_mem hp)
      unfold putP at hq
      rw [eP] at hq
      have hl2 : (putL P[p] i ok e).length ≤ S + 1 := by rw [hl]; split <;> omega
      split at hq
      · rename_i hle2
        rcases repL_mem hq with h9 | h9
        · exact hsz q h9
        · obtain rfl := List.mem_singleton.1 h9
          exact hle2
      · rcases repL_mem hq with h9 | h9
        · exact hsz q h9
        · have h8 := (List.mem_cons.1 h9).imp id List.mem_singleton.1
          rcases h8 with rfl | rfl
          · rw [List.length_take]; omega
          · rw [List.length_drop]; omega
/-- a page without an entry -/
def cutL (xs : List Ent) (i : Nat) : List Ent := xs.take i ++ xs.drop (i + 1)
/-- the pages behind a Remove -/
def remP (S : Nat) (P : List (List Ent)) (p i : Nat) : List (List Ent) :=
  if (cutL (P.getD p []) i).length = 0 then repL P p (p + 1) []
  else if p + 1 < P.length ∧ (cutL (P.getD p []) i).length + (P.getD (p + 1) []).length ≤ S / 2 then repL P p (p + 2) [cutL (P.getD p []) i ++ P.getD (p + 1) []]
  else if 0 < p ∧ (P.getD (p - 1) []).length + (cutL (P.getD p []) i).length ≤ S / 2 then repL P (p - 1) (p + 1) [P.getD (p - 1) [] ++ cutL (P.getD p []) i]
  else repL P p (p + 1) [cutL (P.getD p []) i]
theorem cutL_len {xs : List Ent} {i : Nat} (h : i < xs.length) : (cutL xs i).length + 1 = xs.length := by
  unfold cutL
  rw [List.length_append, List.length_take, List.length_drop]
  omega
theorem remP_flat {S : Nat} {P : List (List Ent)} {p i : Nat} {s : St} (h : PlaceIs P s p i true) (hsp : SP P) : (remP S P p i).flatten = delL P.flatten s := by
  have hne : P ≠ [] := fun e => by have := h.nil e; simp at this
  have hp := h.lt hne
  obtain ⟨h1, h2, h3⟩ := h.cut hsp hp
  have hi := h2 rfl
  have eP : P.getD p [] = P[p] := by simp [List.getD, hp]
  rw [h3.del]
  unfold remP
  rw [eP]
  simp only [if_true]
  split
  · rename_i h0
    rw [repL_flat]
    have h9 : P[p].take i = [] ∧ P[p].drop (i + 1) = [] := by
      have := List.eq_nil_of_length_eq_zero h0
      unfold cutL at this
      simpa using this
    rw [h9.1, h9.2]
    simp
  · split
    · rename_i h9
      have e2 : P.getD (p + 1) [] = P[p + 1] := by simp [List.getD, h9.1]
      rw [repL_flat, e2]
      have e3 : (P.drop (p + 1)).flatten = P[p + 1] ++ (P.drop (p + 2)).flatten := by rw [List.drop_eq_getElem_cons h9.1, List.flatten_cons]
      rw [e3]
      simp [cutL, List.append_assoc]
    · split
      · rename_i h9
        have hq : p - 1 < P.length := by omega
        have e2 : P.getD (p - 1) [] = P[p - 1] := by simp [List.getD, hq]
        rw [repL_flat, e2]
        have e3 : (P.take p).flatten = (P.take (p - 1)).flatten ++ P[p - 1] := by
          obtain ⟨k, rfl⟩ : ∃ k, p = k + 1 := ⟨p - 1, by omega⟩
          simp only [Nat.add_sub_cancel]
          rw [List.take_succ_eq_append_getElem (by omega), List.flatten_append, List.flatten_cons, List.flatten_nil, List.append_nil]
        rw [e3]
        simp [cutL, List.append_assoc]
      · rw [repL_flat]
        simp [cutL, List.append_assoc]
theorem remP_tid {S : Nat} {P : List (List Ent)} {p i : Nat} {s : St} (h : PlaceIs P s p i true) (ht : Tid S P) : Tid S (remP S P p i) := by
  obtain ⟨hsp, hsz⟩ := ht
  have hne : P ≠ [] := fun e => by have := h.nil e; simp at this
  have hp := h.lt hne
  obtain ⟨h1, h2, h3⟩ := h.cut hsp hp
  have hi := h2 rfl
  have eP : P.getD p [] = P[p] := by simp [List.getD, hp]
  have hcl := cutL_len hi
  have hle := hsz _ (List.getElem_mem hp)
  have key : ∀ q ∈ remP S P p i, 0 < q.length ∧ q.length ≤ S := by
    intro q hq
    unfold remP at hq
    rw [eP] at hq
    split at hq
    · rcases repL_mem hq with h9 | h9
      · exact ⟨hsp.1 q h9, hsz q h9⟩
      · simp at h9
    · split at hq
      · rename_i h0 h8
        rcases repL_mem hq with h9 | h9
        · exact ⟨hsp.1 q h9, hsz q h9⟩
        · obtain rfl := List.mem_singleton.1 h9
          rw [List.length_append]; omega
      · split at hq
        · rename_i h0 _ h8
          rcases repL_mem hq with h9 | h9
          · exact ⟨hsp.1 q h9, hsz q h9⟩
          · obtain rfl := List.mem_singleton.1 h9
            rw [List.length_append]; omega
        · rename_i h0 _ _
          rcases repL_mem hq with h9 | h9
          · exact ⟨hsp.1 q h9, hsz q h9⟩
          · obtain rfl := List.mem_singleton.1 h9
            omega
  exact ⟨⟨fun q hq => (key q hq).1, by rw [remP_flat h hsp]; exact Ord.del hsp.2 s⟩, fun q hq => (key q hq).2⟩
/-- behind Puts alone no page is below half, unless it is the only one -/
def Half (S : Nat) (P : List (List Ent)) : Prop := 1 < P.length → ∀ p ∈ P, (S + 1) / 2 ≤ p.length
theorem putP_half {S : Nat} {P : List (List Ent)} {p i : Nat} {ok : Bool} {e : Ent} (h : PlaceIs P e.st p i ok) (ht : Tid S P) (hS : 1 ≤ S) (hh : Half S P) : Half S (putP S P p i ok e) := by
  obtain ⟨hsp, hsz⟩ := ht
  by_cases hne : P = []
  · obtain ⟨rfl, rfl, rfl⟩ := h.nil hne
    subst hne
    rw [putP_nil S hS]
    intro h9; simp at h9
  · have hp := h.lt hne
    obtain ⟨h1, h2, -⟩ := h.cut hsp hp
    have eP : P.getD p [] = P[p] := by simp [List.getD, hp]
    have hl := putL_len (e := e) h1 h2
    have hlp : P[p].length ≤ (putL P[p] i ok e).length := by rw [hl]; split <;> omega
    unfold putP
    rw [eP]
    split
    · intro hn q hq
      rw [repL_len (by omega)] at hn
      have hn2 : 1 < P.length := by simp at hn; omega
      rcases repL_mem hq with h9 | h9
      · exact hh hn2 q h9
      · obtain rfl := List.mem_singleton.1 h9
        exact Nat.le_trans (hh hn2 _ (List.getElem_mem hp)) hlp
    · rename_i hgt
      have hle := hsz _ (List.getElem_mem hp)
      have hl3 : (putL P[p] i ok e).length = S + 1 := by
        rw [hl] at hgt ⊢
        by_cases hb : ok = true
        · rw [if_pos hb] at hgt; omega
        · rw [if_neg hb] at hgt ⊢; omega
      intro hn q hq
      by_cases hn1 : 1 < P.length
      · rcases repL_mem hq with h9 | h9
        · exact hh hn1 q h9
        · have h8 := (List.mem_cons.1 h9).imp id List.mem_singleton.1
          rcases h8 with rfl | rfl
          · rw [List.length_take]; omega
          · rw [List.length_drop]; omega
      · have hp0 : p = 0 := by omega
        have hP1 : P.length = 1 := by omega
        subst hp0
        unfold repL at hq
        rw [show P.drop (0 + 1) = [] from List.drop_eq_nil_of_le (by omega)] at hq
        rw [List.take_zero, List.nil_append, List.append_nil] at hq
        rcases List.mem_cons.1 hq with rfl | hq
        · rw [List.length_take]; omega
        · obtain rfl := List.mem_singleton.1 hq
          rw [List.length_drop]; omega
end Go.Proofs.Ytibolgpaolnheaa
namespace Go.Proofs.Ytibolgpaolnheaa
set_option linter.unusedVariables false
set_option linter.unusedSimpArgs false
open Go.RowKit
variable {w w' w5 : World} {g S : Nat} {P P' : List (List Ent)} {v v' : Value} {vs vs' : List Value}
theorem row_blk {w : World} {v : Value} {n : Nat} {vs : List Value} (h : w.ownsRow 0 tPg 1 v n vs) (b : Nat) (hb : v.ownBlock = some b) : ∃ cur, w.heap[b]? = some (.cells cur tPg (0, 0)) := by
  rcases h.2 with ⟨rfl, -⟩ | ⟨g', cap, cur, rfl, -, hg, -⟩
  · cases hb
  · cases hb; exact ⟨cur, hg⟩
/-- the row of pages is another one from now on -/
theorem IdxAt.setRow (h : IdxAt w g S P v vs) (hg : w.grownBy w5 v.ownBlock) (hrow : w5.ownsRow 0 tPg 1 v' P'.length vs') (hpg : ∀ j (hj : j < P'.length), ∃ a c, vs'[j]? = some (.slice a P'[j].length c) ∧ P'[j].length ≤ c ∧ (a = none → c = 0) ∧ RdE w5 a P'[j]) :
    IdxAt (w5.setCell ⟨g, 1, none⟩ v') g S P' v' vs' ∧ Chg (foot g v) w (w5.setCell ⟨g, 1, none⟩ v') := by
  have hd5 : w5.heap[g]? = some (.cells #[.int .i64 (S : Int), v] tIx (0, 0)) := (hg.block g (Array.getElem?_eq_some_iff.1 h.hd).1 (fun e => h.ne e.symm)).trans h.hd
  have hgr : w5.grownBy (w5.setCell ⟨g, 1, none⟩ v') (some g) := ⟨rfl, rfl, rfl, by simp, fun k _ hk => heap_setCell_other w5 ⟨g, 1, none⟩ k v' (fun e => hk (by simp [e]))⟩
  have hC : Chg (fun b => b = g) w5 (w5.setCell ⟨g, 1, none⟩ v') := Chg.of_grown hgr (fun b e => by cases e; rfl)
  have hN : ∀ b, b = g → NoNum w5 b := fun b e => by subst e; exact ⟨_, _, _, hd5, by decide⟩
  refine ⟨⟨?_, ⟨hrow.1, ?_⟩, fun j hj => ?_⟩, ?_⟩
  · rw [heap_setCell_same w5 g 1 _ tIx v' hd5]
    rfl
  · rcases hrow.2 with h0 | ⟨g', cap, cur, e, hB, hg', r⟩
    · exact .inl h0
    · refine .inr ⟨g', cap, cur, e, hB, (hC.block g' (Array.getElem?_eq_some_iff.1 hg').1 (fun e2 => ?_)).trans hg', r⟩
      subst e2
      rw [hd5] at hg'
      injection hg' with h1
      injection h1 with h2 h3 h4
      exact absurd h3 (by decide)
  · obtain ⟨a, c, h1, h2, h3, h4⟩ := hpg j hj
    exact ⟨a, c, h1, h2, h3, h4.kept hC hN⟩
  · exact (Chg.of_grown (F := foot g v) hg (fun b e => .inr e)).trans hC (fun i e => .inl (.inl e))
theorem info_pg : (Try.prog.info? tPg).map (fun i => (i.zero, i.size, i.bytes)) = some (some (.slice none 0 0), 1, 24) := by kernel_rfl
section
set_option maxRecDepth 20000
set_option maxHeartbeats 3200000
theorem put_first (h : IdxAt w g S [] v vs) (hS : 1 ≤ S ∧ S ≤ 64) (s1 s2 n : Nat) :
    Calls Try.prog 13 #[.pointer (some ⟨g, 0, none⟩), sv (s1, s2), .int .u64 (n : Int)] w fun e w' => e = .returned (.bool true) ∧ (∃ v' vs', IdxAt w' g S [[mkE (s1, s2) n]] v' vs' ∧ (v'.ownBlock = v.ownBlock ∨ ∃ b, v'.ownBlock = some b ∧ w.heap.size ≤ b)) ∧ Chg (foot g v) w w' := by
  obtain ⟨w1, hw1⟩ : ∃ X : World, X = w.alloc (.cells #[.int .u64 (s1 : Int), .int .u64 (s2 : Int)] tSt) := ⟨_, rfl⟩
  have hb1 : Below w.heap.size w w1 := by rw [hw1]; exact al (Below.refl _ _) _
  have h1 := h.below hb1
  have HI1 : Hid (IdxAt w1 g S [] v vs) := h1
  obtain ⟨pa, cap, hv, hcap, hnil, hrd, hpg⟩ := h1.rd
  have HPL : Hid _ := place_t (.pointer (some ⟨g, 0, none⟩)) pa 0 cap [] (s1, s2) w1 hpg rfl hrd ⟨(fun p hp => by cases hp), List.Pairwise.nil⟩ (by decide) (fun p hp => by cases hp)
  have hcg0 : w.cell? ⟨g, 0, none⟩ = some (.int .i64 (S : Int)) := by rw [cell_of_row _ _ _ _ _ _ h.hd]; rfl
  have hgl : g < w.heap.size := (Array.getElem?_eq_some_iff.1 h.hd).1
  have hl3 : w1.rangeAt w.heap.size 0 (sc (s1, s2)) := by rw [hw1]; exact box_range (heap_alloc_new w _)
  have hSi : ¬ (S : Int) = 0 := by omega
  have hSb : ((S : Int) == 0) = false := by simpa using hSi
  have HB1 : Hid (Below w.heap.size w w1) := hb1
  have HV : Hid (v = .slice pa 0 cap) := hv
  clear h1 hb1 hrd hpg hcap hnil h hv
  go_enter Try.func13, Try.ntmps13
  go_wp2_with fail
  rw [← hw1]
  refine Calls.mono HPL.out ?_
  rintro e w2 ⟨p', i', ok', rfl, hpl', hb2⟩
  obtain ⟨rfl, rfl, rfl⟩ : p' = 0 ∧ i' = 0 ∧ ok' = false := by
    rcases hpl' with ⟨-, e1, e2, e3⟩ | ⟨r, -, -, h3, -⟩
    · exact ⟨e1, e2, e3⟩
    · exact absurd h3 (Nat.not_lt_zero _)
  have HI2 : Hid (IdxAt w2 g S [] v vs) := HI1.out.below hb2
  have HB2 : Hid (Below w.heap.size w w2) := below_next HB1.out hb2
  have hl4 : w2.rangeAt w.heap.size 0 (sc (s1, s2)) := rangeAt_below hl3 hb2
  have hcg1 : w2.cell? ⟨g, 1, none⟩ = some (.slice pa 0 cap) := by rw [cell_of_row _ _ _ _ _ _ HI2.out.hd, ← HV.out]; rfl
  have hgl2 : g < w2.heap.size := (Array.getElem?_eq_some_iff.1 HI2.out.hd).1
  obtain ⟨w3, hw3⟩ : ∃ X : World, X = w2.alloc (.cells #[.int .u64 (s1 : Int), .int .u64 (s2 : Int), .int .u64 (n : Int)] tEn) := ⟨_, rfl⟩
  have hb3 : Below w2.heap.size w2 w3 := by rw [hw3]; exact al (Below.refl _ _) _
  have HE3 : Hid (RdE w3 (some ⟨w2.heap.size, 0, none⟩) [mkE (s1, s2) n]) := rdE_one s1 s2 n (by rw [hw3]; exact heap_alloc_new w2 _)
  obtain ⟨w4, hw4⟩ : ∃ X : World, X = w3.alloc (.cells #[.slice (some ⟨w2.heap.size, 0, none⟩) 1 1] tPg) := ⟨_, rfl⟩
  have hb4 : Below w3.heap.size w3 w4 := by rw [hw4]; exact al (Below.refl _ _) _
  have HI4 : Hid (IdxAt w4 g S [] v vs) := HI2.out.below (below_next hb3 hb4)
  have HE4 : Hid (RdE w4 (some ⟨w2.heap.size, 0, none⟩) [mkE (s1, s2) n]) := HE3.out.below hb4
  have HB4 : Hid (Below w.heap.size w w4) := below_next HB2.out (below_next hb3 hb4)
  have HG4 : Hid (w4.heap[w3.heap.size]? = some (.cells #[.slice (some ⟨w2.heap.size, 0, none⟩) 1 1] tPg (0, 0))) := (show w4.heap[w3.heap.size]? = some (.cells #[.slice (some ⟨w2.heap.size, 0, none⟩) 1 1] tPg (0, 0)) by rw [hw4]; exact heap_alloc_new w3 _)
  clear hb2 hb3 hb4 hl3 hpl' HPL HI1 HB1 hw1
  obtain ⟨i0, hi, hz0, hz1, hz2⟩ := info_parts info_pg
  have HOW : Hid (w4.ownsRow 0 tPg 1 (.slice pa 0 cap) 0 vs) := (show w4.ownsRow 0 tPg 1 (.slice pa 0 cap) 0 vs by rw [← HV.out]; exact HI4.out.row)
  have hlw3 : w3.heap.size = w2.heap.size + 1 := by rw [hw3]; simp
  have HGB : Hid (w4.heap[w2.heap.size + 1]? = some (.cells #[.slice (some ⟨w2.heap.size, 0, none⟩) 1 1] tPg (0, 0))) := (show w4.heap[w2.heap.size + 1]? = some (.cells #[.slice (some ⟨w2.heap.size, 0, none⟩) 1 1] tPg (0, 0)) by rw [← hlw3]; exact HG4.out)
  clear hlw3 HG4
  go_wp2_with (first | (refine wpList_load_mid rfl tSt _ rfl w.heap.size 0 rfl (sc (s1, s2)) _ hl4 Try.underlying34 rfl info_st ?_) | (at_builtin; rw [← hw3, ← hw4]; refine wpList_append_lies _ rfl _ _ tPs rfl 0 tPg i0 _ 1 24 Try.underlying71 hi hz0 hz1 hz2 rfl (by decide) (.slice pa 0 cap) 0 vs rfl HOW.out ⟨w2.heap.size + 1, 0, none⟩ 1 1 [.slice (some ⟨w2.heap.size, 0, none⟩) 1 1] rfl rfl (World.news_of_block HGB.out) (by intro u hu; simp at hu; subst hu; rfl) (by decide) (by simp only [maxLen]; omega) (by omega) (Nat.zero_le _) w4.heap.size rfl ?_; intro g5 cap5 w5 hown5 hg5 hl5 _; have hd5 : w5.heap[g]? = some (.cells #[.int .i64 (S : Int), v] tIx (0, 0)) := (hg5.block g (Array.getElem?_eq_some_iff.1 HI4.out.hd).1 (fun e => HI4.out.ne (by rw [HV.out]; exact e.symm))).trans HI4.out.hd; have hc5 : w5.cell? ⟨g, 1, none⟩ = some (.slice pa 0 cap) := (by rw [cell_of_row _ _ _ _ _ _ hd5, ← HV.out]; rfl); have hf5 : w5.frozen? ⟨g, 1, none⟩ = false := (by simp [World.frozen?, hd5]); have HO5 : Hid (w5.ownsRow 0 tPg 1 (.slice (some ⟨g5, 0, none⟩) 1 cap5) 1 (vs ++ [.slice (some ⟨w2.heap.size, 0, none⟩) 1 1])) := hown5; have HG5 : Hid (w4.grownBy w5 v.ownBlock) := (by rw [HV.out]; exact hg5); have HL5 : Hid _ := hl5; clear hown5 hg5 hl5 hd5))
  go_ret
  have hvs : vs = [] := List.eq_nil_of_length_eq_zero HI4.out.len
  have ho5 := HO5.out
  rw [hvs, List.nil_append] at ho5
  have hE5 : RdE w5 (some ⟨w2.heap.size, 0, none⟩) [mkE (s1, s2) n] := HE4.out.kept (Chg.of_grown (F := foot g v) HG5.out (fun b e => .inr e)) (fun b e => HI4.out.noF b e)
  have h9 := HI4.out.setRow (P' := [[mkE (s1, s2) n]]) HG5.out ho5 (fun j hj => by
    have : j = 0 := by simpa using hj
    subst this
    exact ⟨_, 1, rfl, Nat.le_refl _, fun e => (by cases e), hE5⟩)
  refine ⟨rfl, ⟨_, _, h9.1, ?_⟩, (Chg.of_below HB4.out).trans h9.2 (fun i hi => .inl hi)⟩
  rcases HL5.out with e | e
  · left; rw [HV.out, e]; rfl
  · right; exact ⟨g5, rfl, by rw [e]; exact HB4.out.size⟩
end
end Go.Proofs.Ytibolgpaolnheaa
