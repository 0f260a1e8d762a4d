import Derived.Test.YtnfikcegmicooabDoorLwG
import Derived.Test.YtnfikcegmicooabDoorAI2
namespace Go.Proofs.YtnfikcegmicooabDoor
set_option linter.unusedVariables false
set_option linter.unusedSimpArgs false
open Go.RowKit Go.Maps Go.Shelf
/-- two wheels, and the document's beside them, perhaps a call behind -/
structure Pq (B : Nat) (w : World) (g1 g2 : Nat) (p m q N S : Nat → Nat) (L : Nat → List Tm) (V : Nat → Nat → Nat → Value) (v : Nat → Value) (N' : Nat → Nat) (L' : Nat → List Tm) : Prop where
  r1 : w.heap[g1]? = some (.cells #[ptr (p 0), ptr (p 1)] tWp (0, 0))
  r2 : w.heap[g2]? = some (.cells #[ptr (q 0), ptr (q 1)] tRp (0, 0))
  wt : ∀ i, i < 2 → Wt w (p i) (m i) (N i) (S i) (L i) (V i)
  rf : ∀ i, i < 2 → RfW w (q i) (N' i) (L' i) (v i)
  ap : ∀ i j b, i < 2 → j < 2 → i ≠ j → ftP (p i) (m i) (V i) (q i) (v i) b → ftP (p j) (m j) (V j) (q j) (v j) b → False
  tab : TabZ w
  base : ∀ i b, i < 2 → ftP (p i) (m i) (V i) (q i) (v i) b → B ≤ b
  pos : 0 < B
  le : B ≤ w.heap.size
section
variable {B : Nat} {w w' : World} {g1 g2 : Nat} {p m q N S : Nat → Nat} {L : Nat → List Tm} {V : Nat → Nat → Nat → Value} {v : Nat → Value} {N' : Nat → Nat} {L' : Nat → List Tm}
theorem Pr.toq (h : Pr B w g1 g2 p m q N S L V v) : Pq B w g1 g2 p m q N S L V v N L := ⟨h.r1, h.r2, h.wt, h.rf, h.ap, h.tab, h.base, h.pos, h.le⟩
theorem Pq.pr (h : Pq B w g1 g2 p m q N S L V v N' L') (he : ∀ i, i < 2 → N' i = N i ∧ L' i = L i) : Pr B w g1 g2 p m q N S L V v :=
  ⟨h.r1, h.r2, h.wt, fun i hi => by rw [← (he i hi).1, ← (he i hi).2]; exact h.rf i hi, h.ap, h.tab, h.base, h.pos, h.le⟩
theorem Pq.ftlt (h : Pq B w g1 g2 p m q N S L V v N' L') {i b : Nat} (hi : i < 2) (hb : ftP (p i) (m i) (V i) (q i) (v i) b) : b < w.heap.size := by
  rcases hb with h1 | h1
  · exact (h.wt i hi).lt h1
  · exact (h.rf i hi).lt h1
theorem Pq.noRow (h : Pq B w g1 g2 p m q N S L V v N' L') {i b : Nat} (hi : i < 2) {C : Array Value} {t : TypeId} (hb : w.heap[b]? = some (.cells C t (0, 0))) (ht : t ≠ tWh ∧ t ≠ tTm ∧ t ≠ tRw ∧ t ≠ tRt) : ¬ ftP (p i) (m i) (V i) (q i) (v i) b := by
  rintro (h1 | h1)
  · rcases (h.wt i hi).types h1 with ⟨C', e⟩ | ⟨C', e⟩ | ⟨es, cl, e⟩ <;> rw [hb] at e <;> simp only [Option.some.injEq, Obj.cells.injEq, reduceCtorEq] at e
    · exact ht.1 e.2.1
    · exact ht.2.1 e.2.1
  · rcases (h.rf i hi).types h1 with ⟨C', e⟩ | ⟨C', e⟩ <;> rw [hb] at e <;> simp only [Option.some.injEq, Obj.cells.injEq] at e
    · exact ht.2.2.1 e.2.1
    · exact ht.2.2.2 e.2.1
theorem Pq.below (h : Pq B w g1 g2 p m q N S L V v N' L') (hb : Below w.heap.size w w') : Pq B w' g1 g2 p m q N S L V v N' L' :=
  ⟨(hb.block _ (Array.getElem?_eq_some_iff.1 h.r1).1).trans h.r1, (hb.block _ (Array.getElem?_eq_some_iff.1 h.r2).1).trans h.r2, fun i hi => (h.wt i hi).below hb, fun i hi => (h.rf i hi).below hb, h.ap, h.tab.below hb, h.base, h.pos, Nat.le_trans h.le hb.size⟩
theorem Pq.step (h : Pq B w g1 g2 p m q N S L V v N' L') {i : Nat} (hi : i < 2) {N1 S1 N2 : Nat} {L1 L2 : List Tm} {V1 : Nat → Nat → Value} {v1 : Value} (hw : Wt w' (p i) (m i) N1 S1 L1 V1) (hr : RfW w' (q i) N2 L2 v1) (hs : PSt w w' (p i) (m i) (q i) (V i) V1 (v i) v1) :
    Pq B w' g1 g2 p m q (upd N i N1) (upd S i S1) (upd L i L1) (upd V i V1) (upd v i v1) (upd N' i N2) (upd L' i L2) ∧ Below B w w' := by
  have hb : Below B w w' := hs.chg.below (fun b hb => h.base i b hi hb) h.le
  have hnew : ∀ b, ftP (p i) (m i) V1 (q i) v1 b → B ≤ b := fun b hb' => by
    rcases hs.new b hb' with h1 | h1
    · exact h.base i b hi h1
    · exact Nat.le_trans h.le h1
  have far : ∀ j, j < 2 → j ≠ i → ∀ b, ftP (p j) (m j) (V j) (q j) (v j) b → w'.heap[b]? = w.heap[b]? := fun j hj hne b hb' => hs.chg.block b (h.ftlt hj hb') (fun h9 => h.ap j i b hj hi hne hb' h9)
  have hap : ∀ j b, j < 2 → j ≠ i → ftP (p j) (m j) (V j) (q j) (v j) b → ftP (p i) (m i) V1 (q i) v1 b → False := fun j b hj hne h1 h2 => by
    rcases hs.new b h2 with h3 | h3
    · exact h.ap j i b hj hi hne h1 h3
    · have := h.ftlt hj h1; omega
  refine ⟨⟨?_, ?_, fun j hj => ?_, fun j hj => ?_, fun j k b hj hk hne h1 h2 => ?_, ?_, fun j b hj h1 => ?_, h.pos, Nat.le_trans h.le hb.size⟩, hb⟩
  · exact (hs.chg.block _ (Array.getElem?_eq_some_iff.1 h.r1).1 (h.noRow hi h.r1 (by decide))).trans h.r1
  · exact (hs.chg.block _ (Array.getElem?_eq_some_iff.1 h.r2).1 (h.noRow hi h.r2 (by decide))).trans h.r2
  · by_cases e : j = i
    · subst e; rw [upd_same, upd_same, upd_same, upd_same]; exact hw
    · rw [upd_other _ e, upd_other _ e, upd_other _ e, upd_other _ e]
      obtain ⟨F, X, ⟨fl, h1, h2⟩, h3⟩ := h.wt j hj
      exact ⟨F, X, ⟨fl, h1.kept (fun b hb' => far j hj e b (.inl hb')), h2⟩, h3⟩
  · by_cases e : j = i
    · subst e; rw [upd_same, upd_same, upd_same]; exact hr
    · rw [upd_other _ e, upd_other _ e, upd_other _ e]
      exact (h.rf j hj).kept (fun b hb' => far j hj e b (.inr hb'))
  · by_cases e1 : j = i
    · subst e1
      have e2 : k ≠ j := fun e => hne e.symm
      rw [upd_same, upd_same] at h1
      rw [upd_other _ e2, upd_other _ e2] at h2
      exact hap k b hk e2 h2 h1
    · rw [upd_other _ e1, upd_other _ e1] at h1
      by_cases e2 : k = i
      · subst e2
        rw [upd_same, upd_same] at h2
        exact hap j b hj e1 h1 h2
      · rw [upd_other _ e2, upd_other _ e2] at h2
        exact h.ap j k b hj hk hne h1 h2
  · intro j hj
    have h1 := h.tab j hj
    exact (World.cell?_of_block (hs.chg.block 0 (World.block_lt_of_cell? w _ h1) (fun h9 => by have := h.base i 0 hi h9; have := h.pos; omega))).trans h1
  · by_cases e : j = i
    · subst e; rw [upd_same, upd_same] at h1; exact hnew b h1
    · rw [upd_other _ e, upd_other _ e] at h1; exact h.base j b hj h1
/-- rows of numbers, or of lists, have changed -/
theorem Pq.rows {F : Nat → Prop} (h : Pq B w g1 g2 p m q N S L V v N' L') (hc : Chg F w w') (hF : ∀ b, b < w.heap.size → F b → B ≤ b ∧ ∃ (C : Array Value) (t : TypeId), w.heap[b]? = some (.cells C t (0, 0)) ∧ (t = tI ∨ t = tIs)) : Pq B w' g1 g2 p m q N S L V v N' L' := by
  have hno : ∀ i b, i < 2 → ftP (p i) (m i) (V i) (q i) (v i) b → w'.heap[b]? = w.heap[b]? := fun i b hi hb => hc.block b (h.ftlt hi hb) (fun hf => by
    obtain ⟨-, C, t, e, ht⟩ := hF b (h.ftlt hi hb) hf
    refine h.noRow hi e ?_ hb
    rcases ht with rfl | rfl <;> decide)
  have hr : ∀ (g : Nat) (C : Array Value) (t : TypeId), w.heap[g]? = some (.cells C t (0, 0)) → t ≠ tI → t ≠ tIs → w'.heap[g]? = some (.cells C t (0, 0)) := fun g C t e h1 h2 => (hc.block g (Array.getElem?_eq_some_iff.1 e).1 (fun hf => by
    obtain ⟨-, C', t', e', ht⟩ := hF g (Array.getElem?_eq_some_iff.1 e).1 hf
    rw [e] at e'
    simp only [Option.some.injEq, Obj.cells.injEq] at e'
    rcases ht with rfl | rfl
    · exact h1 e'.2.1
    · exact h2 e'.2.1)).trans e
  refine ⟨hr _ _ _ h.r1 (by decide) (by decide), hr _ _ _ h.r2 (by decide) (by decide), fun i hi => ?_, fun i hi => (h.rf i hi).kept (fun b hb => hno i b hi (.inr hb)), h.ap, fun j hj => ?_, h.base, h.pos, Nat.le_trans h.le hc.size⟩
  · obtain ⟨F, X, ⟨fl, h1, h2⟩, h3⟩ := h.wt i hi
    exact ⟨F, X, ⟨fl, h1.kept (fun b hb' => hno i b hi (.inl hb')), h2⟩, h3⟩
  · have h1 := h.tab j hj
    exact (World.cell?_of_block (hc.block 0 (World.block_lt_of_cell? w _ h1) (fun hf => by have := (hF 0 (World.block_lt_of_cell? w _ h1) hf).1; have := h.pos; omega))).trans h1
theorem Pq.c1 (h : Pq B w g1 g2 p m q N S L V v N' L') {i : Nat} (hi : i < 2) : w.cell? ⟨g1, i, none⟩ = some (ptr (p i)) := by
  rw [cell_of_row _ _ _ _ _ _ h.r1]
  have : i = 0 ∨ i = 1 := by omega
  rcases this with rfl | rfl <;> rfl
theorem Pq.c2 (h : Pq B w g1 g2 p m q N S L V v N' L') {i : Nat} (hi : i < 2) : w.cell? ⟨g2, i, none⟩ = some (ptr (q i)) := by
  rw [cell_of_row _ _ _ _ _ _ h.r2]
  have : i = 0 ∨ i = 1 := by omega
  rcases this with rfl | rfl <;> rfl
end
/-- the lists that were told: told has so many, want so many -/
structure Tl (B : Nat) (w : World) (tv wv : Value) (vs us : List Value) (Ds Es : List (List Int)) : Prop where
  rt : w.ownsRow B tIs 1 tv vs.length vs
  ru : w.ownsRow B tIs 1 wv us.length us
  dif : apI tv wv
  lv : vs.length = Ds.length
  lu : us.length = Es.length
  ov : ∀ (j : Nat) (hj : j < vs.length) (hj' : j < Ds.length), OwnZ w B vs[j] Ds[j]
  ou : ∀ (j : Nat) (hj : j < us.length) (hj' : j < Es.length), OwnZ w B us[j] Es[j]
  ap : vs.Pairwise apI
  bd : ∀ D, D ∈ Ds → D.length ≤ 4398046511103
section
variable {B : Nat} {w w' : World} {tv wv : Value} {vs us : List Value} {Ds Es : List (List Int)}
theorem Tl.kept (h : Tl B w tv wv vs us Ds Es) (hk : ∀ (b : Nat) (C : Array Value) (t : TypeId), w.heap[b]? = some (.cells C t (0, 0)) → (t = tI ∨ t = tIs) → w'.heap[b]? = w.heap[b]?) : Tl B w' tv wv vs us Ds Es := by
  have hI : ∀ {x : Value} {D : List Int}, OwnZ w B x D → OwnZ w' B x D := fun hx => rowI_kept hx (fun b hb => by obtain ⟨cur, e⟩ := rowI_blk hx b hb; exact hk b cur _ e (.inl rfl))
  have hL : ∀ {x : Value} {n : Nat} {cs : List Value}, w.ownsRow B tIs 1 x n cs → w'.ownsRow B tIs 1 x n cs := fun hx => rowI_kept hx (fun b hb => by obtain ⟨cur, e⟩ := rowI_blk hx b hb; exact hk b cur _ e (.inr rfl))
  exact ⟨hL h.rt, hL h.ru, h.dif, h.lv, h.lu, fun j hj hj' => hI (h.ov j hj hj'), fun j hj hj' => hI (h.ou j hj hj'), h.ap, h.bd⟩
theorem Tl.below (h : Tl B w tv wv vs us Ds Es) (hb : Below w.heap.size w w') : Tl B w' tv wv vs us Ds Es := h.kept (fun b _ _ e _ => hb.block b (Array.getElem?_eq_some_iff.1 e).1)
/-- a call on wheel and document's leaves the lists -/
theorem Tl.st {g1 g2 : Nat} {p m q N S : Nat → Nat} {L : Nat → List Tm} {V : Nat → Nat → Nat → Value} {v : Nat → Value} {N' : Nat → Nat} {L' : Nat → List Tm} (h : Tl B w tv wv vs us Ds Es) (hp : Pq B w g1 g2 p m q N S L V v N' L') {i : Nat} (hi : i < 2) (hc : Chg (ftP (p i) (m i) (V i) (q i) (v i)) w w') : Tl B w' tv wv vs us Ds Es :=
  h.kept (fun b C t e ht => hc.block b (Array.getElem?_eq_some_iff.1 e).1 (hp.noRow hi e (by rcases ht with rfl | rfl <;> decide)))
/-- a list more in told -/
theorem Tl.told {z tv' : Value} {D : List Int} {H : Nat} (h : Tl B w tv wv vs us Ds Es) (hz : OwnZ w B z D) (hD : D.length ≤ 4398046511103) (hn : ∀ x, x ∈ vs → apI x z) (hg : w.grownBy w' tv.ownBlock) (hr : w'.ownsRow B tIs 1 tv' (vs ++ [z]).length (vs ++ [z])) (hnew : ∀ b, tv'.ownBlock = some b → tv.ownBlock = some b ∨ b = H) (hH : w.heap.size ≤ H) : Tl B w' tv' wv (vs ++ [z]) us (Ds ++ [D]) Es := by
  have hI : ∀ {x : Value} {D : List Int}, OwnZ w B x D → OwnZ w' B x D := fun hx => rowI_grown hx hg (rowI_ty h.rt hx (by decide))
  refine ⟨hr, rowI_grown h.ru hg h.dif, fun b h1 h2 => ?_, by simp [h.lv], h.lu, fun j hj hj' => ?_, fun j hj hj' => hI (h.ou j hj hj'), ?_, fun D' h9 => ?_⟩
  · rcases hnew b h1 with h3 | h3
    · exact h.dif b h3 h2
    · have := (World.ownsRow.lt h.ru b h2).2; omega
  · by_cases e : j < vs.length
    · rw [List.getElem_append_left e, List.getElem_append_left (by rw [← h.lv]; exact e)]
      exact hI (h.ov j e (by rw [← h.lv]; exact e))
    · have hl := h.lv
      have hj1 : j = vs.length := by simp at hj; omega
      subst hj1
      rw [List.getElem_append_right (Nat.le_refl _), List.getElem_append_right (by omega)]
      simp only [Nat.sub_self, List.getElem_singleton]
      exact hI hz
  · refine List.pairwise_append.2 ⟨h.ap, by simp, fun x hx y hy => ?_⟩
    simp at hy
    subst hy
    exact hn x hx
  · rcases List.mem_append.1 h9 with h8 | h8
    · exact h.bd D' h8
    · simp at h8; rw [h8]; exact hD
/-- a list more in want -/
theorem Tl.want {z wv' : Value} {D : List Int} {H : Nat} (h : Tl B w tv wv vs us Ds Es) (hz : OwnZ w B z D) (hg : w.grownBy w' wv.ownBlock) (hr : w'.ownsRow B tIs 1 wv' (us ++ [z]).length (us ++ [z])) (hnew : ∀ b, wv'.ownBlock = some b → wv.ownBlock = some b ∨ b = H) (hH : w.heap.size ≤ H) : Tl B w' tv wv' vs (us ++ [z]) Ds (Es ++ [D]) := by
  have hI : ∀ {x : Value} {D : List Int}, OwnZ w B x D → OwnZ w' B x D := fun hx => rowI_grown hx hg (rowI_ty h.ru hx (by decide))
  refine ⟨rowI_grown h.rt hg h.dif.symm, hr, fun b h1 h2 => ?_, h.lv, by simp [h.lu], fun j hj hj' => hI (h.ov j hj hj'), fun j hj hj' => ?_, h.ap, h.bd⟩
  · rcases hnew b h2 with h3 | h3
    · exact h.dif b h1 h3
    · have := (World.ownsRow.lt h.rt b h1).2; omega
  · by_cases e : j < us.length
    · rw [List.getElem_append_left e, List.getElem_append_left (by rw [← h.lu]; exact e)]
      exact hI (h.ou j e (by rw [← h.lu]; exact e))
    · have hl := h.lu
      have hj1 : j = us.length := by simp at hj; omega
      subst hj1
      rw [List.getElem_append_right (Nat.le_refl _), List.getElem_append_right (by omega)]
      simp only [Nat.sub_self, List.getElem_singleton]
      exact hI hz
theorem Tl.ints (h : Tl B w tv wv vs us Ds Es) : IntsAt w B vs (fun j => (Ds.getD j []).map (fun z => Value.int .i64 z)) := by
  refine ⟨fun j x hx => ?_, h.ap⟩
  obtain ⟨hj, rfl⟩ := List.getElem?_eq_some_iff.1 hx
  have hj' : j < Ds.length := by rw [← h.lv]; exact hj
  have h1 := h.ov j hj hj'
  have e : Ds.getD j [] = Ds[j] := by simp [List.getD, hj']
  rw [e, List.length_map]
  exact h1
/-- append of one list, at a step of a region -/
theorem wp_list {o : Oper} {a : Act} {K : Act → World → Prop} {Q : Exit → Act → World → Prop} (s x : Operand) (ho : o.op = .call { callee := .builtin .append, args := #[s, x], argTypes := #[tIss, tIss] }) (v : Value) (xs : List Value) (y : Value) (g : Nat)
    (hs : a.eval s = v) (hown : w.ownsRow B tIs 1 v xs.length xs) (hx : a.eval x = .slice (some ⟨g, 0, none⟩) 1 1) (hg : w.heap[g]? = some (.cells #[y] tIs (0, 0))) (hy : y.oneCell' = true) (hb : xs.length + 1 ≤ 4398046511104) (hB : B ≤ w.heap.size)
    (h : ∀ v' w', w'.ownsRow B tIs 1 v' (xs ++ [y]).length (xs ++ [y]) → w.grownBy w' v.ownBlock → (∀ b, v'.ownBlock = some b → v.ownBlock = some b ∨ b = w.heap.size) → K (a.put o.dst v') w') : Oper.wp Tryd.prog o a w K Q := by
  obtain ⟨i0, hi, hz0, hz1, hz2⟩ := info_parts info_tIs
  refine wp_append_lies w s x tIss ho B tIs i0 _ 1 24 Tryd.underlying32 hi hz0 hz1 hz2 rfl (by decide) v xs.length xs hs hown ⟨g, 0, none⟩ 1 1 [y] hx rfl (World.news_of_block hg) (by intro u hu; simp at hu; subst hu; exact hy) (by decide) (by simp only [maxLen]; omega) (by omega) hB w.heap.size rfl ?_
  intro g5 cap5 w5 hown5 hg5 hat5 _
  refine h _ w5 ?_ hg5 (fun b e => ?_)
  · rw [List.length_append]
    exact hown5
  · cases e
    exact hat5
end
end Go.Proofs.YtnfikcegmicooabDoor
