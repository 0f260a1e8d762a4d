import Derived.Test.YtnfikcegmicooabDoorAI1
namespace Go.Proofs.YtnfikcegmicooabDoor
set_option linter.unusedVariables false
set_option linter.unusedSimpArgs false
open Go.RowKit Go.Maps
/-- the mark of a list -/
abbrev mkI (i : Nat) : Value := .int .i64 (-1000 - (i : Int))
variable {w w' : World} {B : Nat} {vs gs : List Value} {C : Nat → List Value} {n : Nat → Nat} {v0 gv g : Value}
/-- only blocks of F, and new ones, have changed -/
structure ChI (F : Nat → Prop) (w w' : World) : Prop where
  os : w'.os = w.os
  tape : w'.tape = w.tape
  output : w'.output = w.output
  size : w.heap.size ≤ w'.heap.size
  block : ∀ k, k < w.heap.size → ¬ F k → w'.heap[k]? = w.heap[k]?
theorem ChI.refl (F : Nat → Prop) (w : World) : ChI F w w := ⟨rfl, rfl, rfl, Nat.le_refl _, fun _ _ _ => rfl⟩
theorem ChI.below {F : Nat → Prop} {w0 : World} (h : ChI F w0 w) (hb : Below w.heap.size w w') : ChI F w0 w' := ⟨hb.os.trans h.os, hb.tape.trans h.tape, hb.output.trans h.output, Nat.le_trans h.size hb.size, fun k hk hF => (hb.block k (Nat.lt_of_lt_of_le hk h.size)).trans (h.block k hk hF)⟩
theorem ChI.grown {F : Nat → Prop} {w0 : World} {row : Option Nat} (h : ChI F w0 w) (hg : w.grownBy w' row) (hr : ∀ b, row = some b → F b ∨ w0.heap.size ≤ b) : ChI F w0 w' := ⟨hg.os.trans h.os, hg.tape.trans h.tape, hg.output.trans h.output, Nat.le_trans h.size hg.size, fun k hk hF => (hg.block k (Nat.lt_of_lt_of_le hk h.size) (fun e => by
  rcases hr k e.symm with h9 | h9
  · exact hF h9
  · omega)).trans (h.block k hk hF)⟩
theorem grown_any {row : Option Nat} (h : w.grownBy w' none) : w.grownBy w' row := ⟨h.os, h.tape, h.output, h.size, fun k hk _ => h.block k hk (fun e => by cases e)⟩
/-- lists of numbers, no two of them in one block -/
structure IntsAt (w : World) (B : Nat) (vs : List Value) (C : Nat → List Value) : Prop where
  own : ∀ j v, vs[j]? = some v → w.ownsRow B tI 1 v (C j).length (C j)
  ap : vs.Pairwise apI
theorem IntsAt.sep (h : IntsAt w B vs C) {i j : Nat} {x y : Value} (hi : vs[i]? = some x) (hj : vs[j]? = some y) (hne : i ≠ j) : apI x y := by
  obtain ⟨hi', rfl⟩ := List.getElem?_eq_some_iff.1 hi
  obtain ⟨hj', rfl⟩ := List.getElem?_eq_some_iff.1 hj
  have hp := List.pairwise_iff_getElem.1 h.ap
  rcases Nat.lt_or_ge i j with h9 | h9
  · exact hp i j hi' hj' h9
  · exact (hp j i hj' hi' (by omega)).symm
theorem IntsAt.below (h : IntsAt w B vs C) (hb : Below w.heap.size w w') : IntsAt w' B vs C := ⟨fun j v hv => rowI_below (h.own j v hv) hb, h.ap⟩
theorem IntsAt.congr {D : Nat → List Value} (h : IntsAt w B vs C) (he : ∀ j, j < vs.length → C j = D j) : IntsAt w B vs D := ⟨fun j v hv => by rw [← he j (List.getElem?_eq_some_iff.1 hv).1]; exact h.own j v hv, h.ap⟩
/-- a number of a list is written over -/
theorem IntsAt.set (h : IntsAt w B vs C) {i b m c : Nat} (hi : vs[i]? = some (.slice (some ⟨b, 0, none⟩) m c)) (q : Nat) (x : Value) :
    IntsAt (w.setCell ⟨b, q, none⟩ x) B vs (fun j => if j = i then (C i).set q x else C j) := by
  have ho := h.own i _ hi
  have hm : m = (C i).length := by
    rcases ho.2 with ⟨e, -⟩ | ⟨g9, c9, cur, e, -⟩
    · cases e
    · cases e; rfl
  subst hm
  obtain ⟨h1, h2⟩ := World.ownsRow.stored ho q x
  refine ⟨fun j v hv => ?_, h.ap⟩
  by_cases e : j = i
  · subst e
    rw [hi] at hv
    cases hv
    simp only [if_true, List.length_set]
    exact h1
  · simp only [if_neg e]
    exact rowI_grown (v := .slice (some ⟨b, 0, none⟩) (C i).length c) (h.own j v hv) h2 (h.sep hi hv (fun e9 => e e9.symm))
theorem rep_of {D : List Value} {N : Nat} {x : Value} (hl : D.length = N) (h : ∀ t, t < N → D[t]? = some x) : D = List.replicate N x := by
  apply List.ext_getElem?
  intro t
  by_cases ht : t < N
  · rw [h t ht, List.getElem?_replicate, if_pos ht]
  · rw [List.getElem?_eq_none (by omega), List.getElem?_eq_none (by simp; omega)]
theorem rep_snoc (N : Nat) (x : Value) : List.replicate N x ++ [x] = List.replicate (N + 1) x := by
  rw [List.replicate_succ']
/-- amid the growing: the lists with their marks, and those that have grown -/
structure Gr (w : World) (B : Nat) (v0 gv : Value) (vs gs : List Value) (n : Nat → Nat) : Prop where
  lr : w.ownsRow B tIs 1 v0 vs.length vs
  gr : w.ownsRow B tIs 1 gv gs.length gs
  lg : apI gv v0
  ix : IntsAt w B vs (fun j => List.replicate (n j) (mkI j))
  go : ∀ (j : Nat) (x : Value), gs[j]? = some x → w.ownsRow B tI 1 x (n j + 64) (List.replicate (n j + 64) (mkI j))
  gg : ∀ (i j : Nat) (x y : Value), gs[i]? = some x → gs[j]? = some y → i ≠ j → apI x y
  gx : ∀ (i j : Nat) (x y : Value), gs[i]? = some x → vs[j]? = some y → i ≠ j → apI x y
/-- the one that grows -/
structure Gi (w : World) (B : Nat) (vs gs : List Value) (n : Nat → Nat) (k m : Nat) (g : Value) : Prop where
  own : w.ownsRow B tI 1 g (n k + m) (List.replicate (n k + m) (mkI k))
  sh : ∀ y, vs[k]? = some y → (∃ b c, g = .slice (some ⟨b, 0, none⟩) (n k + m) c ∧ y = .slice (some ⟨b, 0, none⟩) (n k) c) ∨ apI g y
  av : ∀ (j : Nat) (y : Value), vs[j]? = some y → j ≠ k → apI g y
  ag : ∀ (j : Nat) (y : Value), gs[j]? = some y → apI g y
theorem Gr.below (h : Gr w B v0 gv vs gs n) (hb : Below w.heap.size w w') : Gr w' B v0 gv vs gs n :=
  ⟨rowI_below h.lr hb, rowI_below h.gr hb, h.lg, h.ix.below hb, fun j x hx => rowI_below (h.go j x hx) hb, h.gg, h.gx⟩
theorem Gi.below {k m : Nat} (h : Gi w B vs gs n k m g) (hb : Below w.heap.size w w') : Gi w' B vs gs n k m g := ⟨rowI_below h.own hb, h.sh, h.av, h.ag⟩
theorem IntsAt.ofix (h : IntsAt w B vs (fun j => List.replicate (n j) (mkI j))) (j : Nat) (v : Value) (hv : vs[j]? = some v) : w.ownsRow B tI 1 v (n j) (List.replicate (n j) (mkI j)) := by
  have h9 := h.own j v hv
  simp only [List.length_replicate] at h9
  exact h9
theorem Gi.start {k : Nat} (h : Gr w B v0 gv vs gs n) (hk : gs.length = k) (hv : vs[k]? = some g) : Gi w B vs gs n k 0 g := by
  have ho := h.ix.ofix k g hv
  refine ⟨ho, fun y hy => ?_, fun j y hy hne => h.ix.sep hv hy (fun e => hne e.symm), fun j y hy => (h.gx j k y g hy hv (by have := (List.getElem?_eq_some_iff.1 hy).1; omega)).symm⟩
  rw [hv] at hy
  cases hy
  rcases ho.2 with ⟨rfl, -⟩ | ⟨b, c, cur, rfl, -⟩
  · exact .inr (fun b e => by cases e)
  · exact .inl ⟨b, c, rfl, rfl⟩
/-- one number more -/
theorem Gr.app1 {k m : Nat} (h : Gr w B v0 gv vs gs n) (hi : Gi w B vs gs n k m g) {v' : Value} (hB : B ≤ w.heap.size) (hown : w'.ownsRow B tI 1 v' (List.replicate (n k + m) (mkI k) ++ [mkI k]).length (List.replicate (n k + m) (mkI k) ++ [mkI k]))
    (hc : (∃ b cap, g = .slice (some ⟨b, 0, none⟩) (List.replicate (n k + m) (mkI k)).length cap ∧ v' = .slice (some ⟨b, 0, none⟩) (List.replicate (n k + m) (mkI k) ++ [mkI k]).length cap ∧ w.grownBy w' (some b)) ∨ (w.grownBy w' none ∧ ∃ cap, v' = .slice (some ⟨w.heap.size, 0, none⟩) (List.replicate (n k + m) (mkI k) ++ [mkI k]).length cap)) :
    Gr w' B v0 gv vs gs n ∧ Gi w' B vs gs n k (m + 1) v' ∧ w.grownBy w' g.ownBlock ∧ (v'.ownBlock = g.ownBlock ∨ v'.ownBlock = some w.heap.size) := by
  rw [rep_snoc, List.length_replicate] at hown hc
  rw [List.length_replicate] at hc
  rcases hc with ⟨b, cap, rfl, rfl, hg⟩ | ⟨hg, cap, rfl⟩
  · have keep : ∀ {t : TypeId} {sz N : Nat} {x : Value} {cs : List Value}, w.ownsRow B t sz x N cs → apI (.slice (some ⟨b, 0, none⟩) (n k + m) cap) x → w'.ownsRow B t sz x N cs := fun h1 h2 => rowI_grown (v := .slice (some ⟨b, 0, none⟩) (n k + m) cap) h1 hg h2
    have hl := rowI_ty hi.own h.lr (by decide)
    have hgr := rowI_ty hi.own h.gr (by decide)
    refine ⟨⟨keep h.lr hl, keep h.gr hgr, h.lg, ⟨fun j v hv => ?_, h.ix.ap⟩, fun j x hx => keep (h.go j x hx) (hi.ag j x hx), h.gg, h.gx⟩, ⟨hown, fun y hy => ?_, fun j y hy hne => ?_, fun j y hy => ?_⟩, ?_⟩
    · by_cases e : j = k
      · subst e
        rcases hi.sh v hv with ⟨b', c', e1, e2⟩ | h9
        · cases e1
          subst e2
          have h8 := rowI_pre (n := n j) hown (by omega)
          rw [List.take_replicate, Nat.min_eq_left (by omega)] at h8
          simp only [List.length_replicate]
          exact h8
        · exact keep (h.ix.own j v hv) h9
      · exact keep (h.ix.own j v hv) (hi.av j v hv e)
    · rcases hi.sh y hy with ⟨b', c', e1, e2⟩ | h9
      · cases e1
        exact .inl ⟨_, _, rfl, e2⟩
      · exact .inr (fun b' e1 e2 => h9 b' e1 e2)
    · exact fun b' e1 e2 => hi.av j y hy hne b' e1 e2
    · exact fun b' e1 e2 => hi.ag j y hy b' e1 e2
    · exact ⟨hg, .inl rfl⟩
  · have hb : Below w.heap.size w w' := ⟨hg.os, hg.tape, hg.output, hg.size, fun k9 h9 => hg.block k9 h9 (fun e9 => by cases e9)⟩
    have far : ∀ {t : TypeId} {sz N : Nat} {x : Value} {cs : List Value}, w.ownsRow B t sz x N cs → apI (.slice (some ⟨w.heap.size, 0, none⟩) (n k + m + 1) cap) x := fun h1 b e1 e2 => by
      cases e1
      exact absurd (World.ownsRow.lt h1 _ e2).2 (Nat.lt_irrefl _)
    exact ⟨h.below hb, ⟨hown, fun y hy => .inr (far (h.ix.own k y hy)), fun j y hy _ => far (h.ix.own j y hy), fun j y hy => far (h.go j y hy)⟩, grown_any hg, .inr rfl⟩
/-- the one that has grown goes to the others -/
theorem Gr.push {k : Nat} (h : Gr w B v0 gv vs gs n) (hk : gs.length = k) (hi : Gi w B vs gs n k 64 g) {v' : Value} (hB : B ≤ w.heap.size) (hown : w'.ownsRow B tIs 1 v' (gs ++ [g]).length (gs ++ [g]))
    (hc : (∃ b cap, gv = .slice (some ⟨b, 0, none⟩) gs.length cap ∧ v' = .slice (some ⟨b, 0, none⟩) (gs ++ [g]).length cap ∧ w.grownBy w' (some b)) ∨ (w.grownBy w' none ∧ ∃ cap, v' = .slice (some ⟨w.heap.size, 0, none⟩) (gs ++ [g]).length cap)) :
    Gr w' B v0 v' vs (gs ++ [g]) n ∧ w.grownBy w' gv.ownBlock ∧ (v'.ownBlock = gv.ownBlock ∨ v'.ownBlock = some w.heap.size) := by
  have get : ∀ (j : Nat) (x : Value), (gs ++ [g])[j]? = some x → (gs[j]? = some x ∧ j < k) ∨ (j = k ∧ x = g) := fun j x hx => by
    rcases Nat.lt_or_ge j gs.length with h9 | h9
    · rw [List.getElem?_append_left h9] at hx; exact .inl ⟨hx, by omega⟩
    · rw [List.getElem?_append_right h9] at hx
      have h8 := (List.getElem?_eq_some_iff.1 hx).1
      simp at h8
      have e : j = gs.length := by omega
      subst e
      simp at hx
      exact .inr ⟨hk, hx.symm⟩
  have pure1 : ∀ (i j : Nat) (x y : Value), (gs ++ [g])[i]? = some x → (gs ++ [g])[j]? = some y → i ≠ j → apI x y := fun i j x y hx hy hne => by
    rcases get i x hx with ⟨h1, h2⟩ | ⟨rfl, rfl⟩ <;> rcases get j y hy with ⟨h3, h4⟩ | ⟨rfl, rfl⟩
    · exact h.gg i j x y h1 h3 hne
    · exact (hi.ag i x h1).symm
    · exact hi.ag j y h3
    · exact absurd rfl hne
  have pure2 : ∀ (i j : Nat) (x y : Value), (gs ++ [g])[i]? = some x → vs[j]? = some y → i ≠ j → apI x y := fun i j x y hx hy hne => by
    rcases get i x hx with ⟨h1, h2⟩ | ⟨rfl, rfl⟩
    · exact h.gx i j x y h1 hy hne
    · exact hi.av j y hy (fun e => hne e.symm)
  have mkGr : apI v' v0 → (∀ {sz N : Nat} {x : Value} {cs : List Value}, w.ownsRow B tI sz x N cs → w'.ownsRow B tI sz x N cs) → w'.ownsRow B tIs 1 v0 vs.length vs → Gr w' B v0 v' vs (gs ++ [g]) n := fun h1 h2 h3 =>
    ⟨h3, hown, h1, ⟨fun j v hv => h2 (h.ix.own j v hv), h.ix.ap⟩, fun j x hx => by
      rcases get j x hx with ⟨h8, h9⟩ | ⟨rfl, rfl⟩
      · exact h2 (h.go j x h8)
      · exact h2 hi.own, pure1, pure2⟩
  rcases hc with ⟨b, cap, rfl, rfl, hg⟩ | ⟨hg, cap, rfl⟩
  · refine ⟨mkGr (fun b' e1 e2 => h.lg b' e1 e2) (fun h1 => rowI_grown (v := .slice (some ⟨b, 0, none⟩) gs.length cap) h1 hg (rowI_ty h.gr h1 (by decide))) (rowI_grown (v := .slice (some ⟨b, 0, none⟩) gs.length cap) h.lr hg h.lg), ?_⟩
    exact ⟨hg, .inl rfl⟩
  · have hb : Below w.heap.size w w' := ⟨hg.os, hg.tape, hg.output, hg.size, fun k9 h9 => hg.block k9 h9 (fun e9 => by cases e9)⟩
    refine ⟨mkGr (fun b e1 e2 => ?_) (fun h1 => rowI_below h1 hb) (rowI_below h.lr hb), grown_any hg, .inr rfl⟩
    cases e1
    exact absurd (World.ownsRow.lt h.lr _ e2).2 (Nat.lt_irrefl _)
end Go.Proofs.YtnfikcegmicooabDoor
