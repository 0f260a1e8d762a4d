import Derived.Test.YtgdkiejlggiakaaRImg
namespace Go.Proofs.Ytgdkiejlggiakaa
set_option linter.unusedVariables false
set_option linter.unusedSimpArgs false
open Go.RowKit Go.Maps
theorem getD_set_same (S : List Sec) (i : Nat) (s : Sec) (h : i < S.length) : (S.set i s).getD i Sec.zero = s := by simp [h]
theorem getD_set_ne (S : List Sec) {i j : Nat} (s : Sec) (h : j ≠ i) : (S.set i s).getD j Sec.zero = S.getD j Sec.zero := by
  have h' : ¬ i = j := fun e => h e.symm
  simp [List.getElem?_set, h']
/-- a sector is laid anew -/
theorem RDk.put {w w' : World} {rp gs N : Nat} {d : Dst} {VT VV : Nat → Value} {vs : Nat → List Value} {Fp Fp' : Nat → Prop} (h : RDk w rp gs N d VT VV vs Fp) (i : Nat) (hi : i < N) (s' : Sec) (c' : List (List UInt8)) (v' u' : Value) (l' : List Value) (hfit : s'.fit)
    (hc : Chg (fun b => b = gs ∨ (VV i).ownBlock = some b) w w')
    (hgs : ∀ cur, w.heap[gs]? = some (.cells cur 84 (0, 0)) → ∃ cur', w'.heap[gs]? = some (.cells cur' 84 (0, 0)) ∧ (∀ j, j / 3 ≠ i → cur'[j]? = cur[j]?) ∧ cur'[i * 3]? = some v' ∧ cur'[i * 3 + 1]? = some (.bool s'.torn) ∧ cur'[i * 3 + 2]? = some u')
    (hFp : ∀ b, Fp b → Fp' b) (hFl : ∀ b, Fp' b → b < w'.heap.size) (ht : TextAt w' Fp' v' s') (ho : OwnV w' u' l') (hv : VersAt w' Fp' l' c') (hap : u'.ownBlock = (VV i).ownBlock ∨ ∀ b, u'.ownBlock = some b → w.heap.size ≤ b) (hfu : ∀ b, u'.ownBlock = some b → Fp' b) :
    RDk w' rp gs N ⟨d.S.set i s', upd d.C i c', d.off, d.fuse⟩ (upd VT i v') (upd VV i u') (upd vs i l') Fp' := by
  obtain ⟨cur, h1, h2⟩ := h.hs
  obtain ⟨cur', k1, k2, k3, k4, k5⟩ := hgs cur h1
  have hrow : ∀ b, (VV i).ownBlock = some b → ∃ c, w.heap[b]? = some (.cells c 28 (0, 0)) := fun b hb => (h.own i hi).at_ hb
  have h5 : ∀ b cs fr, w.heap[b]? = some (.cells cs 5 fr) → ¬ (b = gs ∨ (VV i).ownBlock = some b) := by
    rintro b cs fr hb (rfl | e)
    · rw [h1] at hb; simp only [Option.some.injEq, Obj.cells.injEq] at hb; exact absurd hb.2.1 (by decide)
    · obtain ⟨c, h3⟩ := hrow b e
      rw [hb] at h3; simp only [Option.some.injEq, Obj.cells.injEq] at h3; exact absurd h3.2.1 (by decide)
  have hl : d.S.length = N := h.len
  refine ⟨h.one, h.most, by simp [hl], fun s hs => ?_, ?_, ⟨cur', k1, fun j hj => ?_⟩, fun j hj => ?_, fun j hj => ?_, fun j hj => ?_, fun j k hj hk hne b hb => ?_, hFp _ h.frp, hFp _ h.fgs, fun j hj b hb => ?_, hFl, h.pow, h.fu⟩
  · rcases List.mem_or_eq_of_mem_set hs with h3 | rfl
    · exact h.fit s h3
    · exact hfit
  · refine (hc.block rp (Array.getElem?_eq_some_iff.1 h.hp).1 ?_).trans h.hp
    rintro (e | e)
    · have := h.hp; rw [e, h1] at this; simp only [Option.some.injEq, Obj.cells.injEq] at this; exact absurd this.2.1 (by decide)
    · obtain ⟨c, h3⟩ := hrow rp e
      rw [h.hp] at h3; simp only [Option.some.injEq, Obj.cells.injEq] at h3; exact absurd h3.2.1 (by decide)
  · by_cases e : j = i
    · subst e
      rw [upd_same, upd_same, getD_set_same _ _ _ (by omega)]
      exact ⟨k3, k4, k5⟩
    · rw [upd_other _ e, upd_other _ e, getD_set_ne _ _ e, k2 (j * 3) (by omega), k2 (j * 3 + 1) (by omega), k2 (j * 3 + 2) (by omega)]
      exact h2 j hj
  · by_cases e : j = i
    · subst e
      rw [upd_same, getD_set_same _ _ _ (by omega)]
      exact ht
    · rw [upd_other _ e, getD_set_ne _ _ e]
      rcases h.txt j hj with h3 | ⟨h3, h4⟩
      · exact .inl h3
      · exact .inr ⟨h3, h4.kept hc (fun b cs fr _ hb => h5 b cs fr hb) hFp⟩
  · by_cases e : j = i
    · subst e
      rw [upd_same, upd_same]
      exact ho
    · rw [upd_other _ e, upd_other _ e]
      refine (h.own j hj).chg hc (fun b hb hf => ?_)
      rcases hf with rfl | hf
      · obtain ⟨c, h3⟩ := (h.own j hj).at_ hb
        rw [h1] at h3; simp only [Option.some.injEq, Obj.cells.injEq] at h3; exact absurd h3.2.1 (by decide)
      · exact h.apart j i hj hi e b hb hf
  · show VersAt w' Fp' (upd vs i l' j) (upd d.C i c' j)
    by_cases e : j = i
    · subst e
      rw [upd_same, upd_same]
      exact hv
    · rw [upd_other _ e, upd_other _ e]
      obtain ⟨h3, h4⟩ := h.vers j hj
      refine ⟨h3, fun k hk => ?_⟩
      obtain ⟨u, h6, h7, h8⟩ := h4 k hk
      exact ⟨u, h6, h7, h8.kept hc (fun b cs fr _ hb => h5 b cs fr hb) hFp⟩
  · have hnew : ∀ t, t < N → t ≠ i → ∀ b, u'.ownBlock = some b → (VV t).ownBlock ≠ some b := fun t ht' hti b hb e => by
      rcases hap with h3 | h3
      · exact h.apart t i ht' hi hti b e (h3 ▸ hb)
      · have := h3 b hb
        have := (World.ownsRow.lt (h.own t ht') b e).2
        omega
    by_cases e : j = i
    · subst e
      rw [upd_same] at hb
      rw [upd_other _ (fun e => hne e.symm)]
      exact hnew k hk (fun e => hne e.symm) b hb
    · rw [upd_other _ e] at hb
      by_cases e2 : k = i
      · subst e2
        rw [upd_same]
        exact fun e3 => hnew j hj e b e3 hb
      · rw [upd_other _ e2]
        exact h.apart j k hj hk hne b hb
  · by_cases e : j = i
    · subst e
      rw [upd_same] at hb
      exact hfu b hb
    · rw [upd_other _ e] at hb
      exact hFp b (h.fvv j hj b hb)
/-- one cell of the sectors' row -/
theorem set_sec {w : World} {gs : Nat} {cur : Array Value} {T : TypeId} (h : w.heap[gs]? = some (.cells cur T (0, 0))) (i j : Nat) (hj : j < 3) (v : Value) : (w.setCell ⟨gs, i * 3 + j, none⟩ v).heap[gs]? = some (.cells (cur.setIfInBounds (i * 3 + j) v) T (0, 0)) ∧ ∀ k, k ≠ i * 3 + j → (cur.setIfInBounds (i * 3 + j) v)[k]? = cur[k]? :=
  ⟨heap_setCell_same w gs _ _ _ _ h, fun k hk => by rw [Array.getElem?_setIfInBounds_ne (fun e => hk e.symm)]⟩
theorem upd_id {α : Type} (V : Nat → α) (i : Nat) : upd V i (V i) = V := by
  funext j
  by_cases e : j = i
  · subst e; exact upd_same _ _ _
  · exact upd_other _ e _
theorem set_getD (S : List Sec) (i : Nat) : S.set i (S.getD i Sec.zero) = S := by
  apply List.ext_getElem
  · simp
  · intro k h1 h2
    by_cases e : k = i
    · subst e; simp at h1; simp [h1]
    · have e2 : ¬ i = k := fun e' => e e'.symm
      simp [List.getElem_set, e2]
/-- whether a sector whose text is zeros can be read -/
theorem RDk.setBad {w : World} {rp gs N : Nat} {d : Dst} {VT VV : Nat → Value} {vs : Nat → List Value} {Fp : Nat → Prop} (h : RDk w rp gs N d VT VV vs Fp) (i : Nat) (hi : i < N) (b : Bool) (hn : VT i = nilS) :
    RDk (w.setCell ⟨gs, i * 3 + 1, none⟩ (.bool b)) rp gs N ⟨d.S.set i ⟨List.replicate 128 0, b⟩, d.C, d.off, d.fuse⟩ VT VV vs Fp := by
  obtain ⟨cur, h1, h2⟩ := h.hs
  have hc : Chg (fun b => b = gs ∨ (VV i).ownBlock = some b) w (w.setCell ⟨gs, i * 3 + 1, none⟩ (.bool b)) := (set_chg w gs (i * 3 + 1) (.bool b)).mono (fun _ hb => .inl hb)
  have hk := h.kept (F := fun _ => False) (Chg.refl _ w) (fun _ _ hf => hf)
  have hp := h.put (w' := w.setCell ⟨gs, i * 3 + 1, none⟩ (.bool b)) (Fp' := Fp) i hi ⟨List.replicate 128 0, b⟩ (d.C i) (VT i) (VV i) (vs i) ⟨by simp, fun _ => by simp⟩ hc ?_ (fun _ hb => hb) (fun b' hb => Nat.lt_of_lt_of_le (h.flt b' hb) hc.size) (.inl ⟨hn, rfl⟩) ?_ ?_ (.inl rfl) (fun b' hb => h.fvv i hi b' hb)
  · rw [upd_id, upd_id, upd_id, upd_id] at hp
    exact hp
  · intro cur' hcur'
    rw [h1] at hcur'
    simp only [Option.some.injEq, Obj.cells.injEq] at hcur'
    obtain ⟨rfl, -⟩ := hcur'
    obtain ⟨k1, k2⟩ := set_sec h1 i 1 (by decide) (.bool b)
    have hsz : i * 3 + 1 < cur.size := (Array.getElem?_eq_some_iff.1 (h2 i hi).2.1).1
    refine ⟨_, k1, fun j hj => k2 j (fun e => hj (by omega)), by rw [k2 _ (by omega)]; exact (h2 i hi).1, by rw [Array.getElem?_setIfInBounds_self_of_lt hsz], by rw [k2 _ (by omega)]; exact (h2 i hi).2.2⟩
  · refine (h.own i hi).chg (set_chg w gs (i * 3 + 1) (.bool b)) (fun b' hb e => ?_)
    subst e
    obtain ⟨c, h3⟩ := (h.own i hi).at_ hb
    rw [h1] at h3; simp only [Option.some.injEq, Obj.cells.injEq] at h3; exact absurd h3.2.1 (by decide)
  · obtain ⟨h3, h4⟩ := h.vers i hi
    refine ⟨h3, fun k hk => ?_⟩
    obtain ⟨u, h6, h7, h8⟩ := h4 k hk
    exact ⟨u, h6, h7, h8.kept (set_chg w gs (i * 3 + 1) (.bool b)) (fun b' cs fr _ hb e => by subst e; rw [h1] at hb; simp only [Option.some.injEq, Obj.cells.injEq] at hb; exact absurd hb.2.1 (by decide)) (fun _ hb => hb)⟩
/-- a new text of a sector that can be read -/
theorem RDk.setText {w : World} {rp gs N : Nat} {d : Dst} {VT VV : Nat → Value} {vs : Nat → List Value} {Fp : Nat → Prop} (h : RDk w rp gs N d VT VV vs Fp) (i : Nat) (hi : i < N) (T : List UInt8) (hT : T.length = 128) (ht : (d.S.getD i Sec.zero).torn = false) (v : Value) (g : Nat) (hg : g < w.heap.size) (hb : ByAt w (fun b => b = g) v T) :
    RDk (w.setCell ⟨gs, i * 3, none⟩ v) rp gs N ⟨d.S.set i ⟨T, false⟩, d.C, d.off, d.fuse⟩ (upd VT i v) VV vs (fun b => Fp b ∨ b = g) := by
  obtain ⟨cur, h1, h2⟩ := h.hs
  have hc0 := set_chg w gs (i * 3) v
  have hc : Chg (fun b => b = gs ∨ (VV i).ownBlock = some b) w (w.setCell ⟨gs, i * 3, none⟩ v) := hc0.mono (fun _ hb => .inl hb)
  have hn5 : ∀ (b : Nat) cs fr, w.heap[b]? = some (.cells cs 5 fr) → ¬ b = gs := fun b' cs fr hb e => by subst e; rw [h1] at hb; simp only [Option.some.injEq, Obj.cells.injEq] at hb; exact absurd hb.2.1 (by decide)
  have hp := h.put (w' := w.setCell ⟨gs, i * 3, none⟩ v) (Fp' := fun b => Fp b ∨ b = g) i hi ⟨T, false⟩ (d.C i) v (VV i) (vs i) ⟨hT, fun h => by cases h⟩ hc ?_ (fun _ hb => .inl hb) (fun b' hb => by
    rcases hb with hb | rfl
    · exact Nat.lt_of_lt_of_le (h.flt b' hb) hc.size
    · exact Nat.lt_of_lt_of_le hg hc.size) (.inr ⟨rfl, hb.kept hc0 (fun b' cs fr _ hb => hn5 b' cs fr hb) (fun _ hb => .inr hb)⟩) ?_ ?_ (.inl rfl) (fun b' hb => .inl (h.fvv i hi b' hb))
  · rw [upd_id, upd_id, upd_id] at hp
    exact hp
  · intro cur' hcur'
    rw [h1] at hcur'
    simp only [Option.some.injEq, Obj.cells.injEq] at hcur'
    obtain ⟨rfl, -⟩ := hcur'
    obtain ⟨k1, k2⟩ := set_sec h1 i 0 (by decide) v
    rw [Nat.add_zero] at k1 k2
    have hsz : i * 3 < cur.size := (Array.getElem?_eq_some_iff.1 (h2 i hi).1).1
    refine ⟨_, k1, fun j hj => k2 j (fun e => hj (by omega)), by rw [Array.getElem?_setIfInBounds_self_of_lt hsz], by rw [k2 _ (by omega), (h2 i hi).2.1, ht], by rw [k2 _ (by omega)]; exact (h2 i hi).2.2⟩
  · refine (h.own i hi).chg hc0 (fun b' hb e => ?_)
    subst e
    obtain ⟨c, h3⟩ := (h.own i hi).at_ hb
    rw [h1] at h3; simp only [Option.some.injEq, Obj.cells.injEq] at h3; exact absurd h3.2.1 (by decide)
  · obtain ⟨h3, h4⟩ := h.vers i hi
    refine ⟨h3, fun k hk => ?_⟩
    obtain ⟨u, h6, h7, h8⟩ := h4 k hk
    exact ⟨u, h6, h7, h8.kept hc0 (fun b' cs fr _ hb => hn5 b' cs fr hb) (fun _ hb => .inl hb)⟩
end Go.Proofs.Ytgdkiejlggiakaa
