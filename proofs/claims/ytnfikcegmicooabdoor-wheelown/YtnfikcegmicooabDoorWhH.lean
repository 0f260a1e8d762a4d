import Derived.Test.YtnfikcegmicooabDoorWhG
namespace Go.Proofs.YtnfikcegmicooabDoor
set_option linter.unusedVariables false
set_option linter.unusedSimpArgs false
open Go.RowKit Go.Maps
def FlOk (F : Nat → Nat → List Tm) (fl : Nat → Nat) : Prop := ∀ k s, k < 8 → s < 64 → ((fl k).testBit s = true ↔ F k s ≠ [])
theorem FlOk.on {F : Nat → Nat → List Tm} {fl : Nat → Nat} (h : FlOk F fl) {k s : Nat} (ys : List Tm) (hy : ys ≠ []) : FlOk (upd2 F k s ys) (upd fl k (bitOn (fl k) s)) := by
  intro k' s' hk hs
  by_cases e : k' = k
  · subst e
    rw [upd_same, bitOn_at]
    by_cases e2 : s' = s
    · subst e2
      rw [upd2_same]
      simp [hy]
    · rw [upd2_other _ (fun h9 => e2 h9.2), ← h k' s' hk hs]
      have : ¬ s = s' := fun h9 => e2 h9.symm
      simp [this]
  · rw [upd_other _ e, upd2_other _ (fun h9 => e h9.1)]
    exact h k' s' hk hs
theorem FlOk.off {F : Nat → Nat → List Tm} {fl : Nat → Nat} (h : FlOk F fl) {k s : Nat} (hs : s < 64) : FlOk (upd2 F k s []) (upd fl k (bitOff (fl k) s)) := by
  intro k' s' hk hs'
  by_cases e : k' = k
  · subst e
    rw [upd_same, bitOff_at _ _ _ hs hs']
    by_cases e2 : s' = s
    · subst e2
      rw [upd2_same]
      simp
    · rw [upd2_other _ (fun h9 => e2 h9.2), ← h k' s' hk hs']
      have : ¬ s = s' := fun h9 => e2 h9.symm
      simp [this]
  · rw [upd_other _ e, upd2_other _ (fun h9 => e h9.1)]
    exact h k' s' hk hs'
theorem FlOk.same {F : Nat → Nat → List Tm} {fl : Nat → Nat} (h : FlOk F fl) {k s : Nat} (ys : List Tm) (hy : ys ≠ []) (hf : F k s ≠ []) : FlOk (upd2 F k s ys) fl := by
  intro k' s' hk hs
  by_cases e : k' = k ∧ s' = s
  · obtain ⟨rfl, rfl⟩ := e
    rw [upd2_same, h k' s' hk hs]
    simp [hy, hf]
  · rw [upd2_other _ e]
    exact h k' s' hk hs
theorem FlOk.zero {F : Nat → Nat → List Tm} {fl : Nat → Nat} (h : FlOk F fl) {k : Nat} (hk : k < 8) (h0 : fl k = 0) (s : Nat) (hs : s < 64) : F k s = [] := by
  have h1 := h k s hk hs
  rw [h0] at h1
  simp at h1
  exact h1
theorem FlOk.low {F : Nat → Nat → List Tm} {fl : Nat → Nat} (h : FlOk F fl) {k : Nat} (hk : k < 8) (hw : fl k < 18446744073709551616) (h0 : fl k ≠ 0) : lowB (fl k) < 64 ∧ F k (lowB (fl k)) ≠ [] ∧ ∀ s, s < lowB (fl k) → F k s = [] := by
  obtain ⟨h1, h2, h3⟩ := lowB_spec h0 hw
  refine ⟨h1, (h k _ hk h1).1 h2, fun s hs => ?_⟩
  have h4 := h k s hk (by omega)
  rw [h3 s hs] at h4
  simp at h4
  exact h4
/-- a wheel, its slots' rows V -/
def Wx (w : World) (p m N S : Nat) (F : Nat → Nat → List Tm) (K : List Int) (X : Int → Pl) (V : Nat → Nat → Value) : Prop := ∃ fl, Whl w p m N S F V fl K X ∧ FlOk F fl ∧ ¬ footW p m V 0
section
variable {w w' : World} {p m N S : Nat} {F : Nat → Nat → List Tm} {V : Nat → Nat → Value} {fl : Nat → Nat} {K : List Int} {X : Int → Pl}
theorem Stp.z {V' : Nat → Nat → Value} (h : Stp w w' p m V V') (hz : ¬ footW p m V 0) (hp : 0 < w.heap.size) : ¬ footW p m V' 0 := fun h1 => by
  rcases h.new 0 h1 with h2 | h2
  · exact hz h2
  · omega
theorem Stp.tab {V' : Nat → Nat → Value} (h : Stp w w' p m V V') (hz : ¬ footW p m V 0) (ht : TabZ w) : TabZ w' := fun j hj => by
  have h1 := ht j hj
  exact (World.cell?_of_block (h.chg.block 0 (World.block_lt_of_cell? w _ h1) hz)).trans h1
theorem Wx.below (h : Wx w p m N S F K X V) (hb : Below w.heap.size w w') : Wx w' p m N S F K X V := by
  obtain ⟨fl, h1, h2⟩ := h
  exact ⟨fl, h1.below hb, h2⟩
theorem Wx.lt (h : Wx w p m N S F K X V) {b : Nat} (hb : footW p m V b) : b < w.heap.size := by
  obtain ⟨fl, h1, h2⟩ := h
  exact h1.lt hb
theorem Wx.chg {G : Nat → Prop} (h : Wx w p m N S F K X V) (hc : Chg G w w') (hG : ∀ b, footW p m V b → ¬ G b) : Wx w' p m N S F K X V := by
  obtain ⟨fl, h1, h2⟩ := h
  exact ⟨fl, h1.chg hc hG, h2⟩
theorem OwnM.shape {B : Nat} {v : Value} {xs : List Tm} (h : OwnM w B v xs) : ∃ a c, v = .slice a xs.length c := by
  obtain ⟨a, c, h1, -⟩ := h.val
  exact ⟨a, c, h1⟩
theorem OwnM.one {B : Nat} {v : Value} {xs : List Tm} (h : OwnM w B v xs) (hn : xs ≠ []) : ∃ g c, v = .slice (some ⟨g, 0, none⟩) xs.length c := by
  rcases h.2 with ⟨-, h0⟩ | ⟨g, cap, cur, e, -⟩
  · exact absurd (List.eq_nil_of_length_eq_zero h0) hn
  · exact ⟨g, cap, e⟩
theorem Stp.row {k s : Nat} (hk : k < 8) (hs : s < 64) {u : World} (hg : w.grownBy u (V k s).ownBlock) {v : Value} (hb : ∀ b, v.ownBlock = some b → (V k s).ownBlock = some b ∨ w.heap.size ≤ b) : Stp w u p m V (upd2 V k s v) := by
  refine ⟨Chg.of_grown hg (fun b e => .inr (.inr ⟨k, s, hk, hs, e⟩)), fun b hf => ?_⟩
  rcases hf with h1 | h1 | ⟨k', s', hk', hs', e⟩
  · exact .inl (.inl h1)
  · exact .inl (.inr (.inl h1))
  · by_cases e2 : k' = k ∧ s' = s
    · obtain ⟨rfl, rfl⟩ := e2
      rw [upd2_same] at e
      rcases hb b e with h1 | h1
      · exact .inl (.inr (.inr ⟨k', s', hk', hs', h1⟩))
      · exact .inr h1
    · rw [upd2_other _ e2] at e
      exact .inl (.inr (.inr ⟨k', s', hk', hs', e⟩))
theorem Stp.belowEnd {V' : Nat → Nat → Value} {B : Nat} {w'' : World} (h : Stp w w' p m V V') (hb : Below B w' w'') (hB : w.heap.size ≤ B) : Stp w w'' p m V V' :=
  ⟨h.chg.trans (G := fun b => B ≤ b) ⟨hb.os, hb.tape, hb.output, hb.size, fun k _ hn => hb.block k (Nat.lt_of_not_le hn)⟩ (fun b hb' => .inr (Nat.le_trans hB hb')), h.new⟩
theorem Wx.fewer (h : Wx w p m N S F K X V) {k s : Nat} (hk : k < 8) (hs : s < 64) : OwnM w 0 (V k s) (F k s) := by
  obtain ⟨fl, h1, -⟩ := h
  exact h1.rows k s hk hs
theorem add_w (h : Wx w p m N S F K X V) (k s : Nat) (hk : k < 8) (hs : s < 64) (t : Tm) (hl : (F k s).length ≤ 4398046511104) :
    Calls Tryd.prog 44 #[.pointer (some ⟨p, 2 + 65 * k, none⟩), .int .i64 (s : Int), tma t] w fun e w' => e = .returned (.int .i64 ((F k s).length : Int)) ∧ ∃ V', Wx w' p m N S (upd2 F k s (F k s ++ [t])) K X V' ∧ Stp w w' p m V V' := by
  obtain ⟨fl, h1, h2, hz⟩ := h
  have hpos := h1.lt (.inl rfl)
  obtain ⟨a, c, hv⟩ := (h1.rows k s hk hs).shape
  have hne := h1.pV hk hs
  have hr := h1.rows k s hk hs
  have hc := h1.cV hk hs
  rw [hv] at hne hr hc
  refine Calls.mono (add_c p (2 + 65 * k) (fl k) s hs (h1.fw k hk) t (F k s) a _ c rfl hl w hr hne hc (h1.fz _) (h1.cF hk) (h1.fz _) (h1.lt (.inl rfl))) ?_
  rintro e w' ⟨rfl, g, cap, u, hown, hg, hat, hd⟩
  rw [← hv] at hg hat
  have hb : ∀ b, (Value.slice (some ⟨g, 0, none⟩) ((F k s).length + 1) cap).ownBlock = some b → (V k s).ownBlock = some b ∨ w.heap.size ≤ b := fun b e => by cases e; exact hat
  have hst := (((Stp.row (p := p) (m := m) hk hs hg hb).set (2 + 65 * k + s) (.slice (some ⟨g, 0, none⟩) ((F k s).length + 1) cap)).set (2 + 65 * k + 64) (.int .u64 (bitOn (fl k) s : Int))).drw hd
  exact ⟨rfl, _, ⟨_, ((h1.stV hk hs hg hown hb).stF hk _ (bitOn_lt hs (h1.fw k hk))).drw hd, h2.on _ (by simp), hst.z hz (by omega)⟩, hst⟩
/-- the last one takes the place of number i -/
def remL (xs : List Tm) (i : Nat) : List Tm := (xs.set i (xs.getD (xs.length - 1) ⟨0, 0, 0⟩)).take (xs.length - 1)
theorem remove_w (h : Wx w p m N S F K X V) (k s i : Nat) (hk : k < 8) (hs : s < 64) (hi : i < (F k s).length) :
    Calls Tryd.prog 57 #[.pointer (some ⟨p, 2 + 65 * k, none⟩), .int .i64 (s : Int), .int .i64 (i : Int)] w fun e w' => (∃ t, e = .returned (.tuple #[tma t, .bool (decide (i < (F k s).length - 1))]) ∧ (i < (F k s).length - 1 → t = (F k s).getD ((F k s).length - 1) ⟨0, 0, 0⟩)) ∧ ∃ V', Wx w' p m N S (upd2 F k s (remL (F k s) i)) K X V' ∧ Stp w w' p m V V' := by
  obtain ⟨fl, h1, h2, hz⟩ := h
  have hpos := h1.lt (.inl rfl)
  have hne : F k s ≠ [] := fun e => by rw [e] at hi; exact absurd hi (Nat.not_lt_zero _)
  obtain ⟨g, c, hv⟩ := (h1.rows k s hk hs).one hne
  have hgp := h1.pV hk hs
  have hr := h1.rows k s hk hs
  have hc := h1.cV hk hs
  rw [hv] at hgp hr hc
  by_cases h3 : (F k s).length = 1
  · obtain rfl : i = 0 := by omega
    rw [h3] at hc
    have e1 : remL (F k s) 0 = [] := by unfold remL; rw [h3]; rfl
    rw [e1, h3]
    refine Calls.mono (remove_1 p (2 + 65 * k) (fl k) s g c hs (h1.fw k hk) w hc (h1.fz _) (h1.cF hk) (h1.fz _) (h1.lt (.inl rfl))) ?_
    rintro e w' ⟨rfl, hb⟩
    have hg : w.grownBy w (V k s).ownBlock := ⟨rfl, rfl, rfl, Nat.le_refl _, fun _ _ _ => rfl⟩
    have hn0 : ∀ b, (Value.slice none 0 0).ownBlock = some b → (V k s).ownBlock = some b ∨ w.heap.size ≤ b := fun b e => by cases e
    have h5 := (h1.stV (ys := []) hk hs hg (World.ownsRow_nil _ _ _ _) hn0).stF hk _ (bitOff_lt (fl k) s)
    have hst := (((Stp.row (p := p) (m := m) hk hs hg hn0).set (2 + 65 * k + s) (.slice none 0 0)).set (2 + 65 * k + 64) (.int .u64 (bitOff (fl k) s : Int))).belowEnd hb (Nat.le_refl _)
    refine ⟨⟨_, rfl, fun h9 => absurd h9 (by omega)⟩, _, ⟨_, h5.kept (fun b hf => hb.block b ?_), h2.off hs, hst.z hz (by omega)⟩, hst⟩
    have := h5.lt hf; simpa using this
  · obtain ⟨j, hj⟩ : ∃ j, (F k s).length = j + 1 := ⟨(F k s).length - 1, by omega⟩
    rw [hj] at hc hr hi ⊢
    simp only [Nat.add_sub_cancel]
    have hgD : (F k s).getD j ⟨0, 0, 0⟩ = (F k s)[j]'(by omega) := by rw [List.getD_eq_getElem?_getD, List.getElem?_eq_getElem (by omega)]; rfl
    refine Calls.mono (remove_c p (2 + 65 * k) s i j g c hs (F k s) (by omega) (by omega) hj.symm w hr (fun e => hgp (by rw [e]; rfl)) hc (h1.fz _) (h1.lt (.inl rfl))) ?_
    rintro e w' ⟨rfl, u, hown, hg, hb⟩
    have hVo : (V k s).ownBlock = some g := by rw [hv]; rfl
    have hg' : w.grownBy u (V k s).ownBlock := by rw [hVo]; exact hg
    have hl9 : ((F k s).set i ((F k s)[j]'(by omega))).length = j + 1 := by rw [List.length_set, hj]
    have hown2 : OwnM u 0 (.slice (some ⟨g, 0, none⟩) j c) (((F k s).set i ((F k s)[j]'(by omega))).take j) := ownM_pre (by rw [hl9]; exact hown) (by rw [hl9]; omega)
    have e1 : remL (F k s) i = ((F k s).set i ((F k s)[j]'(by omega))).take j := by unfold remL; rw [← hgD, hj, Nat.add_sub_cancel]
    have hn0 : ∀ b, (Value.slice (some ⟨g, 0, none⟩) j c).ownBlock = some b → (V k s).ownBlock = some b ∨ w.heap.size ≤ b := fun b e => by cases e; exact .inl hVo
    have h5 := h1.stV hk hs hg' hown2 hn0
    rw [e1]
    have hnn : ((F k s).set i ((F k s)[j]'(by omega))).take j ≠ [] := fun e => by
      have := congrArg List.length e
      rw [List.length_take, hl9] at this
      simp at this
      omega
    have hst := ((Stp.row (p := p) (m := m) hk hs hg' hn0).set (2 + 65 * k + s) (.slice (some ⟨g, 0, none⟩) j c)).belowEnd hb (Nat.le_refl _)
    refine ⟨⟨_, rfl, fun _ => hgD.symm⟩, _, ⟨_, h5.kept (fun b hf => hb.block b ?_), h2.same _ hnn hne, hst.z hz (by omega)⟩, hst⟩
    · rcases hf with h9 | h9 | ⟨k', s', hk', hs', e⟩
      · rw [h9]; exact h1.lt (.inl rfl)
      · rw [h9]; exact h1.lt (.inr (.inl rfl))
      · by_cases e2 : k' = k ∧ s' = s
        · obtain ⟨rfl, rfl⟩ := e2
          rw [upd2_same] at e
          cases e
          exact h1.lt (.inr (.inr ⟨_, _, hk, hs, hVo⟩))
        · rw [upd2_other _ e2] at e
          exact h1.lt (.inr (.inr ⟨k', s', hk', hs', e⟩))
end
end Go.Proofs.YtnfikcegmicooabDoor
