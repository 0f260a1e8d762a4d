import Derived.Test.YtnfikcegmicooabDoorWhP
namespace Go.Proofs.YtnfikcegmicooabDoor
set_option linter.unusedVariables false
set_option linter.unusedSimpArgs false
open Go.RowKit Go.Maps
theorem MapW.look {w : World} {m : Nat} {K : List Int} {X : Int → Pl} (h : MapW w m K X) {z : Int} (hz : inI z) :
    (Instr.lookup tMp (.map (some m)) (.int .i64 z) true).run Tryd.prog w = .ok (.tuple #[plv (if z ∈ K then X z else ⟨0, 0, 0⟩), .bool (decide (z ∈ K))]) w := by
  obtain ⟨D, h1, h2, h3, h4⟩ := h.own
  obtain ⟨v, ps, hr, hv⟩ := h1.look_ok keyI Tryd.underlying58 (zeroP w) (zd := .held (plv ⟨0, 0, 0⟩)) (zp := []) rfl (kI_of hz)
  have hhas : Maps.has D (kI z) = decide (z ∈ K) := by
    have := h3 z hz
    by_cases h9 : z ∈ K
    · simp [h9, this.2 h9]
    · cases h8 : Maps.has D (kI z)
      · simp [h9]
      · exact absurd (this.1 h8) h9
  rw [hr, hhas]
  simp only [selfR, Option.some.injEq, Prod.mk.injEq] at hv
  have e1 := hv.1
  by_cases h9 : z ∈ K
  · rw [h4 z h9] at e1
    rw [if_pos h9, DataW.held.inj e1]
  · have hf : Maps.has D (kI z) = false := by rw [hhas]; simp [h9]
    rw [atKey_of_not_has hf] at e1
    rw [if_neg h9, DataW.held.inj e1]
theorem wp_delW {w : World} {m : Nat} {K : List Int} {X : Int → Pl} {ops : Array Oper} {rest : List Oper} {o : Oper} {a : Act} {Q : Exit → Act → World → Prop} (hgd : o.guard = none) (mo x : Operand) (ho : o.op = .call { callee := .builtin .delete, args := #[mo, x], argTypes := #[tMp, 3] }) (z : Int)
    (hm : a.eval mo = .map (some m)) (hx : a.eval x = .int .i64 z) (h : MapW w m K X) (hz : inI z) (hK : ∀ w', MapW w' m (K.filter (fun y => decide (y ≠ z))) X → w.grownBy w' (some m) → wpList Tryd.prog ops Q rest (a.put o.dst (.tuple #[])) w') : wpList Tryd.prog ops Q (o :: rest) a w := by
  refine wpList_plain hgd fun K' hK' => ?_
  obtain ⟨w', hr, h1, h2⟩ := h.del hz o.type
  unfold Oper.wp
  simp [execOp, ho, resolve, invoke, builtin, hm, hx, hr, Result.andThen]
  exact hK' _ _ (hK w' h1 h2)
/-- what the timers in their order are like -/
structure Ord (N S : Nat) (L : List Tm) : Prop where
  nN : N ≤ mxN
  nd : (L.map Tm.id).Nodup
  ord : L.Pairwise (fun a b => a.ord < b.ord)
  le : ∀ t, t ∈ L → t.ord ≤ S
  rg : ∀ t, t ∈ L → inI t.id
  ats : ∀ t, t ∈ L → N < t.at_ ∧ (t.at_ ≤ mxN ∨ (N = mxN ∧ t.at_ = mxN + 1))
theorem Ord.lev8 {N S : Nat} {L : List Tm} (h : Ord N S L) {t : Tm} (ht : t ∈ L) : (t.at_ ≤ mxN → lev t.at_ N < 8) ∧ (¬ t.at_ ≤ mxN → lev t.at_ N = 8) := by
  obtain ⟨h1, h2⟩ := h.ats t ht
  refine ⟨lev_lt8 h1, fun h3 => ?_⟩
  rcases h2 with h2 | ⟨h2, h4⟩
  · exact absurd h2 h3
  · rw [h4, h2]; exact lev_never
theorem Ord.sub {N S : Nat} {L : List Tm} (h : Ord N S L) (q : Tm → Bool) : Ord N S (L.filter q) :=
  ⟨h.nN, h.nd.sublist (List.filter_sublist.map _), h.ord.sublist List.filter_sublist, fun t ht => h.le t (List.mem_filter.1 ht).1, fun t ht => h.rg t (List.mem_filter.1 ht).1, fun t ht => h.ats t (List.mem_filter.1 ht).1⟩
/-- a wheel of the program: its time, its count of Sets, its timers in the order of their Sets -/
def Wt (w : World) (p m N S : Nat) (L : List Tm) (V : Nat → Nat → Value) : Prop := ∃ F X, Wx w p m N S F (L.map Tm.id) X V ∧ RepP N (fun t => t ∈ L) F X ∧ Ord N S L
theorem filter_ids (L : List Tm) (z : Int) : (L.filter (fun t => decide (t.id ≠ z))).map Tm.id = (L.map Tm.id).filter (fun y => decide (y ≠ z)) := by
  induction L with
  | nil => rfl
  | cons a L ih =>
    by_cases h : a.id = z
    · rw [List.filter_cons_of_neg (by simp [h]), List.map_cons, List.filter_cons_of_neg (by simp [h]), ih]
    · rw [List.filter_cons_of_pos (by simp [h]), List.map_cons, List.map_cons, List.filter_cons_of_pos (by simp [h]), ih]
section
variable {K : List Int} {w w' : World} {p m N S : Nat} {L : List Tm} {F : Nat → Nat → List Tm} {V : Nat → Nat → Value} {fl : Nat → Nat} {X : Int → Pl}
theorem Wt.below (h : Wt w p m N S L V) (hb : Below w.heap.size w w') : Wt w' p m N S L V := by
  obtain ⟨F, X, h1, h2⟩ := h
  exact ⟨F, X, h1.below hb, h2⟩
theorem Wt.lt (h : Wt w p m N S L V) {b : Nat} (hb : footW p m V b) : b < w.heap.size := by
  obtain ⟨F, X, h1, h2⟩ := h
  exact h1.lt hb
theorem Wt.chg {G : Nat → Prop} (h : Wt w p m N S L V) (hc : Chg G w w') (hG : ∀ b, footW p m V b → ¬ G b) : Wt w' p m N S L V := by
  obtain ⟨F, X, h1, h2⟩ := h
  exact ⟨F, X, h1.chg hc hG, h2⟩
theorem Wt.z (h : Wt w p m N S L V) : ¬ footW p m V 0 := by
  obtain ⟨F, X, ⟨fl, _, _, h1⟩, h2⟩ := h
  exact h1
theorem Wx.cM (h : Wx w p m N S F K X V) : w.cell? ⟨p, 522, none⟩ = some (.map (some m)) := by
  obtain ⟨fl, h1, -⟩ := h
  exact h1.cM
theorem Wx.cN (h : Wx w p m N S F K X V) : w.cell? ⟨p, 0, none⟩ = some (.int .u64 (N : Int)) := by
  obtain ⟨fl, h1, -⟩ := h
  exact h1.cN
theorem Wx.cS (h : Wx w p m N S F K X V) : w.cell? ⟨p, 1, none⟩ = some (.int .u64 (S : Int)) := by
  obtain ⟨fl, h1, -⟩ := h
  exact h1.cS
set_option maxRecDepth 20000 in
set_option maxHeartbeats 1600000 in
theorem stop_t (h : Wt w p m N S L V) (id : Int) (hid : inI id) (hL : L.length ≤ 4398046511104) :
    Calls Tryd.prog 34 #[.pointer (some ⟨p, 0, none⟩), .int .i64 id] w fun e w' => e = .returned (.bool (decide (id ∈ L.map Tm.id))) ∧ ∃ V', Wt w' p m N S (L.filter (fun t => decide (t.id ≠ id))) V' ∧ Stp w w' p m V V' := by
  obtain ⟨F, X, hx, hr, ho⟩ := h
  have hcM := hx.cM
  have hlook : (Instr.lookup tMp (.map (some m)) (.int .i64 id) true).run Tryd.prog w = .ok (.tuple #[plv (if id ∈ L.map Tm.id then X id else ⟨0, 0, 0⟩), .bool (decide (id ∈ L.map Tm.id))]) w := by
    obtain ⟨fl, h1, -⟩ := hx
    exact h1.map.look hid
  have hpl := hx.lt (.inl rfl : footW p m V p)
  have HML : Hid (m < w.heap.size) := hx.lt (.inr (.inl rfl) : footW p m V m)
  have HX : Hid _ := hx
  have HR : Hid _ := hr
  have HO : Hid _ := ho
  clear hx hr ho
  by_cases hin : id ∈ L.map Tm.id
  · rw [if_pos hin] at hlook
    have hdec : decide (id ∈ L.map Tm.id) = true := by simp [hin]
    rw [hdec] at hlook ⊢
    obtain ⟨t, htL, hti⟩ := List.mem_map.1 hin
    obtain ⟨⟨k, s, i⟩, hXid⟩ : ∃ x, x = X id := ⟨_, rfl⟩
    rw [← hXid] at hlook
    have hXt : X t.id = ⟨k, s, i⟩ := by rw [hti]; exact hXid.symm
    have hKL : (L.map Tm.id).length ≤ 4398046511104 := by rw [List.length_map]; exact hL
    have hKF : ((L.map Tm.id).filter (fun y => decide (y ≠ id))).length ≤ 4398046511104 := Nat.le_trans (List.length_filter_le _ _) hKL
    have hset : ∀ u, (u ∈ L ∧ u.id ≠ t.id) ↔ u ∈ L.filter (fun t => decide (t.id ≠ id)) := fun u => by rw [List.mem_filter, hti]; simp
    have HSET : Hid _ := hset
    have HXT : Hid _ := hXt
    have HTI : Hid _ := hti
    have HTL : Hid _ := htL
    have HKF : Hid _ := hKF
    have HLV : Hid (∀ u : World, Wx u p m N S F ((L.map Tm.id).filter (fun y => decide (y ≠ id))) X V → Calls Tryd.prog 43 #[.pointer (some ⟨p, 0, none⟩), .agg #[.int .i64 (k : Int), .int .i64 (s : Int), .int .i64 (i : Int)]] u fun e w' => e = .returned (.tuple #[]) ∧ ∃ V', Wt w' p m N S (L.filter (fun t => decide (t.id ≠ id))) V' ∧ Stp u w' p m V V') := fun u hu => by
      have hl8 := HO.out.lev8 htL
      by_cases hat : t.at_ ≤ mxN
      · obtain ⟨h1, h2, h3, h4, h5⟩ := RepP.leave HR.out t htL (hl8.1 hat) hXt
        refine Calls.mono (leave_w hu k s i h1 h2 h3 hKF (fun h9 => ?_)) ?_
        · refine List.mem_filter.2 ⟨List.mem_map.2 ⟨_, h4 h9, rfl⟩, ?_⟩
          simp only [decide_eq_true_eq]
          intro e9
          have h6 := HR.out.uni _ t (h4 h9) htL (by rw [e9, hti])
          obtain ⟨i', h7, h8⟩ := HR.out.pl t htL (hl8.1 hat)
          rw [hXt] at h7
          obtain ⟨h7a, h7b, h7c⟩ := Pl.mk.inj h7
          rw [← h7b, ← h7a, ← h7c] at h8
          have h10 : (F k s)[(F k s).length - 1]? = some t := by
            rw [← h6, List.getElem?_eq_getElem (by omega), List.getD_eq_getElem?_getD, List.getElem?_eq_getElem (by omega)]
            rfl
          have := nodup_inj (HR.out.fnd k s h1 h2) h8 h10
          omega
        · rintro e w' ⟨rfl, V', hx', hst'⟩
          refine ⟨rfl, V', ⟨_, _, ?_, h5.congr hset, HO.out.sub _⟩, hst'⟩
          rw [filter_ids]
          exact hx'
      · have h8 := HR.out.p8 t htL (hl8.2 hat)
        rw [hXt] at h8
        have h8' : k = 8 := h8
        subst h8'
        refine Calls.mono (leave_8 hu s i) ?_
        rintro e w' ⟨rfl, hx', hst'⟩
        refine ⟨rfl, V, ⟨F, X, ?_, (RepP.leave8 HR.out t htL (hl8.2 hat)).congr hset, HO.out.sub _⟩, hst'⟩
        rw [filter_ids]
        exact hx'
    clear hXid hXt hti hKL hKF hset hin htL hdec hL
    go_enter Tryd.func34, Tryd.ntmps34
    go_wp2_with (first
      | (go_at_call 24; refine Calls.mono (made_t p (some m) _ hcM) ?_; rintro e w' ⟨rfl, hq⟩; have hq := hq.symm; subst hq)
      | (at_delete; refine wp_delW rfl _ _ rfl id rfl rfl (K := L.map Tm.id) (X := X) (by obtain ⟨fl, h1, -⟩ := Wx.below HX.out (al (Below.refl _ _) _); exact h1.map) hid ?_; intro w3 hm3 hg3; have hA3 := (hg3.block w.heap.size (by simp) (fun e => Nat.lt_irrefl _ (Option.some.inj e ▸ HML.out))).trans (heap_alloc_new w _); obtain ⟨b0, b1, b2⟩ := cell3 hA3; have HX3 : Hid (Wx w3 p m N S F ((L.map Tm.id).filter (fun y => decide (y ≠ id))) X V) := (by obtain ⟨fl, h1, h2⟩ := Wx.below HX.out (al (Below.refl _ _) _); exact ⟨fl, h1.mapped hg3 hm3, h2⟩); have HS3 : Hid (Stp w w3 p m V V) := (Stp.below (al (Below.refl _ _) _) p m V).trans (Stp.mapped hg3); clear hm3 hg3 hA3)
      | (go_at_call 43; refine Calls.mono (HLV.out w3 HX3.out) ?_; rintro e w4 ⟨rfl, V4, hw4, hst4⟩))
    go_ret
    exact ⟨rfl, V4, hw4, HS3.out.trans hst4⟩
  · rw [if_neg hin] at hlook
    have hdec : decide (id ∈ L.map Tm.id) = false := by simp [hin]
    rw [hdec] at hlook ⊢
    have hfl : L.filter (fun t => decide (t.id ≠ id)) = L := by
      rw [List.filter_eq_self]
      intro t ht
      simp only [decide_eq_true_eq]
      exact fun e => hin (List.mem_map.2 ⟨t, ht, e⟩)
    rw [hfl]
    clear hfl hin hdec
    go_enter Tryd.func34, Tryd.ntmps34
    go_wp2_with (go_at_call 24; refine Calls.mono (made_t p (some m) _ hcM) ?_; rintro e w' ⟨rfl, hq⟩; have hq := hq.symm; subst hq)
    go_ret
    exact ⟨rfl, V, ⟨F, X, Wx.below HX.out (al (Below.refl _ _) _), HR.out, HO.out⟩, Stp.below (al (Below.refl _ _) _) _ _ _⟩
end
end Go.Proofs.YtnfikcegmicooabDoor
