import Derived.Test.YtnfikcegmicooabDoorWhY
namespace Go.Proofs.YtnfikcegmicooabDoor
set_option linter.unusedVariables false
set_option linter.unusedSimpArgs false
open Go.RowKit Go.Maps Go.Shelf
theorem OwnM.zero {w : World} {B : Nat} {v : Value} {xs : List Tm} (h : OwnM w B v xs) : OwnM w 0 v xs :=
  ⟨h.1, h.2.imp id (fun ⟨g, cap, cur, h1, _, h3⟩ => ⟨g, cap, cur, h1, Nat.zero_le _, h3⟩)⟩
theorem sorted_nd {D : List Tm} (h : D.Pairwise ltT) : D.Nodup := by
  refine List.Pairwise.imp ?_ h
  intro a b h9 e
  subst e
  exact ltT_irr _ h9
section
variable {w w' : World} {p m N S : Nat} {L : List Tm} {V : Nat → Nat → Value}
set_option maxRecDepth 20000 in
set_option maxHeartbeats 3200000 in
theorem advance_no (h : Wt w p m N S L V) (x : Nat) (hx : min x mxN ≤ N) :
    Calls Tryd.prog 10 #[.pointer (some ⟨p, 0, none⟩), .int .u64 (x : Int)] w fun e w' => e = .returned (.slice none 0 0) ∧ w' = w := by
  obtain ⟨F, X, hx1, -, -⟩ := h
  have hcM := hx1.cM
  have hcN := hx1.cN
  obtain ⟨N', hN'⟩ : ∃ N', N' = min x mxN := ⟨_, rfl⟩
  rw [← hN'] at hx
  have hxi : (N' : Int) ≤ (N : Int) := by omega
  have HN : Hid _ := hN'
  clear hN'
  go_enter Tryd.func10, Tryd.ntmps10
  go_wp2_with (first
    | (go_at_call 23; refine Calls.mono (time_t x _) ?_; rintro e w' ⟨rfl, hq⟩; have hq := hq.symm; subst hq; rw [← HN.out])
    | (go_at_call 24; refine Calls.mono (made_t p (some m) _ hcM) ?_; rintro e w' ⟨rfl, hq⟩; have hq := hq.symm; subst hq))
  go_ret
  exact ⟨rfl, rfl⟩
set_option maxRecDepth 20000 in
set_option maxHeartbeats 3200000 in
theorem advance_t (h : Wt w p m N S L V) (x : Nat) (hx : N < min x mxN) (hL : L.length ≤ 4398046511103) (ht : TabZ w) :
    Calls Tryd.prog 10 #[.pointer (some ⟨p, 0, none⟩), .int .u64 (x : Int)] w fun e w' => ∃ v D V', e = .returned v ∧ AdvIs L (min x mxN) D ∧ OwnZ w' w.heap.size v (D.map Tm.id) ∧ Wt w' p m (min x mxN) S (L.filter (fun t => decide (min x mxN < t.at_))) V' ∧ Stp w w' p m V V' := by
  obtain ⟨F, X, hx1, hr, ho⟩ := h
  have hcM := hx1.cM
  have hcN := hx1.cN
  have hmx : min x mxN ≤ mxN := Nat.min_le_right _ _
  obtain ⟨N', hN'⟩ : ∃ N', N' = min x mxN := ⟨_, rfl⟩
  rw [← hN'] at hx hmx ⊢
  have hxi : ¬ (N' : Int) ≤ (N : Int) := by omega
  have HN : Hid _ := hN'
  have HX : Hid _ := hx1
  have HR : Hid _ := hr
  have HO : Hid _ := ho
  have HT : Hid _ := ht
  have HL : Hid _ := hL
  clear hN' hx1 hr ho ht hL
  go_enter Tryd.func10, Tryd.ntmps10
  go_wp2_with (first
    | (go_at_call 23; refine Calls.mono (time_t x _) ?_; rintro e w' ⟨rfl, hq⟩; have hq := hq.symm; subst hq; rw [← HN.out])
    | (go_at_call 24; refine Calls.mono (made_t p (some m) _ hcM) ?_; rintro e w' ⟨rfl, hq⟩; have hq := hq.symm; subst hq)
    | (go_at_call 25; refine Calls.mono (turn_t HX.out HR.out HO.out hx hmx (Nat.le_succ_of_le HL.out) HT.out) ?_; rintro e w2 ⟨v2, D2, V2, F2, X2, rfl, hown2, hnd2, hD2, hx2, hr2, hst2, hdis2⟩; have HOW2 : Hid _ := hown2; have HD2 : Hid _ := And.intro hnd2 hD2; have HX2 : Hid _ := hx2; have HR2 : Hid _ := hr2; have HST2 : Hid _ := hst2; have HDIS2 : Hid _ := hdis2; clear hown2 hnd2 hD2 hx2 hr2 hst2 hdis2)
    | (go_at_call 26; refine Calls.mono (sort_t w.heap.size v2 D2 w2 HOW2.out (Nat.le_trans (sub_len HD2.out.1 (fun t h9 => ((HD2.out.2 t).1 h9).1)) (Nat.le_succ_of_le HL.out))) ?_; rintro e w3 ⟨rfl, D, hp3, hs3, hown3, hg3⟩; obtain ⟨a3, c3, hv3, hc3, hnil3, hrd3⟩ := hown3.val; obtain ⟨n3, hn3⟩ : ∃ n3, n3 = D.length := ⟨_, rfl⟩; rw [← hn3] at hv3; subst hv3; have HADV : Hid (AdvIs L N' D) := adv_of HO.out HD2.out.1 HD2.out.2 hp3 hs3; have HOW3 : Hid _ := hown3; have HG3 : Hid _ := hg3; have HN3 : Hid _ := hn3; clear hp3 hs3 hown3 hg3 hc3 hnil3 hrd3 hn3))
  have HX3 : Hid (Wx w3 p m N' S F2 (L.map Tm.id) X2 V2) := by
    obtain ⟨fl, h1, h2⟩ := HX2.out
    exact ⟨fl, h1.kept (fun b hf => HG3.out.block b (h1.lt hf) (fun e => HDIS2.out b e.symm hf)), h2⟩
  have HST3 : Hid (Stp w w3 p m V V2) := HST2.out.belowEnd ((Below.refl _ _).grown HG3.out HST2.out.chg.size (fun b e => (World.ownsRow.lt HOW2.out b e).1)) (Nat.le_refl _)
  have hDl : D.length ≤ 4398046511103 := by
    refine Nat.le_trans (sub_len ?_ (L := L) (fun t h9 => ((HADV.out.2 t).1 h9).1)) HL.out
    exact sorted_nd HADV.out.1
  clear hcM hcN
  go_loopw [6, 29] (fun v i ws => ∃ j : Nat, j ≤ D.length ∧ i = .int .i64 (j : Int) ∧ OwnZ ws w.heap.size v ((D.take j).map Tm.id) ∧ Wx ws p m N' S F2 ((L.map Tm.id).filter (fun y => decide (y ∉ (D.take j).map Tm.id))) X2 V2 ∧ OwnM ws w.heap.size (.slice a3 n3 c3) D ∧ (∀ b, v.ownBlock = some b → (Value.slice a3 n3 c3).ownBlock ≠ some b ∧ ¬ footW p m V2 b) ∧ Stp w ws p m V V2) (fun _ i _ => D.length - (intOf i).toNat)
  case atStart =>
    refine ⟨0, Nat.zero_le _, rfl, World.ownsRow_nil _ _ _ _, ?_, HOW3.out, (by intro b e; cases e), HST3.out⟩
    have : (L.map Tm.id).filter (fun y => decide (y ∉ (D.take 0).map Tm.id)) = L.map Tm.id := by rw [List.filter_eq_self]; intro y _; simp
    rw [this]
    exact HX3.out
  case round =>
    obtain ⟨j, hj, rfl, hz, hx4, hrow, hdis, hst4⟩ := hrel
    by_cases hlt : j < D.length
    · obtain ⟨t, hT⟩ : ∃ t, t = D[j] := ⟨_, rfl⟩
      have htD : t ∈ D := by rw [hT]; exact List.getElem_mem _
      have htL := ((HADV.out.2 t).1 htD).1
      have hid : inI t.id := HO.out.rg t htL
      obtain ⟨g, cc, hv⟩ := hrow.one (fun e => by rw [e] at hlt; cases hlt)
      obtain ⟨rfl, -, rfl⟩ := Value.slice.inj hv
      obtain ⟨c0, c1, c2⟩ := hrow.cells3 HN3.out j hlt
      rw [← hT] at c0 c1 c2
      have hjn : j < n3 := by rw [HN3.out]; exact hlt
      have hn3m : n3 ≤ 4398046511104 := by rw [HN3.out]; omega
      have hgl := hrow.lt
      have hcM := hx4.cM
      have hpl := hx4.lt (.inl rfl : footW p m V2 p)
      have htk : D.take (j + 1) = D.take j ++ [t] := by rw [List.take_succ_eq_append_getElem hlt, ← hT]
      have hKs : (((L.map Tm.id).filter (fun y => decide (y ∉ (D.take j).map Tm.id))).filter (fun y => decide (y ≠ t.id))) = (L.map Tm.id).filter (fun y => decide (y ∉ (D.take (j + 1)).map Tm.id)) := by
        rw [List.filter_filter, htk]
        congr 1
        funext y
        simp only [List.map_append, List.map_cons, List.map_nil, List.mem_append, List.mem_singleton]
        by_cases h1 : y = t.id <;> by_cases h2 : y ∈ (D.take j).map Tm.id <;> simp [h1, h2]
      have HKS : Hid _ := hKs
      have HTK : Hid _ := htk
      have HZ : Hid _ := hz
      have HX4 : Hid _ := hx4
      have HROW : Hid _ := hrow
      have HDIS : Hid _ := hdis
      have HST4 : Hid _ := hst4
      have hszr : w.heap.size ≤ wr.heap.size := hst4.chg.size
      have hzl : ((D.take j).map Tm.id).length + 1 ≤ 4398046511104 := by rw [List.length_map, List.length_take]; omega
      obtain ⟨Q, hQ⟩ : ∃ Q, Q = wr.heap.size := ⟨_, rfl⟩
      have HMAP : Hid (∀ o : Obj, MapW (wr.alloc o).drew m ((L.map Tm.id).filter (fun y => decide (y ∉ (D.take j).map Tm.id))) X2) := fun o => by
        obtain ⟨fl, h1, -⟩ := Wx.below hx4 ((al (Below.refl _ wr) o).drew)
        exact h1.map
      have HQB : Hid (∀ o : Obj, (wr.alloc o).drew.heap[wr.heap.size]? = some o) := fun o => heap_alloc_new wr o
      have HQM : Hid (wr.heap.size ≠ m) := fun e => Nat.lt_irrefl _ (e ▸ hx4.lt (.inr (.inl rfl) : footW p m V2 m))
      clear hKs htk hz hx4 hrow hdis hst4 hv hT htD htL hQ
      go_wp2
      go_region_law (refine step_delW rfl (.tmp 36) (.tmp 38) rfl t.id (by simp [Act.eval, Act.put]) (by simp [Act.eval, Act.put]) (HMAP.out _) hid ?_; intro w4 hm4 hg4; have hA4 := (hg4.block wr.heap.size (by show wr.heap.size < (wr.alloc _).heap.size; simp) (fun e => HQM.out (Option.some.inj e))).trans (HQB.out _); obtain ⟨b0, b1, b2⟩ := cell3 hA4; have HM4 : Hid _ := hm4; have HG4 : Hid _ := hg4; clear hm4 hg4 hA4)
      all_goals
        obtain ⟨w5, hw5⟩ : ∃ w5, w5 = w4 := ⟨_, rfl⟩
        rw [← hw5] at b0 b1 b2 ⊢
        have hx5 : Wx w5 p m N' S F2 ((L.map Tm.id).filter (fun y => decide (y ∉ (D.take (j + 1)).map Tm.id))) X2 V2 := by
          rw [hw5, ← HKS.out]
          obtain ⟨fl, h1, h2⟩ := Wx.below HX4.out ((al (Below.refl _ wr) _).drew)
          exact ⟨fl, h1.mapped HG4.out HM4.out, h2⟩
        have hkeep : ∀ b, b < wr.heap.size → b ≠ m → w5.heap[b]? = wr.heap[b]? := fun b hb hn => by
          rw [hw5]
          exact (HG4.out.block b (by show b < (wr.alloc _).heap.size; simp; omega) (fun e => hn (Option.some.inj e))).trans (heap_alloc_old wr _ hb)
        have hst5 : Stp w w5 p m V V2 := by
          rw [hw5]
          exact (HST4.out.trans (Stp.below ((al (Below.refl _ wr) _).drew) _ _ _)).trans (Stp.mapped HG4.out)
        have hz5 : OwnZ w5 w.heap.size _ ((D.take j).map Tm.id) := rowZ_kept HZ.out (fun b hb => hkeep b (World.ownsRow.lt HZ.out b hb).2 (fun e => (HDIS.out b hb).2 (.inr (.inl e))))
        have hrow5 : OwnM w5 w.heap.size (.slice (some ⟨g, 0, none⟩) n3 c3) D := rowM_kept HROW.out (fun b hb => hkeep b (World.ownsRow.lt HROW.out b hb).2 (fun e => by
          have h7 := hx5.lt (.inr (.inl rfl) : footW p m V2 m)
          obtain ⟨es, cl, h8⟩ : ∃ es cl, wr.heap[m]? = some (.map es cl) := by obtain ⟨fl, h1, -⟩ := HX4.out; exact h1.map.at_
          obtain ⟨cur, h9⟩ := rowM_at (OwnM.zero HROW.out) hb
          rw [e, h8] at h9
          cases h9))
        have hszw : wr.heap.size ≤ w5.heap.size := by
          rw [hw5]
          exact Nat.le_trans (by show wr.heap.size ≤ (wr.alloc _).heap.size; simp) HG4.out.size
        have HX5 : Hid _ := hx5
        have HST5 : Hid _ := hst5
        have HZ5 : Hid _ := hz5
        have HROW5 : Hid _ := hrow5
        clear hw5 hx5 hst5 hz5 hrow5 hkeep
        go_wp2_with (at_builtin; refine wp_app1Z rfl _ _ rfl w.heap.size _ ((D.take j).map Tm.id) t.id w5.heap.size rfl (rowZ_below HZ5.out (al (Below.refl _ _) _)) rfl (heap_alloc_new w5 _) hzl (by simp; omega) ?_; intro v6 w6 hown6 hg6 hat6; have HO6 : Hid _ := hown6; have HG6 : Hid _ := hg6; have HA6 : Hid _ := hat6; clear hown6 hg6 hat6)
        have hg6 : w5.grownBy w6 (_root_.Go.Value.ownBlock _) := (World.grownBy_alloc w5 _ _).trans' HG6.out
        go_roundw
        case rel =>
          refine ⟨j + 1, hlt, by go_num, ?_, ?_, ?_, fun b hb => ?_, ?_⟩
          · rw [HTK.out, List.map_append]
            exact HO6.out
          · obtain ⟨fl, h1, h2⟩ := HX5.out
            exact ⟨fl, h1.kept (fun b hf => hg6.block b (h1.lt hf) (fun e => (HDIS.out b e.symm).2 hf)), h2⟩
          · exact rowM_kept HROW5.out (fun b hb => hg6.block b (World.ownsRow.lt HROW5.out b hb).2 (fun e => (HDIS.out b e.symm).1 hb))
          · rcases HA6.out b hb with h9 | h9
            · exact HDIS.out b h9
            · have h8 : w5.heap.size < b := by rw [h9]; simp
              refine ⟨fun h7 => ?_, fun h7 => ?_⟩
              · have := (World.ownsRow.lt HROW5.out b h7).2; omega
              · have := Wx.lt HX5.out h7; omega
          · exact HST5.out.belowEnd ((Below.refl _ _).grown hg6 (by omega) (fun b e => (World.ownsRow.lt HZ5.out b e).1)) (Nat.le_refl _)
        case measure => simp [intOf]; omega
    · have hjD : j = D.length := by omega
      have hjn : n3 = j := by rw [HN3.out, hjD]
      rw [hjD, List.take_length] at hz hx4
      have hids : (L.map Tm.id).filter (fun y => decide (y ∉ D.map Tm.id)) = (L.filter (fun t => decide (N' < t.at_))).map Tm.id := by
        rw [List.filter_map]
        congr 1
        refine List.filter_congr (fun t ht => ?_)
        have h9 : t.id ∈ D.map Tm.id ↔ ¬ N' < t.at_ := by
          constructor
          · intro h8
            obtain ⟨u, hu, e⟩ := List.mem_map.1 h8
            have h7 := (HADV.out.2 u).1 hu
            have := HR.out.uni u t h7.1 ht e
            subst this
            omega
          · intro h8
            exact List.mem_map.2 ⟨t, (HADV.out.2 t).2 ⟨ht, by omega⟩, rfl⟩
        simp only [Function.comp, h9, Decidable.not_not]
      rw [hids] at hx4
      have HX4 : Hid _ := hx4
      have HZ : Hid _ := hz
      have HST4 : Hid _ := hst4
      clear hx4 hz hst4 hids hdis hrow
      go_wp2
      go_ret
      refine ⟨_, D, V2, rfl, HADV.out, HZ.out, ⟨F2, X2, HX4.out, HR2.out.congr (fun t => ?_), ?_⟩, HST4.out⟩
      · rw [List.mem_filter]; simp
      · have h9 := HO.out.sub (fun t => decide (N' < t.at_))
        refine ⟨hmx, h9.nd, h9.ord, h9.le, h9.rg, fun t ht => ?_⟩
        obtain ⟨h8, h7⟩ := List.mem_filter.1 ht
        have h6 := HO.out.ats t h8
        refine ⟨by simpa using h7, ?_⟩
        rcases h6.2 with h5 | h5
        · exact .inl h5
        · omega
end
end Go.Proofs.YtnfikcegmicooabDoor
