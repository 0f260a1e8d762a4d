import Derived.Test.YtnfikcegmicooabDoorRfD
namespace Go.Proofs.YtnfikcegmicooabDoor
set_option linter.unusedVariables false
set_option linter.unusedSimpArgs false
open Go.RowKit Go.Maps
theorem rowZ_ne {w : World} {B q : Nat} {v : Value} {zs : List Int} {C : Array Value} (h : OwnZ w B v zs) (hq : w.heap[q]? = some (.cells C tRw (0, 0))) : v.ownBlock ≠ some q := fun e => by
  rcases h.2 with ⟨rfl, -⟩ | ⟨g, cap, cur, rfl, -, hg, -⟩
  · cases e
  · cases e
    rw [hq] at hg
    simp only [Option.some.injEq, Obj.cells.injEq] at hg
    exact absurd hg.2.1 (by decide)
/-- the document's Advance amid its ringing: D has rung -/
structure Rng (L : List Tm) (N' : Nat) (D : List Tm) : Prop where
  sor : D.Pairwise ltT
  mem : ∀ t, t ∈ D → t ∈ L ∧ t.at_ ≤ N'
  lt : ∀ t u, t ∈ D → u ∈ L → u.id ∉ D.map Tm.id → ltT t u
def lef (L D : List Tm) : List Tm := L.filter (fun t => decide (t.id ∉ D.map Tm.id))
theorem lef_step (L D : List Tm) (t : Tm) : (lef L D).filter (fun u => decide (u.id ≠ t.id)) = lef L (D ++ [t]) := by
  unfold lef
  rw [List.filter_filter]
  congr 1
  funext y
  simp only [List.map_append, List.map_cons, List.map_nil, List.mem_append, List.mem_singleton]
  by_cases h1 : y.id = t.id <;> by_cases h2 : y.id ∈ D.map Tm.id <;> simp [h1, h2]
theorem lef_nil (L : List Tm) : lef L [] = L := by unfold lef; rw [List.filter_eq_self]; intro y _; simp
theorem Rng.step {N S N' : Nat} {L D : List Tm} (ho : Ord N S L) (h : Rng L N' D) {j n : Nat} (hj : j < (lef L D).length) (hn : NextIs (lef L D) n true) (he : (lef L D)[j].at_ = n) (hN : n ≤ N') (hb : ∀ t, t ∈ (lef L D).take j → t.at_ ≠ n) (hm : N' ≤ mxN) : Rng L N' (D ++ [(lef L D)[j]]) := by
  have htm : (lef L D)[j] ∈ lef L D := List.getElem_mem hj
  have htL : (lef L D)[j] ∈ L := (List.mem_filter.1 htm).1
  have htD : (lef L D)[j].id ∉ D.map Tm.id := by simpa using (List.mem_filter.1 htm).2
  have hleast : ∀ u, u ∈ lef L D → u.at_ ≤ mxN → n ≤ u.at_ := by
    rcases hn with ⟨h0, -⟩ | ⟨-, -, h4⟩
    · cases h0
    · exact h4
  have hord : (lef L D).Pairwise (fun a b => a.ord < b.ord) := ho.ord.sublist List.filter_sublist
  refine ⟨List.pairwise_append.2 ⟨h.sor, by simp, fun a ha b hb' => ?_⟩, fun t ht => ?_, fun t u ht hu hu' => ?_⟩
  · simp at hb'
    rw [hb']
    exact h.lt a _ ha htL htD
  · rcases List.mem_append.1 ht with h1 | h1
    · exact h.mem t h1
    · simp at h1
      rw [h1]
      exact ⟨htL, by omega⟩
  · simp only [List.map_append, List.mem_append, not_or] at hu'
    rcases List.mem_append.1 ht with h1 | h1
    · exact h.lt t u h1 hu hu'.1
    · simp at h1
      have hul : u ∈ lef L D := List.mem_filter.2 ⟨hu, by simpa using hu'.1⟩
      have hne : u.id ≠ (lef L D)[j].id := by simpa using hu'.2
      obtain ⟨i, hi, rfl⟩ := List.mem_iff_getElem.1 hul
      have hij : i ≠ j := fun e => by subst e; exact hne rfl
      rw [h1]
      unfold ltT
      by_cases hum : (lef L D)[i].at_ ≤ mxN
      · have h2 := hleast _ (List.getElem_mem hi) hum
        by_cases h3 : (lef L D)[i].at_ = n
        · have h4 : j < i := by
            rcases Nat.lt_trichotomy i j with h5 | h5 | h5
            · exact absurd h3 (hb _ (List.mem_iff_getElem.2 ⟨i, by rw [List.length_take]; omega, by rw [List.getElem_take]⟩))
            · exact absurd h5 hij
            · exact h5
          have := List.pairwise_iff_getElem.1 hord j i hj hi h4
          right
          exact ⟨by rw [he, h3], this⟩
        · left
          omega
      · left
        omega
/-- nothing more rings -/
theorem Rng.done {L D : List Tm} {N' n : Nat} {b : Bool} (h : Rng L N' D) (hn : NextIs (lef L D) n b) (hx : b = false ∨ N' < n) (hm : N' ≤ mxN) (hu : ∀ t u, t ∈ L → u ∈ L → t.id = u.id → t = u) : AdvIs L N' D ∧ lef L D = L.filter (fun t => decide (N' < t.at_)) := by
  have hno : ∀ u, u ∈ lef L D → N' < u.at_ := fun u hu' => by
    by_cases hum : u.at_ ≤ mxN
    · rcases hn with ⟨rfl, -, h1⟩ | ⟨rfl, -, h4⟩
      · exact absurd hum (h1 u hu')
      · have := h4 u hu' hum
        rcases hx with h5 | h5
        · cases h5
        · omega
    · omega
  have hin : ∀ t, t ∈ L → (t.id ∈ D.map Tm.id ↔ t.at_ ≤ N') := fun t ht => by
    constructor
    · intro h1
      obtain ⟨u, h2, h3⟩ := List.mem_map.1 h1
      have h4 := h.mem u h2
      rw [← hu u t h4.1 ht h3]
      exact h4.2
    · intro h1
      apply Classical.byContradiction
      intro h2
      have := hno t (List.mem_filter.2 ⟨ht, by simpa using h2⟩)
      omega
  refine ⟨⟨h.sor, fun t => ⟨h.mem t, fun ⟨h1, h2⟩ => ?_⟩⟩, ?_⟩
  · obtain ⟨u, h3, h4⟩ := List.mem_map.1 ((hin t h1).2 h2)
    rw [← hu u t (h.mem u h3).1 h1 h4]
    exact h3
  · unfold lef
    refine List.filter_congr (fun t ht => ?_)
    apply decide_eq_decide.2
    exact (not_congr (hin t ht)).trans ⟨fun h9 => by omega, fun h9 => by omega⟩
theorem Ord.uni {N S : Nat} {L : List Tm} (h : Ord N S L) {t u : Tm} (ht : t ∈ L) (hu : u ∈ L) (e : t.id = u.id) : t = u := by
  obtain ⟨i, hi, rfl⟩ := List.mem_iff_getElem.1 ht
  obtain ⟨j, hj, rfl⟩ := List.mem_iff_getElem.1 hu
  have h1 := List.pairwise_iff_getElem.1 h.nd
  rcases Nat.lt_trichotomy i j with h2 | h2 | h2
  · exact absurd (by rw [List.getElem_map, List.getElem_map]; exact e) (h1 i j (by rw [List.length_map]; exact hi) (by rw [List.length_map]; exact hj) h2)
  · subst h2; rfl
  · exact absurd (by rw [List.getElem_map, List.getElem_map]; exact e.symm) (h1 j i (by rw [List.length_map]; exact hj) (by rw [List.length_map]; exact hi) h2)
section
variable {w w' : World} {q N : Nat} {L : List Tm} {v : Value}
set_option maxRecDepth 20000 in
set_option maxHeartbeats 3200000 in
theorem radv_no (h : RfW w q N L v) (x : Nat) (hx : min x mxN ≤ N) :
    Calls Tryd.prog 11 #[.pointer (some ⟨q, 0, none⟩), .int .u64 (x : Int)] w fun e w' => e = .returned (.slice none 0 0) ∧ w' = w := by
  have hcN := h.c0
  obtain ⟨N', hN'⟩ : ∃ N', N' = min x mxN := ⟨_, rfl⟩
  rw [← hN'] at hx
  have hxi : (N' : Int) ≤ (N : Int) := by omega
  have HN : Hid _ := hN'
  clear hN' h
  go_enter Tryd.func11, Tryd.ntmps11
  go_wp2_with (go_at_call 30; refine Calls.mono (rclock_t x _) ?_; rintro e w' ⟨rfl, hq⟩; have hq := hq.symm; subst hq; rw [← HN.out])
  go_ret
  exact ⟨rfl, rfl⟩
set_option maxRecDepth 20000 in
set_option maxHeartbeats 3200000 in
theorem radv_t {S : Nat} (h : RfW w q N L v) (ho : Ord N S L) (x : Nat) (hx : N < min x mxN) (hL : L.length ≤ 4398046511103) :
    Calls Tryd.prog 11 #[.pointer (some ⟨q, 0, none⟩), .int .u64 (x : Int)] w fun e w' => ∃ z D v', e = .returned z ∧ AdvIs L (min x mxN) D ∧ OwnZ w' w.heap.size z (D.map Tm.id) ∧ RfW w' q (min x mxN) (L.filter (fun t => decide (min x mxN < t.at_))) v' ∧ RSt w w' q v v' := by
  have hcN := h.c0
  have hfN := h.fz 0
  have hmx : min x mxN ≤ mxN := Nat.min_le_right _ _
  obtain ⟨N', hN'⟩ : ∃ N', N' = min x mxN := ⟨_, rfl⟩
  rw [← hN'] at hx hmx ⊢
  have hxi : ¬ (N' : Int) ≤ (N : Int) := by omega
  obtain ⟨E, hE⟩ : ∃ E, E = L.filter (fun t => decide (N' < t.at_)) := ⟨_, rfl⟩
  rw [← hE]
  have HE : Hid _ := hE
  have HN : Hid _ := hN'
  have HW : Hid _ := h
  have HO : Hid _ := ho
  have HL : Hid _ := hL
  clear hN' h ho hL hE
  go_enter Tryd.func11, Tryd.ntmps11
  go_wp2_with (go_at_call 30; refine Calls.mono (rclock_t x _) ?_; rintro e w' ⟨rfl, hq⟩; have hq := hq.symm; subst hq; rw [← HN.out])
  have HW1 : Hid _ := RfW.setN HW.out N'
  have HST1 : Hid (RSt w (w.setCell ⟨q, 0, none⟩ (.int .u64 (N' : Int))) q v v) := ⟨Chg.of_grown (gset1 _ q 0 _) (fun b e => .inl (Option.some.inj e).symm), fun b hb => .inl hb⟩
  refine Calls.mono (rnext_t HW1.out) ?_
  rintro e w2 ⟨⟨n2, b2, rfl, h2⟩, hb2⟩
  have HW2 : Hid _ := RfW.below HW1.out hb2
  have HST2 : Hid (RSt w w2 q v v) := HST1.out.trans (RSt.below hb2 _ _)
  have H2 : Hid _ := h2
  clear h2 hb2 hcN hfN
  go_wp2
  go_loopw [5, 6, 7] (fun z at_ so wr => ∃ (D : List Tm) (n : Nat) (b : Bool) (v1 : Value), at_ = .int .u64 (n : Int) ∧ so = .bool b ∧ Rng L N' D ∧ NextIs (lef L D) n b ∧ OwnZ wr w.heap.size z (D.map Tm.id) ∧ RfW wr q N' (lef L D) v1 ∧ RSt w wr q v v1 ∧ ∀ y, z.ownBlock = some y → v1.ownBlock ≠ some y) (fun z _ _ _ => L.length - (match z with | .slice _ n _ => n | _ => 0))
  case atStart =>
    refine ⟨[], n2, b2, v, rfl, rfl, ⟨List.Pairwise.nil, fun t ht => (by cases ht), fun t u ht => (by cases ht)⟩, ?_, World.ownsRow_nil _ _ _ _, ?_, HST2.out, fun y hy => by cases hy⟩
    · rw [lef_nil]; exact H2.out
    · rw [lef_nil]; exact HW2.out
  case round =>
    obtain ⟨D, n, b, v1, rfl, rfl, hR, hNx, hZ, hF, hS, hdis⟩ := hrel
    have HR : Hid _ := hR
    have HNX : Hid _ := hNx
    have HZ : Hid _ := hZ
    have HF : Hid _ := hF
    have HS : Hid _ := hS
    have HDIS : Hid _ := hdis
    clear hR hNx hZ hF hS hdis
    have hstop : (b = false ∨ N' < n) → AdvIs L N' D ∧ lef L D = E := fun h9 => by
      have h8 := Rng.done HR.out HNX.out h9 hmx (fun t u ht hu e => HO.out.uni ht hu e)
      exact ⟨h8.1, h8.2.trans HE.out.symm⟩
    rcases b with _ | _
    · obtain ⟨hadv, hlef⟩ := hstop (.inl rfl)
      have HADV : Hid _ := hadv
      have HLEF : Hid _ := hlef
      clear hadv hlef hstop
      go_wp2
      go_ret
      refine ⟨_, rfl, D, HADV.out, HZ.out, v1, ?_, HS.out⟩
      rw [← HLEF.out]
      exact HF.out
    · by_cases hle : n ≤ N'
      · clear hstop
        have hli : (n : Int) ≤ (N' : Int) := by omega
        obtain ⟨G, hG⟩ : ∃ G, G = lef L D := ⟨_, rfl⟩
        have hGl : G.length ≤ 4398046511103 := by rw [hG]; exact Nat.le_trans (List.length_filter_le _ _) HL.out
        have HNX2 : Hid (NextIs G n true) := by unfold Hid; rw [hG]; exact HNX.out
        have HFG : Hid (RfW wr q N' G v1) := by unfold Hid; rw [hG]; exact HF.out
        have HG : Hid _ := hG
        have HGN : Hid ((G.map Tm.id).Nodup) := by unfold Hid; rw [hG]; exact HO.out.nd.sublist (List.filter_sublist.map _)
        have HST : Hid (∀ j (hj : j < G.length), G[j].at_ = n → (∀ t, t ∈ G.take j → t.at_ ≠ n) → Rng L N' (D ++ [G[j]])) := fun j hj he hb => by
          subst hG
          exact Rng.step HO.out HR.out hj HNX.out he hle hb hmx
        have HDL : Hid (D.length + 1 ≤ L.length ∨ G = []) := by
          rcases G with _ | ⟨g0, G0⟩
          · exact .inr rfl
          · left
            have h9 : (D ++ [g0]).length ≤ L.length := by
              refine sub_len ?_ (fun t ht => ?_)
              · refine List.nodup_append.2 ⟨sorted_nd HR.out.sor, by simp, fun a ha b hb e => ?_⟩
                simp at hb
                subst hb e
                have h8 : a ∈ lef L D := by rw [← hG]; simp
                have h7 : a.id ∉ D.map Tm.id := by simpa using (List.mem_filter.1 h8).2
                exact h7 (List.mem_map.2 ⟨a, ha, rfl⟩)
              · rcases List.mem_append.1 ht with h8 | h8
                · exact (HR.out.mem t h8).1
                · simp at h8
                  have h7 : g0 ∈ lef L D := by rw [← hG]; simp
                  rw [h8]
                  exact (List.mem_filter.1 h7).1
            simpa using h9
        obtain ⟨a, c, hv, hcp, hnil, -⟩ := HFG.out.row.val
        obtain ⟨k, hk⟩ : ∃ k, k = G.length := ⟨_, rfl⟩
        rw [← hk] at hv hGl
        subst hv
        have hq1 := RfW.c1 HFG.out
        have hql := RfW.lt HFG.out (.inl rfl : footR q _ q)
        have hlz : (D.map Tm.id).length ≤ 4398046511103 := by
          rw [List.length_map]
          exact Nat.le_trans (sub_len (sorted_nd HR.out.sor) (fun t ht => (HR.out.mem t ht).1)) HL.out
        have hszr : w.heap.size ≤ wr.heap.size := HS.out.chg.size
        obtain ⟨az, cz, hvz, -⟩ := OwnZ.rd HZ.out
        obtain ⟨dl, hdl⟩ : ∃ dl, dl = (D.map Tm.id).length := ⟨_, rfl⟩
        rw [← hdl] at hvz
        subst hvz
        have HDLL : Hid _ := hdl
        clear hdl
        have HK : Hid _ := hk
        clear hG hk hcp hnil
        go_wp2
        go_loop [5, 8] (fun z i => z = .slice az dl cz ∧ ∃ j : Nat, j ≤ k ∧ i = .int .i64 (j : Int) ∧ ∀ t, t ∈ G.take j → t.at_ ≠ n) (fun _ i => k - (intOf i).toNat)
        case atStart => exact ⟨rfl, 0, Nat.zero_le _, rfl, fun t ht => by simp at ht⟩
        case round =>
          obtain ⟨rfl, j, hj, rfl, hbe⟩ := hrel
          have HBE : Hid _ := hbe
          clear hbe
          by_cases hlt : j < k
          · have hj1 : j < G.length := by rw [← HK.out]; exact hlt
            obtain ⟨g, cc, hv⟩ := OwnQ.one (xs := G) HFG.out.row (fun e => by rw [e] at hj1; cases hj1)
            obtain ⟨rfl, -, rfl⟩ := Value.slice.inj hv
            obtain ⟨c0, c1, c2⟩ := OwnQ.cells3 (xs := G) HFG.out.row HK.out j hj1
            obtain ⟨t, hT⟩ : ∃ t, t = G[j] := ⟨_, rfl⟩
            rw [← hT] at c0 c1 c2
            have hgl := OwnQ.lt (xs := G) HFG.out.row
            have HTT : Hid _ := hT
            clear hv hT
            by_cases he : t.at_ = n
            · have heb : ((t.at_ : Int) == (n : Int)) = true := by simp; omega
              have hnv : nev t = false := by simp [nev]; omega
              rw [hnv] at c2
              have hDn : D.length + 1 ≤ L.length := by
                rcases HDL.out with h9 | h9
                · exact h9
                · rw [h9] at hj1; cases hj1
              have HRG : Hid (Rng L N' (D ++ [t])) := by
                unfold Hid
                rw [HTT.out]
                exact HST.out j hj1 (by rw [← HTT.out]; exact he) HBE.out
              have HLS : Hid (G.filter (fun u => decide (u.id ≠ t.id)) = lef L (D ++ [t])) := by
                unfold Hid
                rw [HG.out]
                exact lef_step L D t
              go_wp2_with (first
                | (at_builtin; refine wp_app1Z rfl _ _ rfl w.heap.size _ (D.map Tm.id) t.id wr.heap.size rfl (rowZ_below HZ.out (al (Below.refl _ _) _)) rfl (heap_alloc_new wr _) (by omega) (by simp; omega) ?_; intro v6 w6 hown6 hg6 hat6; have hgg : wr.grownBy w6 (Value.slice az dl cz).ownBlock := (World.grownBy_alloc wr _ _).trans' hg6; have HFG6 : Hid (RfW w6 q N' G (.slice (some ⟨g, 0, none⟩) k c)) := RfW.kept HFG.out (fun y hy => hgg.block y (RfW.lt HFG.out hy) (fun e => (by rcases hy with h9 | h9; (subst h9; exact rowZ_ne HZ.out HFG.out.hq e.symm); exact HDIS.out y e.symm h9))); have hq6 := RfW.c1 HFG6.out; obtain ⟨k0, k1, k2⟩ := OwnQ.cells3 (xs := G) HFG6.out.row HK.out j hj1; rw [← HTT.out] at k0 k1 k2; have hg6l := OwnQ.lt (xs := G) HFG6.out.row; have HO6 : Hid _ := hown6; have HGG : Hid _ := hgg; have HA6 : Hid _ := hat6; clear hown6 hg6 hat6 hgg)
                | (go_at_call 32; refine Calls.mono (rstop_t HFG6.out t.id HGN.out (by rw [← HK.out]; omega)) ?_; rintro e w7 ⟨rfl, v7, h7, hst7, hg7⟩; rw [HLS.out] at h7; have HW7 : Hid _ := h7; have HST7 : Hid _ := hst7; have HG7 : Hid _ := hg7; obtain ⟨Bb, hBb⟩ : ∃ Bb, Bb = decide (t.id ∈ G.map Tm.id) := ⟨_, rfl⟩; rw [← hBb]; clear h7 hst7 hg7 hBb)
                | (go_at_call 31; refine Calls.mono (rnext_t HW7.out) ?_; rintro e w8 ⟨⟨n8, b8, rfl, h8⟩, hb8⟩; have HN8 : Hid _ := h8; have HB8 : Hid _ := hb8; clear h8 hb8))
              have hz7 : OwnZ w7 w.heap.size v6 (D.map Tm.id ++ [t.id]) := rowZ_kept HO6.out (fun y hy => HG7.out.block y (World.ownsRow.lt HO6.out y hy).2 (fun e => rowZ_ne HO6.out HFG6.out.hq (hy.trans e)))
              have hst6 : RSt w w6 q v (.slice (some ⟨g, 0, none⟩) k c) := ⟨HS.out.chg.trans (Chg.of_grown HGG.out (F := fun y => (Value.slice az dl cz).ownBlock = some y) (fun y e => e)) (fun y e => .inr (World.ownsRow.lt HZ.out y e).1), HS.out.new⟩
              refine ⟨⟨D ++ [t], n8, b8, v7, rfl, rfl, HRG.out, HN8.out, ?_, RfW.below HW7.out HB8.out, (hst6.trans HST7.out).trans (RSt.below HB8.out _ _), fun y hy h9 => ?_⟩, ?_⟩
              · rw [List.map_append]
                exact rowZ_below hz7 HB8.out
              · have h8 := (World.ownsRow.lt HO6.out y hy).2
                rcases HST7.out.new y h9 with h7 | h7
                · rcases HA6.out y hy with h6 | h6
                  · exact HDIS.out y h6 h7
                  · have h5 := RfW.lt HFG.out (.inr h7 : footR q _ y)
                    rw [h6] at h5
                    simp at h5
                    omega
                · omega
              · obtain ⟨a6, c6, hv6, -⟩ := OwnZ.rd HO6.out
                rw [hv6]
                have h9 := HDLL.out
                rw [List.length_map] at h9
                simp only [List.length_append, List.length_map, List.length_singleton]
                omega
            · have heb : ((t.at_ : Int) == (n : Int)) = false := by simp; omega
              go_wp2
              go_round
              case rel =>
                refine ⟨rfl, j + 1, hlt, by go_num, fun u hu => ?_⟩
                rw [List.take_succ_eq_append_getElem hj1, List.mem_append] at hu
                rcases hu with h9 | h9
                · exact HBE.out u h9
                · simp at h9; rw [h9, ← HTT.out]; exact he
              case measure => simp [intOf]; omega
          · exfalso
            rcases HNX2.out with ⟨h0, -⟩ | ⟨-, ⟨t, h1, h2, h3⟩, -⟩
            · cases h0
            · refine HBE.out t ?_ h3
              have : j = k := by omega
              rw [this, HK.out, List.take_length]
              exact h1
      · obtain ⟨hadv, hlef⟩ := hstop (.inr (by omega))
        have HADV : Hid _ := hadv
        have HLEF : Hid _ := hlef
        have hli : ¬ (n : Int) ≤ (N' : Int) := by omega
        clear hadv hlef hstop
        go_wp2
        go_ret
        refine ⟨_, rfl, D, HADV.out, HZ.out, v1, ?_, HS.out⟩
        rw [← HLEF.out]
        exact HF.out
end
end Go.Proofs.YtnfikcegmicooabDoor
