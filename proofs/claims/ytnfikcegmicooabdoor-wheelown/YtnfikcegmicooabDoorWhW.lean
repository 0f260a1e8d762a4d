import Derived.Test.YtnfikcegmicooabDoorWhV
namespace Go.Proofs.YtnfikcegmicooabDoor
set_option linter.unusedVariables false
set_option linter.unusedSimpArgs false
open Go.RowKit Go.Maps
/-- append of one timer: in the row's block or in a new one -/
theorem wp_app1M {w : World} {ops : Array Oper} {rest : List Oper} {o : Oper} {a : Act} {Q : Exit → Act → World → Prop} (hgd : o.guard = none) (s x : Operand)
    (ho : o.op = .call { callee := .builtin .append, args := #[s, x], argTypes := #[tTms, tTms] }) (B : Nat) (v : Value) (xs : List Tm) (t : Tm) (g0 : Nat)
    (hs : a.eval s = v) (hown : OwnM w B v xs) (hx : a.eval x = .slice (some ⟨g0, 0, none⟩) 1 1) (hr : w.heap[g0]? = some (.cells #[.int .i64 t.id, .int .u64 (t.at_ : Int), .int .u64 (t.ord : Int)] tTm (0, 0)))
    (hb : xs.length + 1 ≤ 4398046511104) (hbase : B ≤ w.heap.size)
    (h : ∀ v' w', OwnM w' B v' (xs ++ [t]) → w.grownBy w' v.ownBlock → (∀ b, v'.ownBlock = some b → v.ownBlock = some b ∨ b = w.heap.size) → wpList Tryd.prog ops Q rest (a.put o.dst v') w') : wpList Tryd.prog ops Q (o :: rest) a w := by
  obtain ⟨i0, hi, hz0, hz1, hz2⟩ := info_parts infoM
  refine wpList_append_lies w hgd s x tTms ho B tTm i0 (.agg #[.int .i64 0, .int .u64 0, .int .u64 0]) 3 24 Tryd.underlying53 hi hz0 hz1 hz2 rfl (by decide) v xs.length (flatM xs) hs hown ⟨g0, 0, none⟩ 1 1 (tmv t) hx rfl (World.news_of_block hr) (by intro u hu; simp at hu; rcases hu with rfl | rfl | rfl <;> rfl) (by decide) (by simp only [maxLen]; omega) (by omega) hbase _ rfl ?_
  intro g cap w' h1 h2 h3 h4
  refine h _ w' ?_ h2 (fun b e => ?_)
  · unfold OwnM
    rw [List.length_append, flatM_app, flatM_one]
    exact h1
  · cases e
    exact h3
section
variable {w w' : World} {p m N N' S : Nat} {L : List Tm} {F : Nat → Nat → List Tm} {V : Nat → Nat → Value} {KS : List Int} {X : Int → Pl}
set_option maxRecDepth 20000 in
set_option maxHeartbeats 3200000 in
theorem turn_t (hx : Wx w p m N S F (L.map Tm.id) X V) (hr : RepP N (fun t => t ∈ L) F X) (ho : Ord N S L) (hN : N < N') (hm : N' ≤ mxN) (hL : L.length ≤ 4398046511104) (ht : TabZ w) :
    Calls Tryd.prog 25 #[.pointer (some ⟨p, 0, none⟩), .int .u64 (N' : Int)] w fun e w' => ∃ v D V' F' X', e = .returned v ∧ OwnM w' w.heap.size v D ∧ D.Nodup ∧ (∀ t, t ∈ D ↔ t ∈ L ∧ t.at_ ≤ N') ∧ Wx w' p m N' S F' (L.map Tm.id) X' V' ∧ RepP N' (fun t => t ∈ L ∧ N' < t.at_) F' X' ∧ Stp w w' p m V V' ∧ ∀ b, v.ownBlock = some b → ¬ footW p m V' b := by
  obtain ⟨k, hk⟩ : ∃ k, k = lev N' N := ⟨_, rfl⟩
  obtain ⟨last, hl⟩ : ∃ last, last = slt N' k := ⟨_, rfl⟩
  have hl64 : last < 64 := by rw [hl]; exact slt_lt _ _
  have hk8 : k < 8 := by rw [hk]; exact lev_lt8 hN hm
  have HSD : Hid (∀ u : World, Calls Tryd.prog 38 #[.int .u64 (N' : Int), .int .u64 (N : Int)] u fun e w' => e = .returned (.tuple #[.int .i64 (k : Int), .int .i64 (last : Int)]) ∧ Drw u w') := fun u => by
    have h9 := stand_t N' N hN (Nat.le_succ_of_le hm) u
    rw [← hk, ← hl] at h9
    exact h9
  have hrep := turn_rep hr ho hN hm
  have hdue := turn_due hr ho hN hm
  have hnd := turn_nd hr hN hm
  have hstay := turn_stay hr ho hN hm
  rw [← hk, ← hl] at hrep hdue hnd hstay
  have hpl := hx.lt (.inl rfl : footW p m V p)
  have hcN := hx.cN
  have hfN : w.frozen? ⟨p, 0, none⟩ = false := by obtain ⟨fl, h1, -⟩ := hx; exact h1.fz _
  have HX : Hid _ := hx
  have HR : Hid _ := hr
  have HO : Hid _ := ho
  have HT : Hid _ := ht
  have HREP : Hid _ := hrep
  have HDUE : Hid _ := hdue
  have HND : Hid _ := hnd
  have HSTAY : Hid _ := hstay
  have HL : Hid _ := hL
  clear hx hr ho ht hrep hdue hnd hstay hk hl hL
  go_enter Tryd.func25, Tryd.ntmps25
  go_wp2_with (go_at_call 38; refine Calls.mono (HSD.out _) ?_; rintro e w1 ⟨rfl, n1, rfl⟩)
  obtain ⟨w2, hw2⟩ : ∃ w2, w2 = (w.drewN n1).setCell ⟨p, 0, none⟩ (.int .u64 (N' : Int)) := ⟨_, rfl⟩
  have hx2 : Wx w2 p m N' S (tkF F 0) (L.map Tm.id) X V := by
    rw [hw2, tkF_zero]
    obtain ⟨fl, h1, h2⟩ := HX.out
    exact ⟨fl, (h1.drw ⟨n1, rfl⟩).stN N', h2⟩
  have hst2 : Stp w w2 p m V V := by
    rw [hw2]
    exact ((Stp.refl w p m V).drw ⟨n1, rfl⟩).set _ _
  rw [← hw2]
  clear hw2 hcN hfN
  go_loopw [4, 24] (fun v i wr => ∃ (r : Nat) (V' : Nat → Nat → Value), r ≤ k ∧ i = .int .i64 (r : Int) ∧ Wx wr p m N' S (tkF F r) (L.map Tm.id) X V' ∧ Stp w wr p m V V' ∧ (∀ b, footW p m V' b → footW p m V b) ∧ OwnM wr w.heap.size v (catA F r)) (fun _ i _ => k - (intOf i).toNat)
  case atStart => exact ⟨0, V, Nat.zero_le _, rfl, hx2, hst2, fun _ h9 => h9, World.ownsRow_nil _ _ _ _⟩
  case round =>
    obtain ⟨r, V1, hrk, rfl, hx1, hst1, hsub1, hown1⟩ := hrel
    clear hx2 hst2
    have hsz : w.heap.size ≤ wr.heap.size := hst1.chg.size
    have HX1 : Hid _ := hx1
    have HST1 : Hid _ := hst1
    have HSB1 : Hid _ := hsub1
    have HOW1 : Hid _ := hown1
    have HTR : Hid (TabZ wr) := hst1.tab (by obtain ⟨_, _, _, h9⟩ := HX.out; exact h9) HT.out
    clear hx1 hst1 hsub1 hown1
    by_cases hlt : r < k
    · have hle : (catA F r).length + (catF F r 64).length ≤ 4398046511104 := by
        have h8 := catA_le HR.out (show r + 1 ≤ 8 by omega)
        rw [catA_step, List.length_append] at h8
        have := HL.out
        omega
      have hcl : (catF (tkF F r) r 64).length ≤ 4398046511104 := by rw [catF_tk F (Nat.le_refl r)]; omega
      go_wp2_with (first
        | (go_at_call 39; refine Calls.mono (take_w HX1.out r 63 _ (by omega) (by decide) (by omega) HTR.out hcl) ?_; rintro e w3 ⟨v3, V3, rfl, hown3, hx3, hst3, hsub3⟩; rw [catF_tk F (Nat.le_refl r)] at hown3; rw [tkF_step] at hx3; obtain ⟨a3, c3, hv3, hc3, hnil3, hrd3⟩ := hown3.val; obtain ⟨n3, hn3⟩ : ∃ n3, n3 = (catF F r 64).length := ⟨_, rfl⟩; rw [← hn3] at hv3 hle; subst hv3; have hown13 : OwnM w3 w.heap.size u4 (catA F r) := rowM_kept HOW1.out (fun b hb => hst3.chg.block b (World.ownsRow.lt HOW1.out b hb).2 (fun h9 => by have h7 := Wx.lt HX.out (HSB1.out b h9); have h8 := (World.ownsRow.lt HOW1.out b hb).1; omega)); have HO13 : Hid _ := hown13; have HX3 : Hid _ := hx3; have HST3 : Hid (Stp w w3 p m V V3) := HST1.out.trans hst3; have HSB3 : Hid (∀ b, footW p m V3 b → footW p m V b) := fun b h9 => HSB1.out b (hsub3 b h9); have HRD3 : Hid _ := hrd3; have HNL3 : Hid _ := hnil3; have HN3 : Hid _ := hn3; have hsz3 : w.heap.size ≤ w3.heap.size := Nat.le_trans hsz hst3.chg.size; clear hown13 hx3 hst3 hsub3 hrd3 hnil3 hn3 hown3)
        | (at_builtin; refine wp_appM rfl _ _ rfl w.heap.size _ (catA F r) (catF F r 64) n3 a3 c3 HN3.out rfl HO13.out rfl HRD3.out HNL3.out hle hsz3 ?_; intro v4 w4 hown4 hg4; have HO4 : Hid _ := hown4; have HG4 : Hid _ := hg4; clear hown4 hg4))
      go_roundw
      case rel =>
        refine ⟨r + 1, V3, hlt, by go_num, Wx.chg (G := fun b => w.heap.size ≤ b) HX3.out (Chg.of_grown HG4.out (fun b e => (World.ownsRow.lt HO13.out b e).1)) (fun b hf h9 => by have := Wx.lt HX.out (HSB3.out b hf); omega), HST3.out.belowEnd ((Below.refl _ _).grown HG4.out hsz3 (fun b e => (World.ownsRow.lt HO13.out b e).1)) (Nat.le_refl _), HSB3.out, ?_⟩
        rw [catA_step]
        exact HO4.out
      case measure => simp [intOf]; omega
    · obtain rfl : r = k := by omega
      have hcl : (catF (tkF F r) r 64).length ≤ 4398046511104 := by
        rw [catF_tk F (Nat.le_refl r)]
        have := catF_len HR.out hk8 (Nat.le_refl 64)
        have := HL.out
        omega
      obtain ⟨R, hR⟩ : ∃ R, R = catF F r (last + 1) := ⟨_, rfl⟩
      have hRL : ∀ t, t ∈ R → t ∈ L := fun t ht => by rw [hR] at ht; exact ((catF_in HR.out hk8 (by omega)).1 ht).1
      have hRn : R.Nodup := by rw [hR]; exact catF_nd HR.out hk8 (by omega)
      have hRQ : ∀ t, t ∈ R → ¬ (t ∈ L ∧ N' < t.at_ ∧ ¬ (lev t.at_ N = r ∧ slt t.at_ r ≤ last)) := fun t ht h9 => by
        rw [hR] at ht
        have := (catF_in HR.out hk8 (by omega)).1 ht
        exact h9.2.2 ⟨this.2.1, by omega⟩
      rw [← hR] at HDUE HND HSTAY
      have hRl : R.length ≤ 4398046511104 := Nat.le_trans (sub_len hRn hRL) HL.out
      have HRL : Hid _ := hRL
      have HRN : Hid _ := hRn
      have HRQ : Hid _ := hRQ
      have HRR : Hid _ := hR
      clear hRL hRn hRQ hR hrk hlt
      go_wp2_with (first
        | (go_at_call 39; refine Calls.mono (take_w HX1.out r last _ hk8 hl64 (by omega) HTR.out hcl) ?_; rintro e w3 ⟨v3, V3, rfl, hown3, hx3, hst3, hsub3⟩; rw [catF_tk F (Nat.le_refl r), ← HRR.out] at hown3; obtain ⟨a3, c3, hv3, hc3, hnil3, hrd3⟩ := hown3.val; obtain ⟨n3, hn3⟩ : ∃ n3, n3 = R.length := ⟨_, rfl⟩; rw [← hn3] at hv3; subst hv3; have hown13 : OwnM w3 w.heap.size u4 (catA F r) := rowM_kept HOW1.out (fun b hb => hst3.chg.block b (World.ownsRow.lt HOW1.out b hb).2 (fun h9 => by have h7 := Wx.lt HX.out (HSB1.out b h9); have h8 := (World.ownsRow.lt HOW1.out b hb).1; omega)); have HO13 : Hid _ := hown13; have HO3 : Hid _ := hown3; have HX3 : Hid _ := hx3; have HST3 : Hid (Stp w w3 p m V V3) := HST1.out.trans hst3; have HSB3 : Hid (∀ b, footW p m V3 b → footW p m V b) := fun b h9 => HSB1.out b (hsub3 b h9); have HN3 : Hid _ := hn3; have hsz3 : w.heap.size ≤ w3.heap.size := Nat.le_trans hsz hst3.chg.size; clear hown13 hx3 hst3 hsub3 hrd3 hnil3 hn3 hown3 hc3))
      go_loopw [4, 44] (fun v i ws => ∃ (j : Nat) (V2 : Nat → Nat → Value) (F2 : Nat → Nat → List Tm) (X2 : Int → Pl), j ≤ R.length ∧ i = .int .i64 (j : Int) ∧ Wx ws p m N' S F2 (L.map Tm.id) X2 V2 ∧ RepP N' (fun t => (t ∈ L ∧ N' < t.at_ ∧ ¬ (lev t.at_ N = r ∧ slt t.at_ r ≤ last)) ∨ (t ∈ R.take j ∧ N' < t.at_)) F2 X2 ∧ Stp w ws p m V V2 ∧ OwnM ws w.heap.size v (catA F r ++ (R.take j).filter (fun t => decide (t.at_ ≤ N'))) ∧ OwnM ws 0 (.slice a3 n3 c3) R ∧ (∀ b, v.ownBlock = some b → (Value.slice a3 n3 c3).ownBlock ≠ some b ∧ ¬ footW p m V2 b) ∧ ∀ b, (Value.slice a3 n3 c3).ownBlock = some b → ¬ footW p m V2 b) (fun _ i _ => R.length - (intOf i).toNat)
      case atStart =>
        refine ⟨0, V3, _, X, Nat.zero_le _, rfl, HX3.out, HREP.out.congr (fun t => by simp), HST3.out, ?_, ?_, fun b hb => ⟨fun h9 => ?_, fun h9 => ?_⟩, fun b hb h9 => ?_⟩
        · have h9 : OwnM w3 w.heap.size u4 (catA F r) := HO13.out
          simpa using h9
        · exact ⟨HO3.out.1, HO3.out.2.imp id (fun ⟨g, cap, cur, h1, h2, h3⟩ => ⟨g, cap, cur, h1, Nat.zero_le _, h3⟩)⟩
        · have h7 := (World.ownsRow.lt HO3.out b h9).1
          have h8 := (World.ownsRow.lt HOW1.out b hb).2
          omega
        · have h7 := Wx.lt HX.out (HSB3.out b h9)
          have h8 := (World.ownsRow.lt HOW1.out b hb).1
          omega
        · have h7 := Wx.lt HX.out (HSB3.out b h9)
          have h8 := (World.ownsRow.lt HO3.out b hb).1
          omega
      case round =>
        obtain ⟨j, V2, F2, X2, hj, rfl, hx2, hr2, hst2, hown2, hrow, hdis, hfr⟩ := hrel
        have hP : ∀ t, ((t ∈ L ∧ N' < t.at_ ∧ ¬ (lev t.at_ N = r ∧ slt t.at_ r ≤ last)) ∨ (t ∈ R.take j ∧ N' < t.at_)) → t ∈ L := fun t h9 => h9.elim (fun h8 => h8.1) (fun h8 => HRL.out t (List.mem_of_mem_take h8.1))
        by_cases hlt : j < R.length
        · obtain ⟨t, hT⟩ : ∃ t, t = R[j] := ⟨_, rfl⟩
          have htR : t ∈ R := by rw [hT]; exact List.getElem_mem _
          have htL : t ∈ L := HRL.out t htR
          obtain ⟨g, cc, hv⟩ := hrow.one (fun e => by rw [e] at hlt; cases hlt)
          obtain ⟨rfl, -, rfl⟩ := Value.slice.inj hv
          obtain ⟨c0, c1, c2⟩ := hrow.cells3 HN3.out j hlt
          rw [← hT] at c0 c1 c2
          have hjn : j < n3 := by rw [HN3.out]; exact hlt
          have hgl := hrow.lt
          have hn3m : n3 ≤ 4398046511104 := by rw [HN3.out]; exact hRl
          have htk : R.take (j + 1) = R.take j ++ [t] := by rw [List.take_succ_eq_append_getElem hlt, ← hT]
          have hnotin : t ∉ R.take j := fun h9 => by
            obtain ⟨i9, h8⟩ := List.mem_iff_getElem?.1 h9
            have h7 : i9 < j := by
              have := (List.getElem?_eq_some_iff.1 h8).1
              rw [List.length_take] at this
              omega
            rw [List.getElem?_take_of_lt h7] at h8
            have h6 : R[j]? = some t := by rw [List.getElem?_eq_getElem hlt, hT]
            have := nodup_inj HRN.out h8 h6
            omega
          have HTK : Hid _ := htk
          have HX2 : Hid _ := hx2
          have HR2 : Hid _ := hr2
          have HST2 : Hid _ := hst2
          have HOW2 : Hid _ := hown2
          have HROW : Hid _ := hrow
          have HDIS : Hid _ := hdis
          have HFR : Hid _ := hfr
          have HP : Hid _ := hP
          have HTI : Hid _ := And.intro htL (And.intro htR hnotin)
          have hszr : w.heap.size ≤ wr.heap.size := hst2.chg.size
          clear htk hx2 hr2 hst2 hown2 hrow hdis hfr hP htL htR hnotin hv hT
          by_cases hat : N' < t.at_
          · have hati : (N' : Int) < (t.at_ : Int) := by omega
            have HLEN : Hid (∀ k s, k < 8 → s < 64 → (F2 k s).length ≤ 4398046511104) := fun k s hk hs => Nat.le_trans (sub_len (HR2.out.fnd k s hk hs) (fun u hu => HP.out u ((HR2.out.mem k s u hk hs).1 hu).1)) HL.out
            go_wp2_with (go_at_call 36; refine Calls.mono (put_w (Wx.below HX2.out (al (Below.refl _ _) _)) t hat (by rcases (HO.out.ats t HTI.out.1).2 with h9 | h9 <;> omega) (HO.out.rg t HTI.out.1) (by rw [List.length_map]; exact HL.out) HLEN.out) ?_; rintro e w5 ⟨rfl, V5, hx5, hst5⟩; have HX5 : Hid _ := hx5; have HST5 : Hid _ := hst5; clear hx5 hst5)
            have hins : insK (L.map Tm.id) t.id = L.map Tm.id := by unfold insK; rw [if_pos (List.mem_map.2 ⟨t, HTI.out.1, rfl⟩)]
            have hx5 := HX5.out
            rw [hins] at hx5
            have hkeep : ∀ b, b < wr.heap.size → ¬ footW p m V2 b → w5.heap[b]? = wr.heap[b]? := fun b hb hn => (HST5.out.chg.block b (by simp; omega) hn).trans (heap_alloc_old wr _ hb)
            have hnew : ∀ b, b < wr.heap.size → ¬ footW p m V2 b → ¬ footW p m V5 b := fun b hb hn h9 => by
              rcases HST5.out.new b h9 with h8 | h8
              · exact hn h8
              · simp at h8; omega
            go_roundw
            case rel =>
              refine ⟨j + 1, V5, _, _, hlt, by go_num, hx5, (RepP.put HR2.out t (fun u hu => ?_) ?_).congr (fun u => ?_), (HST2.out.trans (Stp.below (al (Below.refl _ _) _) _ _ _)).trans HST5.out, ?_, ?_, ?_, ?_⟩
              · intro e9
                have h8 := HR.out.uni u t (HP.out u hu) HTI.out.1 e9
                subst h8
                rcases hu with h7 | h7
                · exact HRQ.out u HTI.out.2.1 h7
                · exact HTI.out.2.2 h7.1
              · exact lev_le8 hat (by rcases (HO.out.ats t HTI.out.1).2 with h9 | h9 <;> omega)
              · rw [HTK.out]
                constructor
                · rintro ((h9 | h9) | rfl)
                  · exact .inl h9
                  · exact .inr ⟨List.mem_append_left _ h9.1, h9.2⟩
                  · exact .inr ⟨by simp, hat⟩
                · rintro (h9 | ⟨h9, h8⟩)
                  · exact .inl (.inl h9)
                  · rcases List.mem_append.1 h9 with h7 | h7
                    · exact .inl (.inr ⟨h7, h8⟩)
                    · simp at h7; exact .inr h7
              · rw [HTK.out, List.filter_append]
                have : [t].filter (fun t => decide (t.at_ ≤ N')) = [] := by simp; omega
                rw [this, List.append_nil]
                exact rowM_kept HOW2.out (fun b hb => hkeep b (World.ownsRow.lt HOW2.out b hb).2 (HDIS.out b hb).2)
              · exact rowM_kept HROW.out (fun b hb => hkeep b (World.ownsRow.lt HROW.out b hb).2 (HFR.out b hb))
              · exact fun b hb => ⟨(HDIS.out b hb).1, hnew b (World.ownsRow.lt HOW2.out b hb).2 (HDIS.out b hb).2⟩
              · exact fun b hb => hnew b (World.ownsRow.lt HROW.out b hb).2 (HFR.out b hb)
            case measure => simp [intOf]; omega
          · have hati : ¬ (N' : Int) < (t.at_ : Int) := by omega
            have HEA : Hid (∀ o1 o2 : Obj, ((wr.alloc o1).alloc o2).heap[wr.heap.size + 1]? = some o2) := fun o1 o2 => by have h9 := heap_alloc_new (wr.alloc o1) o2; rw [World.size_alloc] at h9; exact h9
            have hbd : (catA F r ++ (R.take j).filter (fun t => decide (t.at_ ≤ N'))).length + 1 ≤ 4398046511104 := by
              have h9 : (catA F r ++ (R.take (j + 1)).filter (fun t => decide (t.at_ ≤ N'))).length ≤ L.length := by
                refine Nat.le_trans ?_ (sub_len HND.out (L := L) (fun u hu => ((HDUE.out u).1 hu).1))
                rw [List.length_append, List.length_append]
                exact Nat.add_le_add_left ((List.take_sublist _ _).filter _).length_le _
              rw [HTK.out, List.filter_append] at h9
              have h8 : [t].filter (fun t => decide (t.at_ ≤ N')) = [t] := by simp; omega
              rw [h8] at h9
              have := HL.out
              simp only [List.length_append, List.length_singleton] at h9 ⊢
              omega
            go_wp2_with (at_builtin; refine wp_app1M rfl _ _ rfl w.heap.size _ (catA F r ++ (R.take j).filter (fun t => decide (t.at_ ≤ N'))) t (wr.heap.size + 1) rfl (OwnM.below (xs := catA F r ++ (R.take j).filter (fun t => decide (t.at_ ≤ N'))) HOW2.out (al (al (Below.refl _ _) _) _)) rfl (HEA.out _ _) hbd (by simp; omega) ?_; intro v6 w6 hown6 hg6 hat6; have HO6 : Hid _ := hown6; have HG6 : Hid _ := hg6; have HA6 : Hid _ := hat6; clear hown6 hg6 hat6)
            have hg6 : wr.grownBy w6 (_root_.Go.Value.ownBlock _) := (World.grownBy_alloc wr _ _).trans' ((World.grownBy_alloc _ _ _).trans' HG6.out)
            have hfoot : ∀ b, footW p m V2 b → w6.heap[b]? = wr.heap[b]? := fun b hf => hg6.block b (Wx.lt HX2.out hf) (fun e => (HDIS.out b e.symm).2 hf)
            go_roundw
            case rel =>
              refine ⟨j + 1, V2, F2, X2, hlt, by go_num, ?_, HR2.out.congr (fun u => ?_), ?_, ?_, ?_, fun b hb => ?_, HFR.out⟩
              · obtain ⟨fl, h1, h2⟩ := HX2.out
                exact ⟨fl, h1.kept hfoot, h2⟩
              · rw [HTK.out]
                constructor
                · rintro (h9 | ⟨h9, h8⟩)
                  · exact .inl h9
                  · exact .inr ⟨List.mem_append_left _ h9, h8⟩
                · rintro (h9 | ⟨h9, h8⟩)
                  · exact .inl h9
                  · rcases List.mem_append.1 h9 with h7 | h7
                    · exact .inr ⟨h7, h8⟩
                    · simp at h7; rw [h7] at h8; exact absurd h8 hat
              · exact HST2.out.belowEnd ((Below.refl _ _).grown hg6 hszr (fun b e => (World.ownsRow.lt HOW2.out b e).1)) (Nat.le_refl _)
              · have h8 : [t].filter (fun t => decide (t.at_ ≤ N')) = [t] := by simp; omega
                rw [HTK.out, List.filter_append, h8, ← List.append_assoc]
                exact HO6.out
              · exact rowM_kept HROW.out (fun b hb => hg6.block b (World.ownsRow.lt HROW.out b hb).2 (fun e => (HDIS.out b e.symm).1 hb))
              · rcases HA6.out b hb with h9 | h9
                · exact HDIS.out b h9
                · have h8 : wr.heap.size < b := by rw [h9]; simp; omega
                  refine ⟨fun h7 => ?_, fun h7 => ?_⟩
                  · have := (World.ownsRow.lt HROW.out b h7).2; omega
                  · have := Wx.lt HX2.out h7; omega
            case measure => simp [intOf]; omega
        · have hjR : j = R.length := by omega
          have hjn : n3 = j := by rw [HN3.out, hjR]
          rw [hjR, List.take_length] at hr2 hown2
          have HR2 : Hid _ := hr2
          clear hr2 hP
          go_wp2
          go_ret
          exact ⟨_, _, V2, F2, X2, rfl, hown2, HND.out, HDUE.out, hx2, HR2.out.congr HSTAY.out, hst2, fun b hb => (hdis b hb).2⟩
end
end Go.Proofs.YtnfikcegmicooabDoor
