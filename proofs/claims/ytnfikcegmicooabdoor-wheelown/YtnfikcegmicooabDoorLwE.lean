import Derived.Test.YtnfikcegmicooabDoorLwD
namespace Go.Proofs.YtnfikcegmicooabDoor
set_option linter.unusedVariables false
set_option linter.unusedSimpArgs false
open Go.RowKit Go.Maps Go.Shelf
section
variable {w : World} {p m q N S : Nat} {L : List Tm} {V : Nat → Nat → Value} {v : Value}
theorem cell4 {w : World} {P : Nat} {a b c d : Value} {t : TypeId} (h : w.heap[P]? = some (.cells #[a, b, c, d] t (0, 0))) : w.cell? ⟨P, 0, none⟩ = some a ∧ w.cell? ⟨P, 1, none⟩ = some b ∧ w.cell? ⟨P, 2, none⟩ = some c ∧ w.cell? ⟨P, 3, none⟩ = some d :=
  ⟨by rw [cell_of_row _ _ _ _ _ _ h]; rfl, by rw [cell_of_row _ _ _ _ _ _ h]; rfl, by rw [cell_of_row _ _ _ _ _ _ h]; rfl, by rw [cell_of_row _ _ _ _ _ _ h]; rfl⟩
theorem rowZ_noR {B : Nat} {z : Value} {zs : List Int} (h : OwnZ w B z zs) (h' : RfW w q N L v) {b : Nat} (hb : z.ownBlock = some b) (hf : footR q v b) : False := by
  have hz : ∃ cur, w.heap[b]? = some (.cells cur 3 (0, 0)) := by
    rcases h.2 with ⟨rfl, -⟩ | ⟨g, cap, cur, rfl, -, hg, -⟩
    · cases hb
    · cases hb; exact ⟨cur, hg⟩
  obtain ⟨cur, e⟩ := hz
  rcases h'.types hf with ⟨C', e'⟩ | ⟨C', e'⟩ <;> rw [e] at e' <;> simp only [Option.some.injEq, Obj.cells.injEq] at e' <;> exact absurd e'.2.1 (by decide)
set_option maxRecDepth 20000 in
set_option maxHeartbeats 3200000 in
theorem plays_t (h : Wt w p m N S L V) (h' : RfW w q N L v) (ht : TabZ w) (on kind id : Int) (x : Nat) (hid : inI id) (hL : L.length ≤ 4398046511103) (hS : S < 18446744073709551615) :
    Calls Tryd.prog 12 #[.pointer (some ⟨p, 0, none⟩), .pointer (some ⟨q, 0, none⟩), .agg #[.int .i64 on, .int .i64 kind, .int .i64 id, .int .u64 (x : Int)]] w fun e w' => e = .returned (.bool true) ∧ ∃ N' S' L' V' v', Wt w' p m N' S' L' V' ∧ RfW w' q N' L' v' ∧ PSt w w' p m q V V' v v' ∧ S' ≤ S + 1 ∧ L'.length ≤ L.length + 1 := by
  have hNm : N ≤ 281474976710655 := h.ord.nN
  have HW : Hid _ := h
  have HR : Hid _ := h'
  have HT : Hid _ := ht
  have HI : Hid _ := hid
  have HO : Hid (Ord N S L) := h.ord
  obtain ⟨P, hP⟩ : ∃ P, P = w.heap.size := ⟨_, rfl⟩
  obtain ⟨w1, hw1⟩ : ∃ w1, w1 = w.alloc (Obj.cells #[.int .i64 on, .int .i64 kind, .int .i64 id, .int .u64 (x : Int)] 34) := ⟨_, rfl⟩
  have hA1 : w1.heap[P]? = some (.cells #[.int .i64 on, .int .i64 kind, .int .i64 id, .int .u64 (x : Int)] 34 (0, 0)) := by rw [hw1, hP]; exact heap_alloc_new w _
  have hb1 : Below w.heap.size w w1 := by rw [hw1]; exact al (Below.refl _ _) _
  obtain ⟨e0, e1, e2, e3⟩ := cell4 hA1
  have hPl : P < w1.heap.size := (Array.getElem?_eq_some_iff.1 hA1).1
  have HB1 : Hid _ := hb1
  have HA1 : Hid _ := hA1
  have HP : Hid _ := hP
  have HFT : Hid (∀ b, ftP p m V q v b → b < P) := fun b hb => by
    rw [hP]
    rcases hb with h9 | h9
    · exact h.lt h9
    · exact h'.lt h9
  have HKP : Hid (∀ (u : World) (V' : Nat → Nat → Value) (v' : Value), PSt w1 u p m q V V' v v' → u.heap[P]? = some (.cells #[.int .i64 on, .int .i64 kind, .int .i64 id, .int .u64 (x : Int)] 34 (0, 0))) := fun u V' v' hu => (hu.chg.block P hPl (fun h9 => Nat.lt_irrefl _ (HFT.out P h9))).trans hA1
  have HW1 : Hid (Wt w1 p m N S L V) := h.below hb1
  have HR1 : Hid (RfW w1 q N L v) := h'.below hb1
  have HT1 : Hid (TabZ w1) := ht.below hb1
  have HPS1 : Hid (PSt w w1 p m q V V v v) := PSt.below hb1 _ _ _ _ _
  have HDL : Hid (∀ D : List Tm, AdvA L N x D → D.length ≤ 9223372036854775806) := fun D hD => by
    unfold AdvA at hD
    by_cases h9 : N < min x mxN
    · rw [if_pos h9] at hD
      have := sub_len (sorted_nd hD.1) (fun t h8 => ((hD.2 t).1 h8).1)
      omega
    · rw [if_neg h9] at hD
      rw [hD]
      simp
  go_enter Tryd.func12, Tryd.ntmps12
  by_cases hk1 : kind = 1
  · subst hk1
    go_wp2_with fail
    rw [← hw1, ← hP]
    clear hb1 hA1 hP hw1 h h' ht hid
    refine Calls.mono (rset_t HR1.out S id x HO.out.nd hL hNm) ?_
    rintro e w2 ⟨rfl, v2, h2, hst2⟩
    have HW2 : Hid _ := Wt.stR HW1.out HR1.out hst2
    have HPS2 : Hid (PSt w1 w2 p m q V V v v2) := PSt.ofR hst2 _ _ _
    obtain ⟨f0, f1, f2, f3⟩ := cell4 (HKP.out w2 V v2 HPS2.out)
    have HR2 : Hid _ := h2
    clear h2 hst2
    go_wp2_with fail
    refine Calls.mono (set_t HW2.out id x HI.out (by omega) hS) ?_
    rintro e w3 ⟨rfl, V3, h3, hst3⟩
    have HR3 : Hid _ := RfW.stW HR2.out HW2.out hst3
    have HPS3 : Hid _ := (HPS1.out.trans HPS2.out).trans (PSt.ofW hst3 q v2)
    have H3 : Hid _ := h3
    clear h3 hst3
    go_wp2
    go_ret
    exact ⟨rfl, _, _, _, V3, v2, H3.out, HR3.out, HPS3.out, Nat.le_refl _, setL_len _ _ _ _ _⟩
  · have hk1b : (kind == 1) = false := by simp [hk1]
    by_cases hk2 : kind = 2
    · subst hk2
      go_wp2
      rw [← hw1, ← hP]
      clear hb1 hA1 hP hw1 h h' ht hid hk1
      refine wp_region_noPanic ?_
      refine wp_region_held_drew (S := (fun u => u.cell? ⟨P, 2, none⟩ = some (.int .i64 id))) (by kernel_rfl) (by first | exact e2 | exact f2 | exact g2) (fun hHeld => ?_)
      refine take_at (i := 0) 26 (v := ?_) rfl rfl (by kernel_rfl) (by kernel_rfl) (by kernel_rfl) (fun _ _ _ h => h) (by rfl) ?_ hHeld ?_
      rotate_left
      · (intro w hSw; (try dsimp only at hSw); go_simp; try with_reducible rfl)
      simp only [Act.put, List.setIfInBounds_toArray, List.set_cons_zero, List.set_cons_succ]
      refine take_at (i := 1) 27 (v := ?_) rfl rfl (by kernel_rfl) (by kernel_rfl) (by kernel_rfl) (fun _ _ _ h => h) (by rfl) ?_ hHeld ?_
      rotate_left
      · (intro w hSw; (try dsimp only at hSw); go_simp; try with_reducible rfl)
      simp only [Act.put, List.setIfInBounds_toArray, List.set_cons_zero, List.set_cons_succ]
      refine take_at (i := 2) 28 (v := ?_) rfl rfl (by kernel_rfl) (by kernel_rfl) (by kernel_rfl) (fun _ _ _ h => h) (by rfl) ?_ hHeld ?_
      rotate_left
      · (intro w hSw; (try dsimp only at hSw); go_simp; try with_reducible rfl)
      simp only [Act.put, List.setIfInBounds_toArray, List.set_cons_zero, List.set_cons_succ]
      refine take_at (i := 4) 30 (v := ?_) rfl rfl (by kernel_rfl) (by kernel_rfl) (by kernel_rfl) (fun _ _ _ h => h) (by rfl) ?_ hHeld ?_
      rotate_left
      · (intro w hSw; (try dsimp only at hSw); go_simp; try with_reducible rfl)
      simp only [Act.put, List.setIfInBounds_toArray, List.set_cons_zero, List.set_cons_succ]
      refine take_at (i := 5) 31 (v := ?_) rfl rfl (by kernel_rfl) (by kernel_rfl) (by kernel_rfl) (fun _ _ _ h => h) (by rfl) ?_ hHeld ?_
      rotate_left
      · (intro w hSw; (try dsimp only at hSw); go_simp; try with_reducible rfl)
      simp only [Act.put, List.setIfInBounds_toArray, List.set_cons_zero, List.set_cons_succ]
      refine take_at (i := 6) 32 (v := ?_) rfl rfl (by kernel_rfl) (by kernel_rfl) (by kernel_rfl) (fun _ _ _ h => h) (by rfl) ?_ hHeld ?_
      rotate_left
      · (intro w hSw; (try dsimp only at hSw); go_simp; try with_reducible rfl)
      simp only [Act.put, List.setIfInBounds_toArray, List.set_cons_zero, List.set_cons_succ]
      refine run_at (i := 3) rfl (by kernel_rfl) (by rfl) (fun K hK => ?_)
      simp only [List.getElem_toArray, List.getElem_cons_zero, List.getElem_cons_succ]
      go_simp
      first | (go_at_call 34; refine Calls.mono (stop_t (Wt.below HW1.out (Below.refl _ _).drew) id HI.out (by omega)) ?_; rintro e w2 ⟨rfl, V2, h2, hst2⟩; have HR2 : Hid _ := RfW.stW (RfW.below HR1.out (Below.refl _ _).drew) (Wt.below HW1.out (Below.refl _ _).drew) hst2; have HPS2 : Hid (PSt w1 w2 p m q V V2 v v) := (PSt.below (Below.refl _ _).drew _ _ _ _ _).trans (PSt.ofW hst2 q v); obtain ⟨f0, f1, f2, f3⟩ := cell4 (HKP.out w2 V2 v HPS2.out); have H2 : Hid _ := h2; obtain ⟨Bb, hBb⟩ : ∃ Bb, Bb = decide (id ∈ L.map Tm.id) := ⟨_, rfl⟩; rw [← hBb]; have HBb : Hid _ := hBb; clear h2 hst2 hBb) | (go_at_call 32; refine Calls.mono (rstop_t HR2.out id HO.out.nd (by omega)) ?_; rintro e w3 ⟨rfl, v3, h3, hst3, -⟩; have HW3 : Hid _ := Wt.stR H2.out HR2.out hst3; have HPS3 : Hid (PSt w1 w3 p m q V V2 v v3) := HPS2.out.trans (PSt.ofR hst3 _ _ _); obtain ⟨g0, g1, g2, g3⟩ := cell4 (HKP.out w3 V2 v3 HPS3.out); have H3 : Hid _ := h3; rw [← HBb.out]; clear h3 hst3)
      go_wp2_with fail
      refine hK.out _ _ (by first | exact e2 | exact f2 | exact g2) ?_
      clear hK K
      intro hHeld2
      clear hHeld
      have hHeld := hHeld2
      clear hHeld2
      try simp only [Act.put, List.setIfInBounds_toArray, List.set_cons_zero, List.set_cons_succ]
      refine run_at (i := 7) rfl (by kernel_rfl) (by rfl) (fun K hK => ?_)
      simp only [List.getElem_toArray, List.getElem_cons_zero, List.getElem_cons_succ]
      go_simp
      first | (go_at_call 34; refine Calls.mono (stop_t (Wt.below HW1.out (Below.refl _ _).drew) id HI.out (by omega)) ?_; rintro e w2 ⟨rfl, V2, h2, hst2⟩; have HR2 : Hid _ := RfW.stW (RfW.below HR1.out (Below.refl _ _).drew) (Wt.below HW1.out (Below.refl _ _).drew) hst2; have HPS2 : Hid (PSt w1 w2 p m q V V2 v v) := (PSt.below (Below.refl _ _).drew _ _ _ _ _).trans (PSt.ofW hst2 q v); obtain ⟨f0, f1, f2, f3⟩ := cell4 (HKP.out w2 V2 v HPS2.out); have H2 : Hid _ := h2; obtain ⟨Bb, hBb⟩ : ∃ Bb, Bb = decide (id ∈ L.map Tm.id) := ⟨_, rfl⟩; rw [← hBb]; have HBb : Hid _ := hBb; clear h2 hst2 hBb) | (go_at_call 32; refine Calls.mono (rstop_t HR2.out id HO.out.nd (by omega)) ?_; rintro e w3 ⟨rfl, v3, h3, hst3, -⟩; have HW3 : Hid _ := Wt.stR H2.out HR2.out hst3; have HPS3 : Hid (PSt w1 w3 p m q V V2 v v3) := HPS2.out.trans (PSt.ofR hst3 _ _ _); obtain ⟨g0, g1, g2, g3⟩ := cell4 (HKP.out w3 V2 v3 HPS3.out); have H3 : Hid _ := h3; rw [← HBb.out]; clear h3 hst3)
      go_wp2_with fail
      refine hK.out _ _ (by first | exact e2 | exact f2 | exact g2) ?_
      clear hK K
      intro hHeld2
      clear hHeld
      have hHeld := hHeld2
      clear hHeld2
      try simp only [Act.put, List.setIfInBounds_toArray, List.set_cons_zero, List.set_cons_succ]
      refine take_at (i := 8) 34 (v := ?_) rfl rfl (by kernel_rfl) (by kernel_rfl) (by kernel_rfl) (fun _ _ _ h => h) (by rfl) ?_ hHeld ?_
      rotate_left
      · (intro w hSw; (try dsimp only at hSw); go_simp; try with_reducible rfl)
      simp only [Act.put, List.setIfInBounds_toArray, List.set_cons_zero, List.set_cons_succ]
      refine take_at (i := 9) 6 (v := ?_) rfl rfl (by kernel_rfl) (by kernel_rfl) (by kernel_rfl) (fun _ _ _ h => h) (by rfl) ?_ hHeld ?_
      rotate_left
      · (intro w hSw; (try dsimp only at hSw); go_simp; try with_reducible rfl)
      simp only [Act.put, List.setIfInBounds_toArray, List.set_cons_zero, List.set_cons_succ]
      refine wpAnyH_done (by kernel_rfl) ?_ _
      refine NoPanic.normal ?_
      go_wp2
      go_ret
      exact ⟨rfl, _, _, _, V2, v3, HW3.out, H3.out, HPS1.out.trans HPS3.out, Nat.le_succ _, Nat.le_trans (List.length_filter_le _ _) (Nat.le_succ _)⟩
    · have hk2b : (kind == 2) = false := by simp [hk2]
      by_cases hk3 : kind = 3
      · subst hk3
        go_wp2
        rw [← hw1, ← hP]
        clear hb1 hA1 hP hw1 h h' ht hid hk1 hk2
        refine wp_region_noPanic ?_
        refine wp_region_held_drew (S := (fun u => u.cell? ⟨P, 3, none⟩ = some (.int .u64 (x : Int)))) (by kernel_rfl) (by first | exact e3 | exact f3 | exact g3 | exact i3) (fun hHeld => ?_)
        refine take_at (i := 0) 37 (v := ?_) rfl rfl (by kernel_rfl) (by kernel_rfl) (by kernel_rfl) (fun _ _ _ h => h) (by rfl) ?_ hHeld ?_
        rotate_left
        · (intro w hSw; (try dsimp only at hSw); go_simp; try with_reducible rfl)
        simp only [Act.put, List.setIfInBounds_toArray, List.set_cons_zero, List.set_cons_succ]
        refine take_at (i := 1) 38 (v := ?_) rfl rfl (by kernel_rfl) (by kernel_rfl) (by kernel_rfl) (fun _ _ _ h => h) (by rfl) ?_ hHeld ?_
        rotate_left
        · (intro w hSw; (try dsimp only at hSw); go_simp; try with_reducible rfl)
        simp only [Act.put, List.setIfInBounds_toArray, List.set_cons_zero, List.set_cons_succ]
        refine take_at (i := 2) 39 (v := ?_) rfl rfl (by kernel_rfl) (by kernel_rfl) (by kernel_rfl) (fun _ _ _ h => h) (by rfl) ?_ hHeld ?_
        rotate_left
        · (intro w hSw; (try dsimp only at hSw); go_simp; try with_reducible rfl)
        simp only [Act.put, List.setIfInBounds_toArray, List.set_cons_zero, List.set_cons_succ]
        refine take_at (i := 4) 41 (v := ?_) rfl rfl (by kernel_rfl) (by kernel_rfl) (by kernel_rfl) (fun _ _ _ h => h) (by rfl) ?_ hHeld ?_
        rotate_left
        · (intro w hSw; (try dsimp only at hSw); go_simp; try with_reducible rfl)
        simp only [Act.put, List.setIfInBounds_toArray, List.set_cons_zero, List.set_cons_succ]
        refine take_at (i := 5) 42 (v := ?_) rfl rfl (by kernel_rfl) (by kernel_rfl) (by kernel_rfl) (fun _ _ _ h => h) (by rfl) ?_ hHeld ?_
        rotate_left
        · (intro w hSw; (try dsimp only at hSw); go_simp; try with_reducible rfl)
        simp only [Act.put, List.setIfInBounds_toArray, List.set_cons_zero, List.set_cons_succ]
        refine take_at (i := 6) 43 (v := ?_) rfl rfl (by kernel_rfl) (by kernel_rfl) (by kernel_rfl) (fun _ _ _ h => h) (by rfl) ?_ hHeld ?_
        rotate_left
        · (intro w hSw; (try dsimp only at hSw); go_simp; try with_reducible rfl)
        simp only [Act.put, List.setIfInBounds_toArray, List.set_cons_zero, List.set_cons_succ]
        refine run_at (i := 3) rfl (by kernel_rfl) (by rfl) (fun K hK => ?_)
        simp only [List.getElem_toArray, List.getElem_cons_zero, List.getElem_cons_succ]
        go_simp
        first | (go_at_call 10; refine Calls.mono (both_adv (Wt.below HW1.out (Below.refl _ _).drew) x hL (TabZ.below HT1.out (Below.refl _ _).drew)) ?_; rintro e w2 ⟨z2, D2, V2, rfl, hD2, hz2, h2, hst2⟩; have HR2 : Hid _ := RfW.stW (RfW.below HR1.out (Below.refl _ _).drew) (Wt.below HW1.out (Below.refl _ _).drew) hst2; have HPS2 : Hid (PSt w1 w2 p m q V V2 v v) := (PSt.below (Below.refl _ _).drew _ _ _ _ _).trans (PSt.ofW hst2 q v); obtain ⟨f0, f1, f2, f3⟩ := cell4 (HKP.out w2 V2 v HPS2.out); have H2 : Hid _ := h2; have HD2 : Hid _ := hD2; have HZ2 : Hid _ := hz2; clear h2 hst2 hD2 hz2) | (go_at_call 11; refine Calls.mono (both_radv HR2.out HO.out x hL) ?_; rintro e w3 ⟨z3, D3, v3, rfl, hD3, hz3, h3, hst3⟩; have hDD : D3 = D2 := AdvA.uniq hD3 HD2.out; rw [hDD] at hz3; have HW3 : Hid _ := Wt.stR H2.out HR2.out hst3; have HPS3 : Hid (PSt w1 w3 p m q V V2 v v3) := HPS2.out.trans (PSt.ofR hst3 _ _ _); have hz23 : OwnZ w3 w1.heap.size z2 (D2.map Tm.id) := rowZ_kept HZ2.out (fun b hb => hst3.chg.block b (World.ownsRow.lt HZ2.out b hb).2 (fun h9 => rowZ_noR HZ2.out HR2.out hb h9)); obtain ⟨g0, g1, g2, g3⟩ := cell4 (HKP.out w3 V2 v3 HPS3.out); have H3 : Hid _ := h3; have HZ3 : Hid _ := hz3; have HZ23 : Hid _ := hz23; clear h3 hst3 hD3 hz3 hz23 hDD) | (go_at_call 13; refine Calls.mono (same_t z2 z3 (D2.map Tm.id) (D2.map Tm.id) w3 (OwnZ.rd HZ23.out) (OwnZ.rd HZ3.out) (by rw [List.length_map]; exact HDL.out D2 HD2.out) (by rw [List.length_map]; exact HDL.out D2 HD2.out)) ?_; rintro e w4 ⟨rfl, hd4⟩; have hb4 : Below w3.heap.size w3 w4 := hd4.below _; have HW4 : Hid _ := Wt.below HW3.out hb4; have HR4 : Hid _ := RfW.below H3.out hb4; have HPS4 : Hid (PSt w1 w4 p m q V V2 v v3) := HPS3.out.trans (PSt.below hb4 _ _ _ _ _); obtain ⟨i0, i1, i2, i3⟩ := cell4 (HKP.out w4 V2 v3 HPS4.out); have hdec : decide (D2.map Tm.id = D2.map Tm.id) = true := decide_eq_true rfl; rw [hdec]; clear hd4 hb4 hdec)
        go_wp2_with fail
        refine hK.out _ _ (by first | exact e3 | exact f3 | exact g3 | exact i3) ?_
        clear hK K
        intro hHeld2
        clear hHeld
        have hHeld := hHeld2
        clear hHeld2
        try simp only [Act.put, List.setIfInBounds_toArray, List.set_cons_zero, List.set_cons_succ]
        refine run_at (i := 7) rfl (by kernel_rfl) (by rfl) (fun K hK => ?_)
        simp only [List.getElem_toArray, List.getElem_cons_zero, List.getElem_cons_succ]
        go_simp
        first | (go_at_call 10; refine Calls.mono (both_adv (Wt.below HW1.out (Below.refl _ _).drew) x hL (TabZ.below HT1.out (Below.refl _ _).drew)) ?_; rintro e w2 ⟨z2, D2, V2, rfl, hD2, hz2, h2, hst2⟩; have HR2 : Hid _ := RfW.stW (RfW.below HR1.out (Below.refl _ _).drew) (Wt.below HW1.out (Below.refl _ _).drew) hst2; have HPS2 : Hid (PSt w1 w2 p m q V V2 v v) := (PSt.below (Below.refl _ _).drew _ _ _ _ _).trans (PSt.ofW hst2 q v); obtain ⟨f0, f1, f2, f3⟩ := cell4 (HKP.out w2 V2 v HPS2.out); have H2 : Hid _ := h2; have HD2 : Hid _ := hD2; have HZ2 : Hid _ := hz2; clear h2 hst2 hD2 hz2) | (go_at_call 11; refine Calls.mono (both_radv HR2.out HO.out x hL) ?_; rintro e w3 ⟨z3, D3, v3, rfl, hD3, hz3, h3, hst3⟩; have hDD : D3 = D2 := AdvA.uniq hD3 HD2.out; rw [hDD] at hz3; have HW3 : Hid _ := Wt.stR H2.out HR2.out hst3; have HPS3 : Hid (PSt w1 w3 p m q V V2 v v3) := HPS2.out.trans (PSt.ofR hst3 _ _ _); have hz23 : OwnZ w3 w1.heap.size z2 (D2.map Tm.id) := rowZ_kept HZ2.out (fun b hb => hst3.chg.block b (World.ownsRow.lt HZ2.out b hb).2 (fun h9 => rowZ_noR HZ2.out HR2.out hb h9)); obtain ⟨g0, g1, g2, g3⟩ := cell4 (HKP.out w3 V2 v3 HPS3.out); have H3 : Hid _ := h3; have HZ3 : Hid _ := hz3; have HZ23 : Hid _ := hz23; clear h3 hst3 hD3 hz3 hz23 hDD) | (go_at_call 13; refine Calls.mono (same_t z2 z3 (D2.map Tm.id) (D2.map Tm.id) w3 (OwnZ.rd HZ23.out) (OwnZ.rd HZ3.out) (by rw [List.length_map]; exact HDL.out D2 HD2.out) (by rw [List.length_map]; exact HDL.out D2 HD2.out)) ?_; rintro e w4 ⟨rfl, hd4⟩; have hb4 : Below w3.heap.size w3 w4 := hd4.below _; have HW4 : Hid _ := Wt.below HW3.out hb4; have HR4 : Hid _ := RfW.below H3.out hb4; have HPS4 : Hid (PSt w1 w4 p m q V V2 v v3) := HPS3.out.trans (PSt.below hb4 _ _ _ _ _); obtain ⟨i0, i1, i2, i3⟩ := cell4 (HKP.out w4 V2 v3 HPS4.out); have hdec : decide (D2.map Tm.id = D2.map Tm.id) = true := decide_eq_true rfl; rw [hdec]; clear hd4 hb4 hdec)
        go_wp2_with fail
        refine hK.out _ _ (by first | exact e3 | exact f3 | exact g3 | exact i3) ?_
        clear hK K
        intro hHeld2
        clear hHeld
        have hHeld := hHeld2
        clear hHeld2
        try simp only [Act.put, List.setIfInBounds_toArray, List.set_cons_zero, List.set_cons_succ]
        refine run_at (i := 8) rfl (by kernel_rfl) (by rfl) (fun K hK => ?_)
        simp only [List.getElem_toArray, List.getElem_cons_zero, List.getElem_cons_succ]
        go_simp
        first | (go_at_call 10; refine Calls.mono (both_adv (Wt.below HW1.out (Below.refl _ _).drew) x hL (TabZ.below HT1.out (Below.refl _ _).drew)) ?_; rintro e w2 ⟨z2, D2, V2, rfl, hD2, hz2, h2, hst2⟩; have HR2 : Hid _ := RfW.stW (RfW.below HR1.out (Below.refl _ _).drew) (Wt.below HW1.out (Below.refl _ _).drew) hst2; have HPS2 : Hid (PSt w1 w2 p m q V V2 v v) := (PSt.below (Below.refl _ _).drew _ _ _ _ _).trans (PSt.ofW hst2 q v); obtain ⟨f0, f1, f2, f3⟩ := cell4 (HKP.out w2 V2 v HPS2.out); have H2 : Hid _ := h2; have HD2 : Hid _ := hD2; have HZ2 : Hid _ := hz2; clear h2 hst2 hD2 hz2) | (go_at_call 11; refine Calls.mono (both_radv HR2.out HO.out x hL) ?_; rintro e w3 ⟨z3, D3, v3, rfl, hD3, hz3, h3, hst3⟩; have hDD : D3 = D2 := AdvA.uniq hD3 HD2.out; rw [hDD] at hz3; have HW3 : Hid _ := Wt.stR H2.out HR2.out hst3; have HPS3 : Hid (PSt w1 w3 p m q V V2 v v3) := HPS2.out.trans (PSt.ofR hst3 _ _ _); have hz23 : OwnZ w3 w1.heap.size z2 (D2.map Tm.id) := rowZ_kept HZ2.out (fun b hb => hst3.chg.block b (World.ownsRow.lt HZ2.out b hb).2 (fun h9 => rowZ_noR HZ2.out HR2.out hb h9)); obtain ⟨g0, g1, g2, g3⟩ := cell4 (HKP.out w3 V2 v3 HPS3.out); have H3 : Hid _ := h3; have HZ3 : Hid _ := hz3; have HZ23 : Hid _ := hz23; clear h3 hst3 hD3 hz3 hz23 hDD) | (go_at_call 13; refine Calls.mono (same_t z2 z3 (D2.map Tm.id) (D2.map Tm.id) w3 (OwnZ.rd HZ23.out) (OwnZ.rd HZ3.out) (by rw [List.length_map]; exact HDL.out D2 HD2.out) (by rw [List.length_map]; exact HDL.out D2 HD2.out)) ?_; rintro e w4 ⟨rfl, hd4⟩; have hb4 : Below w3.heap.size w3 w4 := hd4.below _; have HW4 : Hid _ := Wt.below HW3.out hb4; have HR4 : Hid _ := RfW.below H3.out hb4; have HPS4 : Hid (PSt w1 w4 p m q V V2 v v3) := HPS3.out.trans (PSt.below hb4 _ _ _ _ _); obtain ⟨i0, i1, i2, i3⟩ := cell4 (HKP.out w4 V2 v3 HPS4.out); have hdec : decide (D2.map Tm.id = D2.map Tm.id) = true := decide_eq_true rfl; rw [hdec]; clear hd4 hb4 hdec)
        go_wp2_with fail
        refine hK.out _ _ (by first | exact e3 | exact f3 | exact g3 | exact i3) ?_
        clear hK K
        intro hHeld2
        clear hHeld
        have hHeld := hHeld2
        clear hHeld2
        try simp only [Act.put, List.setIfInBounds_toArray, List.set_cons_zero, List.set_cons_succ]
        refine take_at (i := 9) 6 (v := ?_) rfl rfl (by kernel_rfl) (by kernel_rfl) (by kernel_rfl) (fun _ _ _ h => h) (by rfl) ?_ hHeld ?_
        rotate_left
        · (intro w hSw; (try dsimp only at hSw); go_simp; try with_reducible rfl)
        simp only [Act.put, List.setIfInBounds_toArray, List.set_cons_zero, List.set_cons_succ]
        refine wpAnyH_done (by kernel_rfl) ?_ _
        refine NoPanic.normal ?_
        go_wp2
        go_ret
        exact ⟨rfl, _, _, _, V2, v3, HW4.out, HR4.out, HPS1.out.trans HPS4.out, Nat.le_succ _, Nat.le_trans (advL_len _ _ _) (Nat.le_succ _)⟩
      · have hk3b : (kind == 3) = false := by simp [hk3]
        go_wp2
        rw [← hw1]
        go_ret
        exact ⟨rfl, N, S, L, V, v, HW1.out, HR1.out, HPS1.out, Nat.le_succ _, Nat.le_succ _⟩
end
end Go.Proofs.YtnfikcegmicooabDoor
