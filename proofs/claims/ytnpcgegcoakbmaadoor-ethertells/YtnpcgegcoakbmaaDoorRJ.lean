import Derived.Test.YtnpcgegcoakbmaaDoorRI
namespace Go.Proofs.YtnpcgegcoakbmaaDoor
set_option linter.unusedVariables false
set_option linter.unusedSimpArgs false
open Go.RowKit
section
variable {w w' : World} {p R : Nat} {v : Value} {E : List Dc} {L : List Dgm}
set_option maxRecDepth 20000 in
set_option maxHeartbeats 3200000 in
theorem rdouble_t (h : Wy SR w p R v E L) (i : Int) :
    Calls Tryd.prog 38 #[.pointer (some ⟨p, 0, none⟩), .int .i64 i] w fun e w' => e = .returned (.int .i64 (dblE R L i)) ∧ ∃ v' E', Wy SR w' p R v' E' (dblL R L i) ∧ WSt w w' p v E v' E' := by
  have H : Hid _ := at_t h i
  have HW : Hid _ := h
  by_cases hin : 0 ≤ i ∧ i < (L.length : Int)
  · have HD : Hid (decide (0 ≤ i ∧ i < (L.length : Int)) = true) := decide_eq_true hin
    obtain ⟨k, rfl⟩ : ∃ k : Nat, i = (k : Int) := ⟨i.toNat, by omega⟩
    have hk : k < L.length := by omega
    obtain ⟨g, c, hv, -, -, -, -⟩ := h.row.one (by rw [h.len]; omega)
    rw [h.len] at hv
    obtain ⟨N, hN⟩ : ∃ N, N = L.length := ⟨_, rfl⟩
    rw [← hN] at hv
    subst hv
    have d0 := h.c0
    have d1 := h.c1
    by_cases hr : L.length = R
    · have HE : Hid (dblE R L k = 2) := by unfold Hid dblE; rw [if_pos hin, if_pos hr]
      have HX : Hid (dblL R L k = L) := by unfold Hid dblL; rw [if_pos hin, if_pos hr]
      have hdq : ((N : Int) == (R : Int)) = true := by simp; omega
      clear h hin hr hN hk
      go_enter Tryd.func38, Tryd.ntmps38
      go_wp2_with (go_at_call 45; refine Calls.mono H.out ?_; rintro e w' ⟨rfl, hq⟩; have hq := hq.symm; subst hq; rw [HD.out])
      go_quiet (fail)
      go_wp2
      go_ret
      rw [HE.out, HX.out]
      exact ⟨rfl, _, E, HW.out.below (below_drewN _ _), WSt.below (below_drewN _ _) _ _ _⟩
    · have HE : Hid (dblE R L k = 0) := by unfold Hid dblE; rw [if_pos hin, if_neg hr]
      obtain ⟨d, hd⟩ : ∃ d, L[k]? = some d := ⟨_, List.getElem?_eq_getElem hk⟩
      have HDK : Hid _ := hd
      have HX : Hid (dblL R L k = L ++ [d]) := by unfold Hid dblL; rw [if_pos hin, if_neg hr, Int.toNat_natCast, hd]; rfl
      have hdq : ((N : Int) == (R : Int)) = false := by simp; omega
      have HR : Hid (L.length + 1 ≤ R) := by have := h.lr; unfold Hid; omega
      have hNm : N ≤ 1024 := by rw [hN]; have := h.lr; have := h.r1; omega
      have hk0 : (0 : Int) ≤ (k : Int) := by omega
      have hkI : (k : Int) < (N : Int) := by omega
      have hkn : k < N := by omega
      have hkm : k < 1024 := by omega
      have HNL : Hid _ := hN
      clear h hin hr hN hk hd
      go_enter Tryd.func38, Tryd.ntmps38
      go_wp2_with (go_at_call 45; refine Calls.mono H.out ?_; rintro e w' ⟨rfl, hq⟩; have hq := hq.symm; subst hq; rw [HD.out])
      go_quiet (fail)
      go_wp2
      obtain ⟨w1, hw1⟩ : ∃ w1, w1 = w.drewN nq := ⟨_, rfl⟩
      have hb1 : Below w.heap.size w w1 := by rw [hw1]; exact below_drewN _ _
      rw [← hw1]
      clear hw1 d0 d1
      have h1 := HW.out.below hb1
      obtain ⟨⟨tn, ea, en, ec⟩, hmem, x0, x1, hels⟩ := h1.rat rfl HDK.out
      obtain ⟨htn, hby, hxl⟩ := hels
      have hn := hby.n
      simp only at hn htn
      subst hn
      have HBY : Hid _ := hby
      have HTN : Hid _ := htn
      have HW1 : Hid _ := h1
      have HST1 : Hid _ := WSt.below hb1 p (.slice (some ⟨g, 0, none⟩) N c) E
      have HC1 : Hid (∀ u, Below w1.heap.size w1 u → u.cell? ⟨p, 1, none⟩ = some (.slice (some ⟨g, 0, none⟩) N c) ∧ u.cell? ⟨g, k * 2, none⟩ = some (.slice ea d.xs.length ec) ∧ u.cell? ⟨g, k * 2 + 1, none⟩ = some (.bool tn)) := fun u hu => ⟨(h1.below hu).c1, (hu.cell (World.block_lt_of_cell? w1 _ x0)).trans x0, (hu.cell (World.block_lt_of_cell? w1 _ x1)).trans x1⟩
      have HOW : Hid (∀ u, Below w1.heap.size w1 u → OwnG KR u 0 (.slice (some ⟨g, 0, none⟩) N c) E) := fun u hu => h1.row.below hu
      have HQ : Hid (∀ u u', Below w1.heap.size w1 u → u.grownBy u' (Value.slice (some ⟨g, 0, none⟩) N c).ownBlock → u'.cell? ⟨p, 1, none⟩ = some (.slice (some ⟨g, 0, none⟩) N c) ∧ u'.frozen? ⟨p, 1, none⟩ = false) := fun u u' hu hg => by
        have h9 := h1.below hu
        have h8 : u'.heap[p]? = u.heap[p]? := hg.block p (h9.lt (.inl rfl)) (fun e => h9.pv e.symm)
        exact ⟨(World.cell?_of_block h8).trans h9.c1, (World.frozen?_of_block h8).trans (h9.fz 1)⟩
      have HLE : Hid (N = E.length) := by rw [h1.len]; exact HNL.out
      clear h1 hb1 hby hmem htn x0 x1
      refine wp_region_noPanic ?_
      refine wp_region_late_drew (S := (fun u => Below w1.heap.size w1 u)) (X := [24, 25, 26, 27]) (by kernel_rfl) (by first | exact (Below.refl _ _).drew | exact HB2.out | exact al HB2.out _) (fun hHeld => ?_)
      refine take_atA (i := 0) 19 (v := ?_) rfl rfl (by kernel_rfl) (by kernel_rfl) (by kernel_rfl) (by decide) (fun _ _ _ h => h) (by rfl) ?_ hHeld ?_
      rotate_left
      · (intro w; go_simp; try with_reducible rfl)
      simp only [Act.put, List.setIfInBounds_toArray, List.set_cons_zero, List.set_cons_succ]
      refine take_atA (i := 1) 20 (v := ?_) rfl rfl (by kernel_rfl) (by kernel_rfl) (by kernel_rfl) (by decide) (fun _ _ _ h => h) (by rfl) ?_ hHeld ?_
      rotate_left
      · (intro w; go_simp; try with_reducible rfl)
      simp only [Act.put, List.setIfInBounds_toArray, List.set_cons_zero, List.set_cons_succ]
      refine take_atA (i := 2) 21 (v := ?_) rfl rfl (by kernel_rfl) (by kernel_rfl) (by kernel_rfl) (by decide) (fun _ _ _ h => h) (by rfl) ?_ hHeld ?_
      rotate_left
      · (intro w; go_simp; try with_reducible rfl)
      simp only [Act.put, List.setIfInBounds_toArray, List.set_cons_zero, List.set_cons_succ]
      refine take_atA (i := 3) 22 (v := ?_) rfl rfl (by kernel_rfl) (by kernel_rfl) (by kernel_rfl) (by decide) (fun _ _ _ h => h) (by rfl) ?_ hHeld ?_
      rotate_left
      · (intro w; go_simp; try with_reducible rfl)
      simp only [Act.put, List.setIfInBounds_toArray, List.set_cons_zero, List.set_cons_succ]
      refine take_atL (i := 4) 23 (v := .slice (some ⟨g, 0, none⟩) N c) rfl rfl (by kernel_rfl) (by kernel_rfl) (by kernel_rfl) (by kernel_rfl) (fun _ _ _ h => h) (by rfl) ?_ hHeld ?_
      · (intro w hSw; obtain ⟨hc9, -⟩ := HC1.out _ hSw; go_simp; try with_reducible rfl)
      simp only [Act.put, List.setIfInBounds_toArray, List.set_cons_zero, List.set_cons_succ]
      refine take_atA (i := 5) 24 (v := ?_) rfl rfl (by kernel_rfl) (by kernel_rfl) (by kernel_rfl) (by decide) (fun _ _ _ h => h) (by rfl) ?_ hHeld ?_
      rotate_left
      · (intro w; go_simp; try with_reducible rfl)
      simp only [Act.put, List.setIfInBounds_toArray, List.set_cons_zero, List.set_cons_succ]
      refine take_atA (i := 6) 25 (v := ?_) rfl rfl (by kernel_rfl) (by kernel_rfl) (by kernel_rfl) (by decide) (fun _ _ _ h => h) (by rfl) ?_ hHeld ?_
      rotate_left
      · (intro w; go_simp; try with_reducible rfl)
      simp only [Act.put, List.setIfInBounds_toArray, List.set_cons_zero, List.set_cons_succ]
      refine take_atA (i := 7) 26 (v := ?_) rfl rfl (by kernel_rfl) (by kernel_rfl) (by kernel_rfl) (by decide) (fun _ _ _ h => h) (by rfl) ?_ hHeld ?_
      rotate_left
      · (intro w; go_simp; try with_reducible rfl)
      simp only [Act.put, List.setIfInBounds_toArray, List.set_cons_zero, List.set_cons_succ]
      refine take_atL (i := 8) 27 (v := .slice (some ⟨g, 0, none⟩) N c) rfl rfl (by kernel_rfl) (by kernel_rfl) (by kernel_rfl) (by kernel_rfl) (fun _ _ _ h => h) (by rfl) ?_ hHeld ?_
      · (intro w hSw; obtain ⟨hc9, -⟩ := HC1.out _ hSw; go_simp; try with_reducible rfl)
      simp only [Act.put, List.setIfInBounds_toArray, List.set_cons_zero, List.set_cons_succ]
      refine take_atA (i := 9) 28 (v := ?_) rfl rfl (by kernel_rfl) (by kernel_rfl) (by kernel_rfl) (by decide) (fun _ _ _ h => h) (by rfl) ?_ hHeld ?_
      rotate_left
      · (intro w; go_simp; try with_reducible rfl)
      simp only [Act.put, List.setIfInBounds_toArray, List.set_cons_zero, List.set_cons_succ]
      refine take_atA (i := 10) 29 (v := ?_) rfl rfl (by kernel_rfl) (by kernel_rfl) (by kernel_rfl) (by decide) (fun _ _ _ h => h) (by rfl) ?_ hHeld ?_
      rotate_left
      · (intro w; go_simp; try with_reducible rfl)
      simp only [Act.put, List.setIfInBounds_toArray, List.set_cons_zero, List.set_cons_succ]
      refine take_atA (i := 11) 30 (v := ?_) rfl rfl (by kernel_rfl) (by kernel_rfl) (by kernel_rfl) (by decide) (fun _ _ _ h => h) (by rfl) ?_ hHeld ?_
      rotate_left
      · (intro w; go_simp; try with_reducible rfl)
      simp only [Act.put, List.setIfInBounds_toArray, List.set_cons_zero, List.set_cons_succ]
      refine take_atL (i := 12) 31 (v := .slice ea d.xs.length ec) rfl rfl (by kernel_rfl) (by kernel_rfl) (by kernel_rfl) (by kernel_rfl) (fun _ _ _ h => h) (by rfl) ?_ hHeld ?_
      · (intro w hSw; obtain ⟨-, hc9, -⟩ := HC1.out _ hSw; go_simp; try with_reducible rfl)
      simp only [Act.put, List.setIfInBounds_toArray, List.set_cons_zero, List.set_cons_succ]
      refine take_atA (i := 14) 33 (v := ?_) rfl rfl (by kernel_rfl) (by kernel_rfl) (by kernel_rfl) (by decide) (fun _ _ _ h => h) (by rfl) ?_ hHeld ?_
      rotate_left
      · (intro w; go_simp; try with_reducible rfl)
      simp only [Act.put, List.setIfInBounds_toArray, List.set_cons_zero, List.set_cons_succ]
      refine take_atA (i := 18) 37 (v := ?_) rfl rfl (by kernel_rfl) (by kernel_rfl) (by kernel_rfl) (by decide) (fun _ _ _ h => h) (by rfl) ?_ hHeld ?_
      rotate_left
      · (intro w; go_simp; try with_reducible rfl)
      simp only [Act.put, List.setIfInBounds_toArray, List.set_cons_zero, List.set_cons_succ]
      refine take_atA (i := 15) 34 (v := ?_) rfl rfl (by kernel_rfl) (by kernel_rfl) (by kernel_rfl) (by decide) (fun _ _ _ h => h) (by rfl) ?_ hHeld ?_
      rotate_left
      · (intro w; go_simp; try with_reducible rfl)
      simp only [Act.put, List.setIfInBounds_toArray, List.set_cons_zero, List.set_cons_succ]
      refine take_atA (i := 16) 35 (v := ?_) rfl rfl (by kernel_rfl) (by kernel_rfl) (by kernel_rfl) (by decide) (fun _ _ _ h => h) (by rfl) ?_ hHeld ?_
      rotate_left
      · (intro w; go_simp; try with_reducible rfl)
      simp only [Act.put, List.setIfInBounds_toArray, List.set_cons_zero, List.set_cons_succ]
      refine take_atL (i := 17) 36 (v := .slice (some ⟨g, 0, none⟩) N c) rfl rfl (by kernel_rfl) (by kernel_rfl) (by kernel_rfl) (by kernel_rfl) (fun _ _ _ h => h) (by rfl) ?_ hHeld ?_
      · (intro w hSw; obtain ⟨hc9, -⟩ := HC1.out _ hSw; go_simp; try with_reducible rfl)
      simp only [Act.put, List.setIfInBounds_toArray, List.set_cons_zero, List.set_cons_succ]
      refine take_atA (i := 19) 38 (v := ?_) rfl rfl (by kernel_rfl) (by kernel_rfl) (by kernel_rfl) (by decide) (fun _ _ _ h => h) (by rfl) ?_ hHeld ?_
      rotate_left
      · (intro w; go_simp; try with_reducible rfl)
      simp only [Act.put, List.setIfInBounds_toArray, List.set_cons_zero, List.set_cons_succ]
      refine take_atA (i := 20) 39 (v := ?_) rfl rfl (by kernel_rfl) (by kernel_rfl) (by kernel_rfl) (by decide) (fun _ _ _ h => h) (by rfl) ?_ hHeld ?_
      rotate_left
      · (intro w; go_simp; try with_reducible rfl)
      simp only [Act.put, List.setIfInBounds_toArray, List.set_cons_zero, List.set_cons_succ]
      refine take_atL (i := 21) 40 (v := .bool tn) rfl rfl (by kernel_rfl) (by kernel_rfl) (by kernel_rfl) (by kernel_rfl) (fun _ _ _ h => h) (by rfl) ?_ hHeld ?_
      · (intro w hSw; obtain ⟨-, -, hc9⟩ := HC1.out _ hSw; go_simp; try with_reducible rfl)
      simp only [Act.put, List.setIfInBounds_toArray, List.set_cons_zero, List.set_cons_succ]
      refine run_atL (i := 13) rfl (by kernel_rfl) (by rfl) (fun K hK => ?_)
      simp only [List.getElem_toArray, List.getElem_cons_zero, List.getElem_cons_succ]
      go_simp
      first | (go_at_call 44; refine Calls.mono (copied_t ea _ ec d.xs rfl (HBY.out.below hHeld).rd HBY.out.nil (by omega)) ?_; rintro e w2 ⟨u2, rfl, hown2, hb2'⟩; have hb2 : Below w1.heap.size w1 w2 := ⟨hb2'.os, hb2'.tape, hb2'.output, hb2'.size, hb2'.block⟩; clear hb2'; obtain ⟨a2, c2, hu2, -, -, -, -, -⟩ := hown2.val; subst hu2; have HO2 : Hid _ := hown2; have HB2 : Hid _ := hb2; clear hown2 hb2) | (refine wpo_appG1 (K := KR) _ _ rfl 0 (.slice (some ⟨g, 0, none⟩) N c) E ⟨tn, a2, d.xs.length, c2⟩ N HLE.out ⟨w2.heap.size, 0, none⟩ 1 rfl (HOW.out _ (al HB2.out _)) rfl (rdG_lit (heap_alloc_new _ _) rfl) (by show (N + 1) * 32 ≤ _; omega) (by simp only [maxLen]; omega) (Nat.zero_le _) ?_; intro g5 cap5 w5 hown5 hg5 hat5; obtain ⟨hc5, hf5⟩ := HQ.out _ _ (al HB2.out _) hg5; have HO5 : Hid _ := hown5; have HG5 : Hid _ := hg5; have HT5 : Hid _ := hat5; clear hown5 hg5 hat5)
      go_wp2_with fail
      refine hK.out _ _ (by first | exact (Below.refl _ _).drew | exact HB2.out | exact al HB2.out _) ?_
      clear hK K
      intro hHeld2
      clear hHeld
      have hHeld := hHeld2
      clear hHeld2
      try simp only [Act.put, List.setIfInBounds_toArray, List.set_cons_zero, List.set_cons_succ]
      refine take_atA (i := 22) 41 (v := ?_) rfl rfl (by kernel_rfl) (by kernel_rfl) (by kernel_rfl) (by decide) (fun _ _ _ h => h) (by rfl) ?_ hHeld ?_
      rotate_left
      · (intro w; go_simp; try with_reducible rfl)
      simp only [Act.put, List.setIfInBounds_toArray, List.set_cons_zero, List.set_cons_succ]
      refine run_atL (i := 23) rfl (by kernel_rfl) (by rfl) (fun K hK => ?_)
      simp only [List.getElem_toArray, List.getElem_cons_zero, List.getElem_cons_succ]
      go_simp
      go_wp2_with fail
      refine hK.out _ _ (by first | exact (Below.refl _ _).drew | exact HB2.out | exact al HB2.out _) ?_
      clear hK K
      intro hHeld2
      clear hHeld
      have hHeld := hHeld2
      clear hHeld2
      try simp only [Act.put, List.setIfInBounds_toArray, List.set_cons_zero, List.set_cons_succ]
      refine run_atLate (i := 24) rfl (by kernel_rfl) (by decide) (by rfl) (fun K hK => ?_)
      simp only [List.getElem_toArray, List.getElem_cons_zero, List.getElem_cons_succ]
      first | (go_at_call 44; refine Calls.mono (copied_t ea _ ec d.xs rfl (HBY.out.below hHeld).rd HBY.out.nil (by omega)) ?_; rintro e w2 ⟨u2, rfl, hown2, hb2'⟩; have hb2 : Below w1.heap.size w1 w2 := ⟨hb2'.os, hb2'.tape, hb2'.output, hb2'.size, hb2'.block⟩; clear hb2'; obtain ⟨a2, c2, hu2, -, -, -, -, -⟩ := hown2.val; subst hu2; have HO2 : Hid _ := hown2; have HB2 : Hid _ := hb2; clear hown2 hb2) | (refine wpo_appG1 (K := KR) _ _ rfl 0 (.slice (some ⟨g, 0, none⟩) N c) E ⟨tn, a2, d.xs.length, c2⟩ N HLE.out ⟨w2.heap.size, 0, none⟩ 1 rfl (HOW.out _ (al HB2.out _)) rfl (rdG_lit (heap_alloc_new _ _) rfl) (by show (N + 1) * 32 ≤ _; omega) (by simp only [maxLen]; omega) (Nat.zero_le _) ?_; intro g5 cap5 w5 hown5 hg5 hat5; obtain ⟨hc5, hf5⟩ := HQ.out _ _ (al HB2.out _) hg5; have HO5 : Hid _ := hown5; have HG5 : Hid _ := hg5; have HT5 : Hid _ := hat5; clear hown5 hg5 hat5)
      refine hK.out _ _ ?_
      clear hK K
      try simp only [Act.put, List.setIfInBounds_toArray, List.set_cons_zero, List.set_cons_succ]
      refine val_atLate (i := 25) 44 (v := ?_) rfl rfl (by kernel_rfl) (by decide) (by rfl) ?_ ?_
      rotate_left
      · (go_simp; try with_reducible rfl)
      simp only [Act.put, List.setIfInBounds_toArray, List.set_cons_zero, List.set_cons_succ]
      refine val_atLate (i := 26) 45 (v := ?_) rfl rfl (by kernel_rfl) (by decide) (by rfl) ?_ ?_
      rotate_left
      · (go_simp; try with_reducible rfl)
      simp only [Act.put, List.setIfInBounds_toArray, List.set_cons_zero, List.set_cons_succ]
      refine run_atLate (i := 27) rfl (by kernel_rfl) (by decide) (by rfl) (fun K hK => ?_)
      simp only [List.getElem_toArray, List.getElem_cons_zero, List.getElem_cons_succ]
      go_simp
      go_wp2_with fail
      refine hK.out _ _ ?_
      clear hK K
      try simp only [Act.put, List.setIfInBounds_toArray, List.set_cons_zero, List.set_cons_succ]
      refine doneL (by kernel_rfl) ?_ _
      refine NoPanic.normal ?_
      go_wp2
      go_ret
      rw [HE.out, HX.out]
      have hch : Chg (fun b => (Value.slice (some ⟨g, 0, none⟩) N c).ownBlock = some b) w1 w5 := (Chg.of_below (al HB2.out _)).trans (Chg.of_grown HG5.out (F := fun b => (Value.slice (some ⟨g, 0, none⟩) N c).ownBlock = some b) (fun b e => e)) (fun b e => .inl e)
      obtain ⟨hbv, hbb⟩ := ByV.of_own tn HO2.out
      have hbv5 : ByV w5 ⟨tn, a2, d.xs.length, c2⟩ d.xs := by
        have h9 : ByV (w2.alloc (.cells #[.slice a2 d.xs.length c2, .bool tn] KR.t)) ⟨tn, a2, d.xs.length, c2⟩ d.xs := hbv.below (al (Below.refl _ _) _)
        refine (HW1.out.below (al HB2.out _)).elk ?_ h9
        exact (Chg.of_grown HG5.out (F := fun b => (Value.slice (some ⟨g, 0, none⟩) N c).ownBlock = some b) (fun b e => e)).mono (fun b e => .inr e)
      have hO5 : OwnG KR w5 0 (.slice (some ⟨g5, 0, none⟩) (N + 1) cap5) (E ++ [⟨tn, a2, d.xs.length, c2⟩]) := HO5.out
      obtain ⟨h8, h9⟩ := HW1.out.setRow hch (v' := .slice (some ⟨g5, 0, none⟩) (N + 1) cap5) (E' := E ++ [⟨tn, a2, d.xs.length, c2⟩]) (L' := L ++ [d]) hO5 (fun b e => by
        cases e
        rcases HT5.out with h9 | h9
        · exact .inl h9
        · exact .inr (Nat.le_trans (al HB2.out _).size h9)) (by rw [List.length_append, List.length_append, HW1.out.len]; rfl) (HW1.out.elsPush hch ⟨HTN.out, hbv5, hxl⟩) (fun e he ad ha => by
          rcases List.mem_append.1 he with h9 | h9
          · exact .inl ⟨e, h9, ha⟩
          · simp at h9
            subst h9
            exact .inr (Nat.le_trans (by show w1.heap.size ≤ _; exact Nat.le_refl _) (hbb ad ha))) (by rw [List.length_append]; exact HR.out)
      exact ⟨rfl, _, _, h8, HST1.out.trans h9⟩
  · have HD : Hid (decide (0 ≤ i ∧ i < (L.length : Int)) = false) := decide_eq_false hin
    have HE : Hid (dblE R L i = 4) := by unfold Hid dblE; rw [if_neg hin]
    have HX : Hid (dblL R L i = L) := by unfold Hid dblL; rw [if_neg hin]
    clear h hin
    go_enter Tryd.func38, Tryd.ntmps38
    go_wp2_with (go_at_call 45; refine Calls.mono H.out ?_; rintro e w' ⟨rfl, hq⟩; have hq := hq.symm; subst hq; rw [HD.out])
    go_ret
    rw [HE.out, HX.out]
    exact ⟨rfl, v, E, HW.out, WSt.refl _ _ _ _⟩
set_option maxRecDepth 20000 in
set_option maxHeartbeats 3200000 in
theorem rturn_t (h : Wy SR w p R v E L) (i at_ : Int) (m : Nat) (hm : m < 4294967296) (ha0 : -9223372036854775808 ≤ at_) (ha1 : at_ ≤ 9223372036854775807) :
    Calls Tryd.prog 39 #[.pointer (some ⟨p, 0, none⟩), .int .i64 i, .int .i64 at_, .int .u32 (m : Int)] w fun e w' => e = .returned (.int .i64 (trnE L i at_ m)) ∧ ∃ v' E', Wy SR w' p R v' E' (trnL L i at_ m) ∧ WSt w w' p v E v' E' := by
  have H : Hid _ := at_t h i
  have HW : Hid _ := h
  by_cases hin : 0 ≤ i ∧ i < (L.length : Int)
  · have HD : Hid (decide (0 ≤ i ∧ i < (L.length : Int)) = true) := decide_eq_true hin
    obtain ⟨k, rfl⟩ : ∃ k : Nat, i = (k : Int) := ⟨i.toNat, by omega⟩
    have hk : k < L.length := by omega
    obtain ⟨d, hd⟩ : ∃ d, L[k]? = some d := ⟨_, List.getElem?_eq_getElem hk⟩
    have HDK : Hid _ := hd
    have hE1 : trnE L k at_ m = if wOk d.xs.length at_ m then (if d.tn then 3 else 0) else 1 := by unfold trnE; rw [if_pos hin, Int.toNat_natCast, hd]
    have hL1 : trnL L k at_ m = if wOk d.xs.length at_ m then (if d.tn then L else L.set k ⟨bst at_ m d.xs 32, true⟩) else L := by unfold trnL; rw [if_pos hin, Int.toNat_natCast, hd]
    have HE : Hid _ := hE1
    have HL : Hid _ := hL1
    obtain ⟨N, hN⟩ : ∃ N, N = L.length := ⟨_, rfl⟩
    have hNm : N ≤ 1024 := by rw [hN]; have := h.lr; have := h.r1; omega
    have hk0 : (0 : Int) ≤ (k : Int) := by omega
    have hkI : (k : Int) < (N : Int) := by omega
    have hkn : k < N := by omega
    have hkm : k < 1024 := by omega
    have HNL : Hid _ := hN
    obtain ⟨g, c, hv, -, -, -, -⟩ := h.row.one (by rw [h.len]; omega)
    rw [h.len, ← hN] at hv
    subst hv
    have d1 := h.c1
    obtain ⟨⟨tn, ea, en, ec⟩, hmem, x0, x1, hels⟩ := h.rat rfl hd
    obtain ⟨htn, hby, hxl⟩ := hels
    have hn := hby.n
    simp only at hn htn
    subst hn
    have HBY : Hid _ := hby
    have HTN : Hid _ := htn
    have HWI : Hid _ := rwithin_t (w := w) d.xs.length at_ m hxl hm ha0 ha1
    have HWK : Hid (wOk d.xs.length at_ m = (decide (m ≠ 0) && okB d.xs.length at_ m)) := rfl
    clear h hin hN hd hk hE1 hL1 hby hmem htn
    by_cases hm0 : m = 0
    · have HWO : Hid (wOk d.xs.length at_ m = false) := by unfold Hid; rw [HWK.out]; simp [hm0]
      have hmb : ((m : Int) == 0) = true := by simp [hm0]
      clear hm0
      go_enter Tryd.func39, Tryd.ntmps39
      go_wp2_with (first | (go_at_call 45; refine Calls.mono H.out ?_; rintro e w' ⟨rfl, hq⟩; have hq := hq.symm; subst hq; rw [HD.out]) | (go_at_call 46; refine Calls.mono HWI.out ?_; rintro e w' ⟨rfl, hq⟩; have hq := hq.symm; subst hq))
      go_ret
      rw [HE.out, HL.out, HWO.out]
      exact ⟨rfl, _, _, HW.out, WSt.refl _ _ _ _⟩
    · have hmb : ((m : Int) == 0) = false := by simp; omega
      have HWO : Hid (okB d.xs.length at_ m = wOk d.xs.length at_ m) := by unfold Hid; rw [HWK.out]; simp [hm0]
      clear hm0
      rcases hw : wOk d.xs.length at_ m with _ | _
      · have HW9 : Hid _ := hw
        clear hw
        go_enter Tryd.func39, Tryd.ntmps39
        go_wp2_with (first | (go_at_call 45; refine Calls.mono H.out ?_; rintro e w' ⟨rfl, hq⟩; have hq := hq.symm; subst hq; rw [HD.out]) | (go_at_call 46; refine Calls.mono HWI.out ?_; rintro e w' ⟨rfl, hq⟩; have hq := hq.symm; subst hq; rw [HWO.out, HW9.out]))
        go_ret
        rw [HE.out, HL.out, HW9.out]
        exact ⟨rfl, _, _, HW.out, WSt.refl _ _ _ _⟩
      · have HW9 : Hid _ := hw
        clear hw
        rcases tn with _ | _
        · have HC1 : Hid (∀ u, Below w.heap.size w u → u.cell? ⟨p, 1, none⟩ = some (.slice (some ⟨g, 0, none⟩) N c) ∧ u.cell? ⟨g, k * 2, none⟩ = some (.slice ea d.xs.length ec) ∧ u.cell? ⟨g, k * 2 + 1, none⟩ = some (.bool false) ∧ u.frozen? ⟨g, k * 2, none⟩ = false ∧ u.frozen? ⟨g, k * 2 + 1, none⟩ = false) := fun u hu => by
            have h9 := HW.out.below hu
            exact ⟨h9.c1, (hu.cell (World.block_lt_of_cell? w _ x0)).trans x0, (hu.cell (World.block_lt_of_cell? w _ x1)).trans x1, h9.row.fz _, h9.row.fz _⟩
          have hne : ¬ k * 2 + 1 = k * 2 := by omega
          go_enter Tryd.func39, Tryd.ntmps39
          go_wp2_with (first | (go_at_call 45; refine Calls.mono H.out ?_; rintro e w' ⟨rfl, hq⟩; have hq := hq.symm; subst hq; rw [HD.out]) | (go_at_call 46; refine Calls.mono HWI.out ?_; rintro e w' ⟨rfl, hq⟩; have hq := hq.symm; subst hq; rw [HWO.out, HW9.out]))
          refine wp_region_noPanic ?_
          refine wp_region_late_drew (S := (fun u => Below w.heap.size w u)) (X := [18]) (by kernel_rfl) (by first | exact (Below.refl _ _).drew | exact HB2.out) (fun hHeld => ?_)
          refine take_atA (i := 0) 38 (v := ?_) rfl rfl (by kernel_rfl) (by kernel_rfl) (by kernel_rfl) (by decide) (fun _ _ _ h => h) (by rfl) ?_ hHeld ?_
          rotate_left
          · (intro w; go_simp; try with_reducible rfl)
          simp only [Act.put, List.setIfInBounds_toArray, List.set_cons_zero, List.set_cons_succ]
          refine take_atA (i := 1) 39 (v := ?_) rfl rfl (by kernel_rfl) (by kernel_rfl) (by kernel_rfl) (by decide) (fun _ _ _ h => h) (by rfl) ?_ hHeld ?_
          rotate_left
          · (intro w; go_simp; try with_reducible rfl)
          simp only [Act.put, List.setIfInBounds_toArray, List.set_cons_zero, List.set_cons_succ]
          refine take_atA (i := 2) 40 (v := ?_) rfl rfl (by kernel_rfl) (by kernel_rfl) (by kernel_rfl) (by decide) (fun _ _ _ h => h) (by rfl) ?_ hHeld ?_
          rotate_left
          · (intro w; go_simp; try with_reducible rfl)
          simp only [Act.put, List.setIfInBounds_toArray, List.set_cons_zero, List.set_cons_succ]
          refine take_atL (i := 3) 41 (v := .slice (some ⟨g, 0, none⟩) N c) rfl rfl (by kernel_rfl) (by kernel_rfl) (by kernel_rfl) (by kernel_rfl) (fun _ _ _ h => h) (by rfl) ?_ hHeld ?_
          · (intro w hSw; obtain ⟨hc9, -⟩ := HC1.out _ hSw; go_simp; try with_reducible rfl)
          simp only [Act.put, List.setIfInBounds_toArray, List.set_cons_zero, List.set_cons_succ]
          refine take_atA (i := 4) 42 (v := ?_) rfl rfl (by kernel_rfl) (by kernel_rfl) (by kernel_rfl) (by decide) (fun _ _ _ h => h) (by rfl) ?_ hHeld ?_
          rotate_left
          · (intro w; go_simp; try with_reducible rfl)
          simp only [Act.put, List.setIfInBounds_toArray, List.set_cons_zero, List.set_cons_succ]
          refine take_atA (i := 5) 43 (v := ?_) rfl rfl (by kernel_rfl) (by kernel_rfl) (by kernel_rfl) (by decide) (fun _ _ _ h => h) (by rfl) ?_ hHeld ?_
          rotate_left
          · (intro w; go_simp; try with_reducible rfl)
          simp only [Act.put, List.setIfInBounds_toArray, List.set_cons_zero, List.set_cons_succ]
          refine take_atA (i := 6) 44 (v := ?_) rfl rfl (by kernel_rfl) (by kernel_rfl) (by kernel_rfl) (by decide) (fun _ _ _ h => h) (by rfl) ?_ hHeld ?_
          rotate_left
          · (intro w; go_simp; try with_reducible rfl)
          simp only [Act.put, List.setIfInBounds_toArray, List.set_cons_zero, List.set_cons_succ]
          refine take_atA (i := 7) 45 (v := ?_) rfl rfl (by kernel_rfl) (by kernel_rfl) (by kernel_rfl) (by decide) (fun _ _ _ h => h) (by rfl) ?_ hHeld ?_
          rotate_left
          · (intro w; go_simp; try with_reducible rfl)
          simp only [Act.put, List.setIfInBounds_toArray, List.set_cons_zero, List.set_cons_succ]
          refine take_atL (i := 8) 46 (v := .slice (some ⟨g, 0, none⟩) N c) rfl rfl (by kernel_rfl) (by kernel_rfl) (by kernel_rfl) (by kernel_rfl) (fun _ _ _ h => h) (by rfl) ?_ hHeld ?_
          · (intro w hSw; obtain ⟨hc9, -⟩ := HC1.out _ hSw; go_simp; try with_reducible rfl)
          simp only [Act.put, List.setIfInBounds_toArray, List.set_cons_zero, List.set_cons_succ]
          refine take_atA (i := 9) 47 (v := ?_) rfl rfl (by kernel_rfl) (by kernel_rfl) (by kernel_rfl) (by decide) (fun _ _ _ h => h) (by rfl) ?_ hHeld ?_
          rotate_left
          · (intro w; go_simp; try with_reducible rfl)
          simp only [Act.put, List.setIfInBounds_toArray, List.set_cons_zero, List.set_cons_succ]
          refine take_atA (i := 10) 48 (v := ?_) rfl rfl (by kernel_rfl) (by kernel_rfl) (by kernel_rfl) (by decide) (fun _ _ _ h => h) (by rfl) ?_ hHeld ?_
          rotate_left
          · (intro w; go_simp; try with_reducible rfl)
          simp only [Act.put, List.setIfInBounds_toArray, List.set_cons_zero, List.set_cons_succ]
          refine take_atA (i := 11) 49 (v := ?_) rfl rfl (by kernel_rfl) (by kernel_rfl) (by kernel_rfl) (by decide) (fun _ _ _ h => h) (by rfl) ?_ hHeld ?_
          rotate_left
          · (intro w; go_simp; try with_reducible rfl)
          simp only [Act.put, List.setIfInBounds_toArray, List.set_cons_zero, List.set_cons_succ]
          refine take_atL (i := 12) 50 (v := .slice ea d.xs.length ec) rfl rfl (by kernel_rfl) (by kernel_rfl) (by kernel_rfl) (by kernel_rfl) (fun _ _ _ h => h) (by rfl) ?_ hHeld ?_
          · (intro w hSw; obtain ⟨-, hc9, -⟩ := HC1.out _ hSw; go_simp; try with_reducible rfl)
          simp only [Act.put, List.setIfInBounds_toArray, List.set_cons_zero, List.set_cons_succ]
          refine take_atA (i := 13) 51 (v := ?_) rfl rfl (by kernel_rfl) (by kernel_rfl) (by kernel_rfl) (by decide) (fun _ _ _ h => h) (by rfl) ?_ hHeld ?_
          rotate_left
          · (intro w; go_simp; try with_reducible rfl)
          simp only [Act.put, List.setIfInBounds_toArray, List.set_cons_zero, List.set_cons_succ]
          refine take_atA (i := 14) 52 (v := ?_) rfl rfl (by kernel_rfl) (by kernel_rfl) (by kernel_rfl) (by decide) (fun _ _ _ h => h) (by rfl) ?_ hHeld ?_
          rotate_left
          · (intro w; go_simp; try with_reducible rfl)
          simp only [Act.put, List.setIfInBounds_toArray, List.set_cons_zero, List.set_cons_succ]
          refine run_atL (i := 15) rfl (by kernel_rfl) (by rfl) (fun K hK => ?_)
          simp only [List.getElem_toArray, List.getElem_cons_zero, List.getElem_cons_succ]
          go_simp
          first | (go_at_call 47; refine Calls.mono (refBurst_n ea _ ec d.xs rfl at_ m _ (HBY.out.below hHeld).rd HBY.out.nil (by omega) ha0 ha1 (by omega)) ?_; rintro e w2 ⟨u2, rfl, hown2, hb2'⟩; have hb2 : Below w.heap.size w w2 := ⟨hb2'.os, hb2'.tape, hb2'.output, hb2'.size, hb2'.block⟩; clear hb2'; obtain ⟨a2, c2, hu2, -, -, -, -, -⟩ := hown2.val; rw [bst_len] at hu2; subst hu2; obtain ⟨-, y1, y3, y2, y4⟩ := HC1.out _ hb2; have HO2 : Hid _ := hown2; have HB2 : Hid _ := hb2; clear hown2 hb2)
          go_wp2_with fail
          refine hK.out _ _ (by first | exact (Below.refl _ _).drew | exact HB2.out) ?_
          clear hK K
          intro hHeld2
          clear hHeld
          have hHeld := hHeld2
          clear hHeld2
          try simp only [Act.put, List.setIfInBounds_toArray, List.set_cons_zero, List.set_cons_succ]
          refine take_atA (i := 16) 54 (v := ?_) rfl rfl (by kernel_rfl) (by kernel_rfl) (by kernel_rfl) (by decide) (fun _ _ _ h => h) (by rfl) ?_ hHeld ?_
          rotate_left
          · (intro w; go_simp; try with_reducible rfl)
          simp only [Act.put, List.setIfInBounds_toArray, List.set_cons_zero, List.set_cons_succ]
          refine take_atA (i := 17) 55 (v := ?_) rfl rfl (by kernel_rfl) (by kernel_rfl) (by kernel_rfl) (by decide) (fun _ _ _ h => h) (by rfl) ?_ hHeld ?_
          rotate_left
          · (intro w; go_simp; try with_reducible rfl)
          simp only [Act.put, List.setIfInBounds_toArray, List.set_cons_zero, List.set_cons_succ]
          refine run_atLate (i := 18) rfl (by kernel_rfl) (by decide) (by rfl) (fun K hK => ?_)
          simp only [List.getElem_toArray, List.getElem_cons_zero, List.getElem_cons_succ]
          go_simp
          go_wp2_with fail
          refine hK.out _ _ ?_
          clear hK K
          try simp only [Act.put, List.setIfInBounds_toArray, List.set_cons_zero, List.set_cons_succ]
          refine doneL (by kernel_rfl) ?_ _
          refine NoPanic.normal ?_
          go_wp2
          go_ret
          rw [HE.out, HL.out, HW9.out, ← HTN.out]
          have hkE : k < E.length := by rw [HW.out.len, ← HNL.out]; exact hkn
          have h1 := HW.out.below HB2.out
          have r1 := OwnG.setc (K := KR) h1.row (by rw [HW.out.len]; exact HNL.out) k 0 hkE (by decide) ⟨(E[k]'hkE).tn, a2, d.xs.length, c2⟩ (.slice a2 d.xs.length c2) rfl
          have r2 := OwnG.setc (K := KR) r1 (by rw [List.length_set, HW.out.len]; exact HNL.out) k 1 (by rw [List.length_set]; exact hkE) (by decide) ⟨true, a2, d.xs.length, c2⟩ (.bool true) (by rw [List.getElem_set_self]; rfl)
          rw [List.set_set] at r2
          have hg2 : (w2.setCell ⟨g, k * 2, none⟩ (.slice a2 d.xs.length c2)).grownBy _ (some g) := gset1 _ g (k * 2 + 1) (.bool true)
          have hch : Chg (fun b => (Value.slice (some ⟨g, 0, none⟩) N c).ownBlock = some b) w ((w2.setCell ⟨g, k * 2, none⟩ (.slice a2 d.xs.length c2)).setCell ⟨g, k * 2 + 1, none⟩ (.bool true)) := (Chg.of_below HB2.out).trans (Chg.of_grown (grow_trans (gset1 w2 g (k * 2) _) hg2) (F := fun b => (Value.slice (some ⟨g, 0, none⟩) N c).ownBlock = some b) (fun b e => e)) (fun b e => .inl e)
          obtain ⟨hbv, hbb⟩ := ByV.of_own true HO2.out
          have hbv2 : ByV ((w2.setCell ⟨g, k * 2, none⟩ (.slice a2 d.xs.length c2)).setCell ⟨g, k * 2 + 1, none⟩ (.bool true)) ⟨true, a2, d.xs.length, c2⟩ (bst at_ m d.xs 32) :=
            h1.elk ((Chg.of_grown (grow_trans (gset1 w2 g (k * 2) _) hg2) (F := fun b => (Value.slice (some ⟨g, 0, none⟩) N c).ownBlock = some b) (fun b e => e)).mono (fun b e => .inr e)) hbv
          obtain ⟨h8, h9⟩ := HW.out.inRow hch (E' := E.set k ⟨true, a2, d.xs.length, c2⟩) (L' := L.set k ⟨bst at_ m d.xs 32, true⟩) r2 (by rw [List.length_set, List.length_set, HW.out.len]) (HW.out.elsSet hch k ⟨rfl, hbv2, by rw [bst_len]; exact hxl⟩) (fun e he ad ha => by
            rcases List.mem_or_eq_of_mem_set he with h9 | h9
            · exact .inl ⟨e, h9, ha⟩
            · subst h9
              exact .inr (hbb ad ha)) (by rw [List.length_set]; exact HW.out.lr)
          exact ⟨rfl, _, _, h8, h9⟩
        · go_enter Tryd.func39, Tryd.ntmps39
          go_wp2_with (first | (go_at_call 45; refine Calls.mono H.out ?_; rintro e w' ⟨rfl, hq⟩; have hq := hq.symm; subst hq; rw [HD.out]) | (go_at_call 46; refine Calls.mono HWI.out ?_; rintro e w' ⟨rfl, hq⟩; have hq := hq.symm; subst hq; rw [HWO.out, HW9.out]))
          go_ret
          rw [HE.out, HL.out, HW9.out, ← HTN.out]
          exact ⟨rfl, _, _, HW.out, WSt.refl _ _ _ _⟩
  · have HD : Hid (decide (0 ≤ i ∧ i < (L.length : Int)) = false) := decide_eq_false hin
    have HE : Hid (trnE L i at_ m = 4) := by unfold Hid trnE; rw [if_neg hin]
    have HX : Hid (trnL L i at_ m = L) := by unfold Hid trnL; rw [if_neg hin]
    clear h hin
    go_enter Tryd.func39, Tryd.ntmps39
    go_wp2_with (go_at_call 45; refine Calls.mono H.out ?_; rintro e w' ⟨rfl, hq⟩; have hq := hq.symm; subst hq; rw [HD.out])
    go_ret
    rw [HE.out, HX.out]
    exact ⟨rfl, v, E, HW.out, WSt.refl _ _ _ _⟩
end
end Go.Proofs.YtnpcgegcoakbmaaDoor
