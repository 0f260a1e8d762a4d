import Derived.Test.YtekfolppahnpoaaTRead
import Derived.Deep.CutRange
namespace Go.Proofs.Ytekfolppahnpoaa
set_option linter.unusedVariables false
set_option linter.unusedSimpArgs false
open Go.RowKit Go.Maps
theorem dirty_len2 (N : Nat) (C : Nat → List (List UInt8)) (h : N ≤ 65536) : (dirtyL N C).length ≤ 65536 ∧ (dirtyC N C).length ≤ 65536 := by
  have h1 : (dirtyN N C).length ≤ N := by unfold dirtyN; exact Nat.le_trans (List.length_filter_le _ _) (by simp)
  unfold dirtyL dirtyC
  simp only [List.length_map]
  omega
variable {W w w' : World} {P : Nat → Nat} {ds : Nat → Dst} {c K : Nat} {F : Key → Row}
/-- two rows of new memory -/
theorem Tl.put2 {N : Nat → Nat} (h : Tl W w P ds c K N F) (hb : Below w.heap.size w w') (k i j : Nat) (hk : k < 4) (hi : N k ≤ i) (hj : N k ≤ j) (v : Value) (xs : List Value) (hr : w'.ownsRow w.heap.size (ety k) 1 v xs.length xs) (hl : xs.length ≤ 9000000)
    (u : Value) (ys : List Value) (hr2 : w'.ownsRow w.heap.size (ety k) 1 u ys.length ys) (hl2 : ys.length ≤ 9000000) (hne : u.ownBlock = none ∨ v.ownBlock ≠ u.ownBlock) : Tl W w' P ds c K N (updF (updF F (k, i) ⟨ety k, v, xs⟩) (k, j) ⟨ety k, u, ys⟩) := by
  have h1 := h.put hb k i hk hi v xs hr hl
  refine ⟨h1.d.put (k, j) (by simp; omega) _ (Row.at_base (r := ⟨ety k, u, ys⟩) hr2 h.d.ap.bel.size) (ety_ok k) (fun x => ?_), h1.r.put hk hj rfl, h1.n.put hj, h1.ln.put hl2⟩
  rcases hne with e | e
  · exact .inl e
  · by_cases q : x = (k, i)
    · subst q; rw [updF_same]; exact .inr (fun e2 => e e2.symm)
    · rw [updF_other _ q]
      cases hv : u.ownBlock with
      | none => exact .inl rfl
      | some g =>
        right
        intro e2
        have h3 := (h.d.fam.lt x g e2.symm).2
        have h4 := (World.ownsRow.lt hr2 g hv).1
        omega
theorem own_img {w : World} {g : Nat} {l : List UInt8} (h : w.heap[g]? = some (.cells (bv l).toArray 5 (0, 0))) (hl : l.length ≤ 9000000) : w.ownsRow g 5 1 (.slice (some ⟨g, 0, none⟩) l.length l.length) (bv l).length (bv l) := by
  rw [bv_length]
  refine ⟨by simp [bv_length], .inr ⟨g, l.length, _, rfl, Nat.le_refl _, h, Nat.le_refl _, by simp only [maxLen]; omega, by simp [bv_length], ?_⟩⟩
  rw [Nat.mul_one, ← bv_length l, List.take_length]
theorem n4_2 (a b : Nat) : ∀ j, j < 4 → N4 a a (b + 2) b j = if j = 2 then b + 2 else N4 a a b b j := fun j hj => by
  match j, hj with
  | 0, _ => rfl
  | 1, _ => rfl
  | 2, _ => rfl
  | 3, _ => rfl
theorem n4_3 (a b : Nat) : ∀ j, j < 4 → N4 a a (b + 2) (b + 2) j = if j = 3 then b + 2 else N4 a a (b + 2) b j := fun j hj => by
  match j, hj with
  | 0, _ => rfl
  | 1, _ => rfl
  | 2, _ => rfl
  | 3, _ => rfl
set_option maxRecDepth 20000 in
set_option maxHeartbeats 12800000 in
theorem trest_t (a b : Nat) (h : Tl W w P ds c K (N4 a a b b) F) (ha : a ≤ 500) (hb5 : b ≤ 500) :
    Calls Try.prog 8 #[.pointer (some ⟨K, 0, none⟩), .pointer (some ⟨P 0, 0, none⟩)] w fun e w' => e = .returned (.tuple #[]) ∧ ∃ F', Tl W w' P ds c K (N4 (a + 1) (a + 1) (b + 2) (b + 2)) F' := by
  have hfit := h.d.ap.fit 0 (by decide)
  have hil : (img (ds 0).S).length ≤ 9000000 := by rw [img_len (fit_ok hfit.1)]; have := hfit.2.2; omega
  have hdl := dirty_len2 (ds 0).S.length (ds 0).C hfit.2.2
  have HIM : Hid _ := h.d.ap.image 0 (by decide)
  have HT : Hid _ := h
  clear h hfit
  go_enter Try.func8, Try.ntmps8
  go_wp2_with fail
  refine Calls.mono HIM.out ?_
  rintro e w0 ⟨rfl, hrow, hb⟩
  clear HIM
  generalize img (ds 0).S = l at *
  have HT0 : Hid _ := HT.out.put hb 0 a (by decide) (Nat.le_refl _) _ (bv l) (own_img hrow hil) (by rw [bv_length]; exact hil)
  obtain ⟨ao, hao⟩ : ∃ ao : Option Addr, ao = some ⟨w.heap.size, 0, none⟩ := ⟨_, rfl⟩
  obtain ⟨cp, hcp⟩ : ∃ cp : Nat, cp = l.length := ⟨_, rfl⟩
  rw [← hao] at HT0 ⊢
  have HHB : Hid (Tl W w0 P ds c K (N4 a a b b) (updF F (0, a) ⟨ety 0, .slice ao l.length cp, bv l⟩)) := by rw [hcp]; exact HT0.out
  obtain ⟨L, hL⟩ : ∃ L, L = l.length := ⟨_, rfl⟩
  rw [← hL] at HHB
  rw [show Value.slice ao l.length l.length = Value.slice ao L cp by rw [hL, hcp]]
  have HLL : Hid _ := hL
  have HDI : Hid _ := HHB.out.d.ap.dirty 0 (by decide)
  clear HT0 HT hrow hb hao hcp hL
  go_wp2_with fail
  refine Calls.mono HDI.out ?_
  rintro e w1 ⟨vx, vy, rfl, hox, hoy, hne, hb1⟩
  clear HDI
  generalize dirtyL (ds 0).S.length (ds 0).C = lx at *
  generalize dirtyC (ds 0).S.length (ds 0).C = ly at *
  have HT1 : Hid _ := HHB.out.put2 hb1 2 b (b + 1) (by decide) (Nat.le_refl _) (Nat.le_succ _) vx (iv lx) (by rw [show (iv lx).length = lx.length by simp [iv]]; exact hox) (by simp [iv]; omega) vy (iv ly) (by rw [show (iv ly).length = ly.length by simp [iv]]; exact hoy) (by simp [iv]; omega) hne
  obtain ⟨xa, xc, rfl, -⟩ := hox.val
  obtain ⟨ya, yc, rfl, -⟩ := hoy.val
  obtain ⟨Lx, hLx⟩ : ∃ L, L = lx.length := ⟨_, rfl⟩
  obtain ⟨Ly, hLy⟩ : ∃ L, L = ly.length := ⟨_, rfl⟩
  rw [← hLx, ← hLy] at HT1 ⊢
  obtain ⟨F1, hF1⟩ : ∃ F1, F1 = updF (updF (updF F (0, a) ⟨ety 0, .slice ao L cp, bv l⟩) (2, b) ⟨ety 2, .slice xa Lx xc, iv lx⟩) (2, b + 1) ⟨ety 2, .slice ya Ly yc, iv ly⟩ := ⟨_, rfl⟩
  rw [← hF1] at HT1
  have HEB : Hid (F1 (0, a) = ⟨ety 0, .slice ao L cp, bv l⟩) := by rw [hF1, updF_other _ (by simp), updF_other _ (by simp), updF_same]; exact rfl
  have HX1 : Hid (F1 (2, b) = ⟨ety 2, .slice xa Lx xc, iv lx⟩) := by rw [hF1, updF_other _ (by simp), updF_same]; exact rfl
  have HY1 : Hid (F1 (2, b + 1) = ⟨ety 2, .slice ya Ly yc, iv ly⟩) := by rw [hF1, updF_same]; exact rfl
  have HLX : Hid ((iv lx).length = Lx) := (show (iv lx).length = Lx by rw [hLx]; simp [iv])
  have HLY : Hid ((iv ly).length = Ly) := (show (iv ly).length = Ly by rw [hLy]; simp [iv])
  have HLS : Hid (Lx ≤ 65536 ∧ Ly ≤ 65536) := ⟨by rw [hLx]; exact hdl.1, by rw [hLy]; exact hdl.2⟩
  clear hF1 hox hoy hne hb1 HHB hLx hLy hdl
  obtain ⟨a0, cap0, e0, -⟩ := HT1.out.d.named HT1.out.r 0 (by decide)
  have hc0 := HT1.out.d.cellK 0 (by decide)
  rw [e0] at hc0
  obtain ⟨X, hX⟩ : ∃ X : World, X = w1.alloc (.cells #[.slice ao L cp] 40) := ⟨_, rfl⟩
  have hXb : Below w1.heap.size w1 X := by rw [hX]; exact al (Below.refl _ _) _
  have hXr : X.heap[w1.heap.size]? = some (.cells #[.slice ao L cp] 40 (0, 0)) := by rw [hX]; exact heap_alloc_new w1 _
  have HTX : Hid _ := HT1.out.below hXb
  have hcX := cell_ofB1 hc0 hXb
  have hN0 : N4 a a b b 0 = a := rfl
  rw [hN0] at e0 hc0 hcX
  have HE0 : Hid _ := e0
  clear e0 hN0 hXb
  go_wp2_with (at_builtin; go_loud (rw [← hX]; refine wpl_tlList (N' := N4 (a + 1) a b b) rfl _ _ 0 30 rfl rfl HTX.out (by decide) (.slice a0 a cap0) HE0.out w1.heap.size 1 1 [.slice ao L cp] (by rfl) (by rfl) rfl (by decide) (one_cell hXr) (one_us (F := F1) (k := 0) (n := a) (by rw [HEB.out])) (a + 1) rfl (by omega) (n4_0 a b) (cnt_b HTX.out.n l (by rw [HEB.out])) ?_; intro G2 cap2 w2 hk2 hz2 ht2))
  obtain ⟨xs2, ht2⟩ := ht2
  have HT2 : Hid _ := ht2
  obtain ⟨F2, hF2⟩ : ∃ F2, F2 = updF F1 (4, 0) ⟨rty 0, .slice (some ⟨G2, 0, none⟩) (a + 1) cap2, xs2⟩ := ⟨_, rfl⟩
  rw [← hF2] at HT2
  have HEB2 : Hid (F2 (0, a) = ⟨ety 0, .slice ao L cp, bv l⟩) := by rw [hF2, updF_other _ (ne4' (by decide))]; exact HEB.out
  have HX2 : Hid (F2 (2, b) = ⟨ety 2, .slice xa Lx xc, iv lx⟩) := by rw [hF2, updF_other _ (by simp)]; exact HX1.out
  have HY2 : Hid (F2 (2, b + 1) = ⟨ety 2, .slice ya Ly yc, iv ly⟩) := by rw [hF2, updF_other _ (by simp)]; exact HY1.out
  clear HX1 HY1 ht2 hF2 HTX HT1 HE0 HEB hcX hXr hX hc0
  go_upto_region 3 with fail
  obtain ⟨w3, hw3⟩ : ∃ w3 : World, w3 = w2.setCell ⟨K, 0, none⟩ (.slice (some ⟨G2, 0, none⟩) (a + 1) cap2) := ⟨_, rfl⟩
  rw [← hw3] at HT2 ⊢
  clear hk2 hz2 hw3
  obtain ⟨a1, cap1, e1, -⟩ := HT2.out.d.named HT2.out.r 1 (by decide)
  have hc1 := HT2.out.d.cellK 1 (by decide)
  rw [show N4 (a + 1) a b b 1 = a from rfl] at e1
  rw [e1] at hc1
  have HE1 : Hid _ := e1
  clear e1
  have hc1A := fun (ob : Obj) => cell_ofB1 hc1 (al (Below.refl w3.heap.size w3) ob)
  have HT3 : Hid (Tl W (w3.drew.alloc (.cells #[] 5)) P ds c K (N4 (a + 1) a b b) (updF F2 (1, a) ⟨ety 1, .slice (some ⟨w3.heap.size, 0, none⟩) 0 0, []⟩)) := HT2.out.put (al (Below.refl _ _).drew _) 1 a (by decide) (Nat.le_refl _) _ [] (made0 w3.drew w3.heap.size 5 (Nat.le_refl _)) (by decide)
  obtain ⟨F3, hF3⟩ : ∃ F3, F3 = updF F2 (1, a) ⟨ety 1, .slice (some ⟨w3.heap.size, 0, none⟩) 0 0, []⟩ := ⟨_, rfl⟩
  rw [← hF3] at HT3
  have HE3 : Hid (F3 (1, a) = ⟨ety 1, .slice (some ⟨w3.heap.size, 0, none⟩) 0 0, []⟩) := by rw [hF3, updF_same]; exact rfl
  have HS3 : Hid (F3 (0, a) = ⟨ety 1, .slice ao L cp, bv l⟩) := by rw [hF3, updF_other _ (by simp)]; exact HEB2.out
  have HV3 : Hid ((F3 (4, 1)).v = .slice a1 a cap1) := by rw [hF3, updF_other _ (by simp)]; exact HE1.out
  have HLB : Hid ((bv l).length = L) := (bv_length l).trans HLL.out.symm
  have HX3 : Hid (F3 (2, b) = ⟨ety 2, .slice xa Lx xc, iv lx⟩) := by rw [hF3, updF_other _ (by simp)]; exact HX2.out
  have HY3 : Hid (F3 (2, b + 1) = ⟨ety 2, .slice ya Ly yc, iv ly⟩) := by rw [hF3, updF_other _ (by simp)]; exact HY2.out
  clear hF3
  go_cut [] from 24 to 35 (fun wx => ∃ F', Tl W wx P ds c K (N4 (a + 1) (a + 1) b b) F' ∧ F' (2, b) = ⟨ety 2, .slice xa Lx xc, iv lx⟩ ∧ F' (2, b + 1) = ⟨ety 2, .slice ya Ly yc, iv ly⟩)
  case first =>
    refine wp_region_noPanic ?_
    refine wp_region_held_drew (S := (fun _ => True)) (by kernel_rfl) (by exact trivial) (fun hHeld => ?_)
    refine take_at (i := 0) 24 (v := ?_) rfl rfl (by kernel_rfl) (by kernel_rfl) (by kernel_rfl) (fun _ _ _ h => h) (by rfl) ?_ hHeld ?_
    rotate_left
    · (intro w hSw; (try dsimp only at hSw); go_simp; try with_reducible rfl)
    simp only [Act.put, List.setIfInBounds_toArray, List.set_cons_zero, List.set_cons_succ]
    refine take_at (i := 1) 25 (v := ?_) rfl rfl (by kernel_rfl) (by kernel_rfl) (by kernel_rfl) (fun _ _ _ h => h) (by rfl) ?_ hHeld ?_
    rotate_left
    · (intro w hSw; (try dsimp only at hSw); go_simp; try with_reducible rfl)
    simp only [Act.put, List.setIfInBounds_toArray, List.set_cons_zero, List.set_cons_succ]
    refine take_at (i := 2) 26 (v := ?_) rfl rfl (by kernel_rfl) (by kernel_rfl) (by kernel_rfl) (fun _ _ _ h => h) (by rfl) ?_ hHeld ?_
    rotate_left
    · (intro w hSw; (try dsimp only at hSw); go_simp; try with_reducible rfl)
    simp only [Act.put, List.setIfInBounds_toArray, List.set_cons_zero, List.set_cons_succ]
    refine take_at (i := 3) 27 (v := ?_) rfl rfl (by kernel_rfl) (by kernel_rfl) (by kernel_rfl) (fun _ _ _ h => h) (by rfl) ?_ hHeld ?_
    rotate_left
    · (intro w hSw; (try dsimp only at hSw); go_simp; try with_reducible rfl)
    simp only [Act.put, List.setIfInBounds_toArray, List.set_cons_zero, List.set_cons_succ]
    refine take_at (i := 6) 30 (v := ?_) rfl rfl (by kernel_rfl) (by kernel_rfl) (by kernel_rfl) (fun _ _ _ h => h) (by rfl) ?_ hHeld ?_
    rotate_left
    · (intro w hSw; (try dsimp only at hSw); go_simp; try with_reducible rfl)
    simp only [Act.put, List.setIfInBounds_toArray, List.set_cons_zero, List.set_cons_succ]
    refine wpAnyH_ready (rs := [4, 5]) (by kernel_rfl) (by simp) ?_
    refine AllReadyH.cons (o := _) rfl (fun K hK => ?_) ?_
    focus
      rw [if_pos (by rfl)]
      refine val_wp 28 (v := ?_) rfl ?_ ?_
      rotate_left
      · (go_simp; try with_reducible rfl)
      refine hK.out _ _ (by exact trivial) ?_
      clear hK K
      intro hHeld2
      clear hHeld
      have hHeld := hHeld2
      clear hHeld2
      simp only [Act.put, List.setIfInBounds_toArray, List.set_cons_zero, List.set_cons_succ]
      refine run_at (i := 5) rfl (by kernel_rfl) (by rfl) (fun K hK => ?_)
      simp only [List.getElem_toArray, List.getElem_cons_zero, List.getElem_cons_succ]
      go_simp
      go_wp2_with fail
      refine hK.out _ _ (by exact trivial) ?_
      clear hK K
      intro hHeld2
      clear hHeld
      have hHeld := hHeld2
      clear hHeld2
      try simp only [Act.put, List.setIfInBounds_toArray, List.set_cons_zero, List.set_cons_succ]
      refine run_at (i := 7) rfl (by kernel_rfl) (by rfl) (fun K hK => ?_)
      simp only [List.getElem_toArray, List.getElem_cons_zero, List.getElem_cons_succ]
      first | (refine wpo_tlCopy _ _ 1 40 rfl rfl HT3.out a (by decide) (Nat.le_refl _) (.slice (some ⟨w3.heap.size, 0, none⟩) 0 0) HE3.out (0, a) (.slice ao L cp) (bv l) HS3.out (bv_one l) (by have := HLB.out; have := HLL.out; omega) (by rfl) (by rfl) ?_; intro v5 w5 ht5 hg5; obtain ⟨a5, c5, rfl⟩ := ht5.slv (x := (1, a)) (updF_same _ _ _) HLB.out; have HT5 : Hid _ := ht5; have HV5 : Hid ((updF F3 (1, a) ⟨ety 1, .slice a5 L c5, bv l⟩ (4, 1)).v = .slice a1 a cap1) := (by rw [updF_other _ (by simp)]; exact HV3.out); have hc5 := ht5.cell1 1 (by decide) HV5.out; have hc5A := fun (ob : Obj) => cell_ofB1 hc5 (al (Below.refl w5.heap.size w5) ob); clear ht5 hg5) | (refine wpo_tlList (N' := N4 (a + 1) (a + 1) b b) _ _ 1 30 rfl rfl (HT5.out.below (al (Below.refl _ _) _)) (by decide) (.slice a1 a cap1) HV5.out w5.heap.size 1 1 [.slice a5 L c5] (by rfl) (by rfl) rfl (by decide) (one_cell (heap_alloc_new w5 _)) (one_us (F := updF F3 (1, a) ⟨ety 1, .slice a5 L c5, bv l⟩) (k := 1) (n := a) (by rw [updF_same])) (a + 1) rfl (by omega) (n4_1 a b) (cnt_c HT5.out.n (by rw [updF_same, updF_other _ (by simp), HS3.out])) ?_; intro G6 cap6 w6 hk6 hz6 ht6; obtain ⟨xs6, ht6⟩ := ht6; have HT6 : Hid _ := ht6; clear ht6)
      refine hK.out _ _ (by exact trivial) ?_
      clear hK K
      intro hHeld2
      clear hHeld
      have hHeld := hHeld2
      clear hHeld2
      try simp only [Act.put, List.setIfInBounds_toArray, List.set_cons_zero, List.set_cons_succ]
      refine run_at (i := 8) rfl (by kernel_rfl) (by rfl) (fun K hK => ?_)
      simp only [List.getElem_toArray, List.getElem_cons_zero, List.getElem_cons_succ]
      go_simp
      go_wp2_with fail
      refine hK.out _ _ (by exact trivial) ?_
      clear hK K
      intro hHeld2
      clear hHeld
      have hHeld := hHeld2
      clear hHeld2
      try simp only [Act.put, List.setIfInBounds_toArray, List.set_cons_zero, List.set_cons_succ]
      refine run_at (i := 9) rfl (by kernel_rfl) (by rfl) (fun K hK => ?_)
      simp only [List.getElem_toArray, List.getElem_cons_zero, List.getElem_cons_succ]
      first | (refine wpo_tlCopy _ _ 1 40 rfl rfl HT3.out a (by decide) (Nat.le_refl _) (.slice (some ⟨w3.heap.size, 0, none⟩) 0 0) HE3.out (0, a) (.slice ao L cp) (bv l) HS3.out (bv_one l) (by have := HLB.out; have := HLL.out; omega) (by rfl) (by rfl) ?_; intro v5 w5 ht5 hg5; obtain ⟨a5, c5, rfl⟩ := ht5.slv (x := (1, a)) (updF_same _ _ _) HLB.out; have HT5 : Hid _ := ht5; have HV5 : Hid ((updF F3 (1, a) ⟨ety 1, .slice a5 L c5, bv l⟩ (4, 1)).v = .slice a1 a cap1) := (by rw [updF_other _ (by simp)]; exact HV3.out); have hc5 := ht5.cell1 1 (by decide) HV5.out; have hc5A := fun (ob : Obj) => cell_ofB1 hc5 (al (Below.refl w5.heap.size w5) ob); clear ht5 hg5) | (refine wpo_tlList (N' := N4 (a + 1) (a + 1) b b) _ _ 1 30 rfl rfl (HT5.out.below (al (Below.refl _ _) _)) (by decide) (.slice a1 a cap1) HV5.out w5.heap.size 1 1 [.slice a5 L c5] (by rfl) (by rfl) rfl (by decide) (one_cell (heap_alloc_new w5 _)) (one_us (F := updF F3 (1, a) ⟨ety 1, .slice a5 L c5, bv l⟩) (k := 1) (n := a) (by rw [updF_same])) (a + 1) rfl (by omega) (n4_1 a b) (cnt_c HT5.out.n (by rw [updF_same, updF_other _ (by simp), HS3.out])) ?_; intro G6 cap6 w6 hk6 hz6 ht6; obtain ⟨xs6, ht6⟩ := ht6; have HT6 : Hid _ := ht6; clear ht6)
      refine hK.out _ _ (by exact trivial) ?_
      clear hK K
      intro hHeld2
      clear hHeld
      have hHeld := hHeld2
      clear hHeld2
      try simp only [Act.put, List.setIfInBounds_toArray, List.set_cons_zero, List.set_cons_succ]
      refine take_at (i := 10) 34 (v := ?_) rfl rfl (by kernel_rfl) (by kernel_rfl) (by kernel_rfl) (fun _ _ _ h => h) (by rfl) ?_ hHeld ?_
      rotate_left
      · (intro w hSw; (try dsimp only at hSw); go_simp; try with_reducible rfl)
      simp only [Act.put, List.setIfInBounds_toArray, List.set_cons_zero, List.set_cons_succ]
      refine take_at (i := 11) 35 (v := ?_) rfl rfl (by kernel_rfl) (by kernel_rfl) (by kernel_rfl) (fun _ _ _ h => h) (by rfl) ?_ hHeld ?_
      rotate_left
      · (intro w hSw; (try dsimp only at hSw); go_simp; try with_reducible rfl)
      simp only [Act.put, List.setIfInBounds_toArray, List.set_cons_zero, List.set_cons_succ]
      refine run_at (i := 12) rfl (by kernel_rfl) (by rfl) (fun K hK => ?_)
      simp only [List.getElem_toArray, List.getElem_cons_zero, List.getElem_cons_succ]
      go_simp
      go_wp2_with fail
      refine hK.out _ _ (by exact trivial) ?_
      clear hK K
      intro hHeld2
      clear hHeld
      have hHeld := hHeld2
      clear hHeld2
      try simp only [Act.put, List.setIfInBounds_toArray, List.set_cons_zero, List.set_cons_succ]
      refine wpAnyH_done (by kernel_rfl) ?_ _
      refine NoPanic.normal ?_
    rotate_left 1
    refine AllReadyH.cons (o := _) rfl (fun K hK => ?_) AllReadyH.nil
    focus
      rw [if_pos (by rfl)]
      simp only [List.getElem_toArray, List.getElem_cons_zero, List.getElem_cons_succ]
      go_simp
      go_wp2_with fail
      refine hK.out _ _ (by exact trivial) ?_
      clear hK K
      intro hHeld2
      clear hHeld
      have hHeld := hHeld2
      clear hHeld2
      try simp only [Act.put, List.setIfInBounds_toArray, List.set_cons_zero, List.set_cons_succ]
      refine wpAnyH_ready (rs := [4, 7]) (by kernel_rfl) (by simp) ?_
      refine AllReadyH.cons (o := _) rfl (fun K hK => ?_) ?_
      focus
        rw [if_pos (by rfl)]
        refine val_wp 28 (v := ?_) rfl ?_ ?_
        rotate_left
        · (go_simp; try with_reducible rfl)
        refine hK.out _ _ (by exact trivial) ?_
        clear hK K
        intro hHeld2
        clear hHeld
        have hHeld := hHeld2
        clear hHeld2
        simp only [Act.put, List.setIfInBounds_toArray, List.set_cons_zero, List.set_cons_succ]
        refine run_at (i := 7) rfl (by kernel_rfl) (by rfl) (fun K hK => ?_)
        simp only [List.getElem_toArray, List.getElem_cons_zero, List.getElem_cons_succ]
        first | (refine wpo_tlCopy _ _ 1 40 rfl rfl HT3.out a (by decide) (Nat.le_refl _) (.slice (some ⟨w3.heap.size, 0, none⟩) 0 0) HE3.out (0, a) (.slice ao L cp) (bv l) HS3.out (bv_one l) (by have := HLB.out; have := HLL.out; omega) (by rfl) (by rfl) ?_; intro v5 w5 ht5 hg5; obtain ⟨a5, c5, rfl⟩ := ht5.slv (x := (1, a)) (updF_same _ _ _) HLB.out; have HT5 : Hid _ := ht5; have HV5 : Hid ((updF F3 (1, a) ⟨ety 1, .slice a5 L c5, bv l⟩ (4, 1)).v = .slice a1 a cap1) := (by rw [updF_other _ (by simp)]; exact HV3.out); have hc5 := ht5.cell1 1 (by decide) HV5.out; have hc5A := fun (ob : Obj) => cell_ofB1 hc5 (al (Below.refl w5.heap.size w5) ob); clear ht5 hg5) | (refine wpo_tlList (N' := N4 (a + 1) (a + 1) b b) _ _ 1 30 rfl rfl (HT5.out.below (al (Below.refl _ _) _)) (by decide) (.slice a1 a cap1) HV5.out w5.heap.size 1 1 [.slice a5 L c5] (by rfl) (by rfl) rfl (by decide) (one_cell (heap_alloc_new w5 _)) (one_us (F := updF F3 (1, a) ⟨ety 1, .slice a5 L c5, bv l⟩) (k := 1) (n := a) (by rw [updF_same])) (a + 1) rfl (by omega) (n4_1 a b) (cnt_c HT5.out.n (by rw [updF_same, updF_other _ (by simp), HS3.out])) ?_; intro G6 cap6 w6 hk6 hz6 ht6; obtain ⟨xs6, ht6⟩ := ht6; have HT6 : Hid _ := ht6; clear ht6)
        refine hK.out _ _ (by exact trivial) ?_
        clear hK K
        intro hHeld2
        clear hHeld
        have hHeld := hHeld2
        clear hHeld2
        try simp only [Act.put, List.setIfInBounds_toArray, List.set_cons_zero, List.set_cons_succ]
        refine run_at (i := 8) rfl (by kernel_rfl) (by rfl) (fun K hK => ?_)
        simp only [List.getElem_toArray, List.getElem_cons_zero, List.getElem_cons_succ]
        go_simp
        go_wp2_with fail
        refine hK.out _ _ (by exact trivial) ?_
        clear hK K
        intro hHeld2
        clear hHeld
        have hHeld := hHeld2
        clear hHeld2
        try simp only [Act.put, List.setIfInBounds_toArray, List.set_cons_zero, List.set_cons_succ]
        refine run_at (i := 9) rfl (by kernel_rfl) (by rfl) (fun K hK => ?_)
        simp only [List.getElem_toArray, List.getElem_cons_zero, List.getElem_cons_succ]
        first | (refine wpo_tlCopy _ _ 1 40 rfl rfl HT3.out a (by decide) (Nat.le_refl _) (.slice (some ⟨w3.heap.size, 0, none⟩) 0 0) HE3.out (0, a) (.slice ao L cp) (bv l) HS3.out (bv_one l) (by have := HLB.out; have := HLL.out; omega) (by rfl) (by rfl) ?_; intro v5 w5 ht5 hg5; obtain ⟨a5, c5, rfl⟩ := ht5.slv (x := (1, a)) (updF_same _ _ _) HLB.out; have HT5 : Hid _ := ht5; have HV5 : Hid ((updF F3 (1, a) ⟨ety 1, .slice a5 L c5, bv l⟩ (4, 1)).v = .slice a1 a cap1) := (by rw [updF_other _ (by simp)]; exact HV3.out); have hc5 := ht5.cell1 1 (by decide) HV5.out; have hc5A := fun (ob : Obj) => cell_ofB1 hc5 (al (Below.refl w5.heap.size w5) ob); clear ht5 hg5) | (refine wpo_tlList (N' := N4 (a + 1) (a + 1) b b) _ _ 1 30 rfl rfl (HT5.out.below (al (Below.refl _ _) _)) (by decide) (.slice a1 a cap1) HV5.out w5.heap.size 1 1 [.slice a5 L c5] (by rfl) (by rfl) rfl (by decide) (one_cell (heap_alloc_new w5 _)) (one_us (F := updF F3 (1, a) ⟨ety 1, .slice a5 L c5, bv l⟩) (k := 1) (n := a) (by rw [updF_same])) (a + 1) rfl (by omega) (n4_1 a b) (cnt_c HT5.out.n (by rw [updF_same, updF_other _ (by simp), HS3.out])) ?_; intro G6 cap6 w6 hk6 hz6 ht6; obtain ⟨xs6, ht6⟩ := ht6; have HT6 : Hid _ := ht6; clear ht6)
        refine hK.out _ _ (by exact trivial) ?_
        clear hK K
        intro hHeld2
        clear hHeld
        have hHeld := hHeld2
        clear hHeld2
        try simp only [Act.put, List.setIfInBounds_toArray, List.set_cons_zero, List.set_cons_succ]
        refine take_at (i := 10) 34 (v := ?_) rfl rfl (by kernel_rfl) (by kernel_rfl) (by kernel_rfl) (fun _ _ _ h => h) (by rfl) ?_ hHeld ?_
        rotate_left
        · (intro w hSw; (try dsimp only at hSw); go_simp; try with_reducible rfl)
        simp only [Act.put, List.setIfInBounds_toArray, List.set_cons_zero, List.set_cons_succ]
        refine take_at (i := 11) 35 (v := ?_) rfl rfl (by kernel_rfl) (by kernel_rfl) (by kernel_rfl) (fun _ _ _ h => h) (by rfl) ?_ hHeld ?_
        rotate_left
        · (intro w hSw; (try dsimp only at hSw); go_simp; try with_reducible rfl)
        simp only [Act.put, List.setIfInBounds_toArray, List.set_cons_zero, List.set_cons_succ]
        refine run_at (i := 12) rfl (by kernel_rfl) (by rfl) (fun K hK => ?_)
        simp only [List.getElem_toArray, List.getElem_cons_zero, List.getElem_cons_succ]
        go_simp
        go_wp2_with fail
        refine hK.out _ _ (by exact trivial) ?_
        clear hK K
        intro hHeld2
        clear hHeld
        have hHeld := hHeld2
        clear hHeld2
        try simp only [Act.put, List.setIfInBounds_toArray, List.set_cons_zero, List.set_cons_succ]
        refine wpAnyH_done (by kernel_rfl) ?_ _
        refine NoPanic.normal ?_
      rotate_left 1
      refine AllReadyH.cons (o := _) rfl (fun K hK => ?_) AllReadyH.nil
      focus
        rw [if_pos (by rfl)]
        simp only [List.getElem_toArray, List.getElem_cons_zero, List.getElem_cons_succ]
        first | (refine wpo_tlCopy _ _ 1 40 rfl rfl HT3.out a (by decide) (Nat.le_refl _) (.slice (some ⟨w3.heap.size, 0, none⟩) 0 0) HE3.out (0, a) (.slice ao L cp) (bv l) HS3.out (bv_one l) (by have := HLB.out; have := HLL.out; omega) (by rfl) (by rfl) ?_; intro v5 w5 ht5 hg5; obtain ⟨a5, c5, rfl⟩ := ht5.slv (x := (1, a)) (updF_same _ _ _) HLB.out; have HT5 : Hid _ := ht5; have HV5 : Hid ((updF F3 (1, a) ⟨ety 1, .slice a5 L c5, bv l⟩ (4, 1)).v = .slice a1 a cap1) := (by rw [updF_other _ (by simp)]; exact HV3.out); have hc5 := ht5.cell1 1 (by decide) HV5.out; have hc5A := fun (ob : Obj) => cell_ofB1 hc5 (al (Below.refl w5.heap.size w5) ob); clear ht5 hg5) | (refine wpo_tlList (N' := N4 (a + 1) (a + 1) b b) _ _ 1 30 rfl rfl (HT5.out.below (al (Below.refl _ _) _)) (by decide) (.slice a1 a cap1) HV5.out w5.heap.size 1 1 [.slice a5 L c5] (by rfl) (by rfl) rfl (by decide) (one_cell (heap_alloc_new w5 _)) (one_us (F := updF F3 (1, a) ⟨ety 1, .slice a5 L c5, bv l⟩) (k := 1) (n := a) (by rw [updF_same])) (a + 1) rfl (by omega) (n4_1 a b) (cnt_c HT5.out.n (by rw [updF_same, updF_other _ (by simp), HS3.out])) ?_; intro G6 cap6 w6 hk6 hz6 ht6; obtain ⟨xs6, ht6⟩ := ht6; have HT6 : Hid _ := ht6; clear ht6)
        refine hK.out _ _ (by exact trivial) ?_
        clear hK K
        intro hHeld2
        clear hHeld
        have hHeld := hHeld2
        clear hHeld2
        try simp only [Act.put, List.setIfInBounds_toArray, List.set_cons_zero, List.set_cons_succ]
        refine wpAnyH_ready (rs := [4, 8]) (by kernel_rfl) (by simp) ?_
        refine AllReadyH.cons (o := _) rfl (fun K hK => ?_) ?_
        focus
          rw [if_pos (by rfl)]
          refine val_wp 28 (v := ?_) rfl ?_ ?_
          rotate_left
          · (go_simp; try with_reducible rfl)
          refine hK.out _ _ (by exact trivial) ?_
          clear hK K
          intro hHeld2
          clear hHeld
          have hHeld := hHeld2
          clear hHeld2
          simp only [Act.put, List.setIfInBounds_toArray, List.set_cons_zero, List.set_cons_succ]
          refine run_at (i := 8) rfl (by kernel_rfl) (by rfl) (fun K hK => ?_)
          simp only [List.getElem_toArray, List.getElem_cons_zero, List.getElem_cons_succ]
          go_simp
          go_wp2_with fail
          refine hK.out _ _ (by exact trivial) ?_
          clear hK K
          intro hHeld2
          clear hHeld
          have hHeld := hHeld2
          clear hHeld2
          try simp only [Act.put, List.setIfInBounds_toArray, List.set_cons_zero, List.set_cons_succ]
          refine run_at (i := 9) rfl (by kernel_rfl) (by rfl) (fun K hK => ?_)
          simp only [List.getElem_toArray, List.getElem_cons_zero, List.getElem_cons_succ]
          first | (refine wpo_tlCopy _ _ 1 40 rfl rfl HT3.out a (by decide) (Nat.le_refl _) (.slice (some ⟨w3.heap.size, 0, none⟩) 0 0) HE3.out (0, a) (.slice ao L cp) (bv l) HS3.out (bv_one l) (by have := HLB.out; have := HLL.out; omega) (by rfl) (by rfl) ?_; intro v5 w5 ht5 hg5; obtain ⟨a5, c5, rfl⟩ := ht5.slv (x := (1, a)) (updF_same _ _ _) HLB.out; have HT5 : Hid _ := ht5; have HV5 : Hid ((updF F3 (1, a) ⟨ety 1, .slice a5 L c5, bv l⟩ (4, 1)).v = .slice a1 a cap1) := (by rw [updF_other _ (by simp)]; exact HV3.out); have hc5 := ht5.cell1 1 (by decide) HV5.out; have hc5A := fun (ob : Obj) => cell_ofB1 hc5 (al (Below.refl w5.heap.size w5) ob); clear ht5 hg5) | (refine wpo_tlList (N' := N4 (a + 1) (a + 1) b b) _ _ 1 30 rfl rfl (HT5.out.below (al (Below.refl _ _) _)) (by decide) (.slice a1 a cap1) HV5.out w5.heap.size 1 1 [.slice a5 L c5] (by rfl) (by rfl) rfl (by decide) (one_cell (heap_alloc_new w5 _)) (one_us (F := updF F3 (1, a) ⟨ety 1, .slice a5 L c5, bv l⟩) (k := 1) (n := a) (by rw [updF_same])) (a + 1) rfl (by omega) (n4_1 a b) (cnt_c HT5.out.n (by rw [updF_same, updF_other _ (by simp), HS3.out])) ?_; intro G6 cap6 w6 hk6 hz6 ht6; obtain ⟨xs6, ht6⟩ := ht6; have HT6 : Hid _ := ht6; clear ht6)
          refine hK.out _ _ (by exact trivial) ?_
          clear hK K
          intro hHeld2
          clear hHeld
          have hHeld := hHeld2
          clear hHeld2
          try simp only [Act.put, List.setIfInBounds_toArray, List.set_cons_zero, List.set_cons_succ]
          refine take_at (i := 10) 34 (v := ?_) rfl rfl (by kernel_rfl) (by kernel_rfl) (by kernel_rfl) (fun _ _ _ h => h) (by rfl) ?_ hHeld ?_
          rotate_left
          · (intro w hSw; (try dsimp only at hSw); go_simp; try with_reducible rfl)
          simp only [Act.put, List.setIfInBounds_toArray, List.set_cons_zero, List.set_cons_succ]
          refine take_at (i := 11) 35 (v := ?_) rfl rfl (by kernel_rfl) (by kernel_rfl) (by kernel_rfl) (fun _ _ _ h => h) (by rfl) ?_ hHeld ?_
          rotate_left
          · (intro w hSw; (try dsimp only at hSw); go_simp; try with_reducible rfl)
          simp only [Act.put, List.setIfInBounds_toArray, List.set_cons_zero, List.set_cons_succ]
          refine run_at (i := 12) rfl (by kernel_rfl) (by rfl) (fun K hK => ?_)
          simp only [List.getElem_toArray, List.getElem_cons_zero, List.getElem_cons_succ]
          go_simp
          go_wp2_with fail
          refine hK.out _ _ (by exact trivial) ?_
          clear hK K
          intro hHeld2
          clear hHeld
          have hHeld := hHeld2
          clear hHeld2
          try simp only [Act.put, List.setIfInBounds_toArray, List.set_cons_zero, List.set_cons_succ]
          refine wpAnyH_done (by kernel_rfl) ?_ _
          refine NoPanic.normal ?_
        rotate_left 1
        refine AllReadyH.cons (o := _) rfl (fun K hK => ?_) AllReadyH.nil
        focus
          rw [if_pos (by rfl)]
          simp only [List.getElem_toArray, List.getElem_cons_zero, List.getElem_cons_succ]
          go_simp
          go_wp2_with fail
          refine hK.out _ _ (by exact trivial) ?_
          clear hK K
          intro hHeld2
          clear hHeld
          have hHeld := hHeld2
          clear hHeld2
          try simp only [Act.put, List.setIfInBounds_toArray, List.set_cons_zero, List.set_cons_succ]
          refine val_at (i := 4) 28 (v := ?_) rfl rfl (by kernel_rfl) (by rfl) ?_ ?_ ?_
          rotate_left
          · (go_simp; try with_reducible rfl)
          · (exact trivial)
          intro hHeld2
          clear hHeld
          have hHeld := hHeld2
          clear hHeld2
          simp only [Act.put, List.setIfInBounds_toArray, List.set_cons_zero, List.set_cons_succ]
          refine run_at (i := 9) rfl (by kernel_rfl) (by rfl) (fun K hK => ?_)
          simp only [List.getElem_toArray, List.getElem_cons_zero, List.getElem_cons_succ]
          first | (refine wpo_tlCopy _ _ 1 40 rfl rfl HT3.out a (by decide) (Nat.le_refl _) (.slice (some ⟨w3.heap.size, 0, none⟩) 0 0) HE3.out (0, a) (.slice ao L cp) (bv l) HS3.out (bv_one l) (by have := HLB.out; have := HLL.out; omega) (by rfl) (by rfl) ?_; intro v5 w5 ht5 hg5; obtain ⟨a5, c5, rfl⟩ := ht5.slv (x := (1, a)) (updF_same _ _ _) HLB.out; have HT5 : Hid _ := ht5; have HV5 : Hid ((updF F3 (1, a) ⟨ety 1, .slice a5 L c5, bv l⟩ (4, 1)).v = .slice a1 a cap1) := (by rw [updF_other _ (by simp)]; exact HV3.out); have hc5 := ht5.cell1 1 (by decide) HV5.out; have hc5A := fun (ob : Obj) => cell_ofB1 hc5 (al (Below.refl w5.heap.size w5) ob); clear ht5 hg5) | (refine wpo_tlList (N' := N4 (a + 1) (a + 1) b b) _ _ 1 30 rfl rfl (HT5.out.below (al (Below.refl _ _) _)) (by decide) (.slice a1 a cap1) HV5.out w5.heap.size 1 1 [.slice a5 L c5] (by rfl) (by rfl) rfl (by decide) (one_cell (heap_alloc_new w5 _)) (one_us (F := updF F3 (1, a) ⟨ety 1, .slice a5 L c5, bv l⟩) (k := 1) (n := a) (by rw [updF_same])) (a + 1) rfl (by omega) (n4_1 a b) (cnt_c HT5.out.n (by rw [updF_same, updF_other _ (by simp), HS3.out])) ?_; intro G6 cap6 w6 hk6 hz6 ht6; obtain ⟨xs6, ht6⟩ := ht6; have HT6 : Hid _ := ht6; clear ht6)
          refine hK.out _ _ (by exact trivial) ?_
          clear hK K
          intro hHeld2
          clear hHeld
          have hHeld := hHeld2
          clear hHeld2
          try simp only [Act.put, List.setIfInBounds_toArray, List.set_cons_zero, List.set_cons_succ]
          refine take_at (i := 10) 34 (v := ?_) rfl rfl (by kernel_rfl) (by kernel_rfl) (by kernel_rfl) (fun _ _ _ h => h) (by rfl) ?_ hHeld ?_
          rotate_left
          · (intro w hSw; (try dsimp only at hSw); go_simp; try with_reducible rfl)
          simp only [Act.put, List.setIfInBounds_toArray, List.set_cons_zero, List.set_cons_succ]
          refine take_at (i := 11) 35 (v := ?_) rfl rfl (by kernel_rfl) (by kernel_rfl) (by kernel_rfl) (fun _ _ _ h => h) (by rfl) ?_ hHeld ?_
          rotate_left
          · (intro w hSw; (try dsimp only at hSw); go_simp; try with_reducible rfl)
          simp only [Act.put, List.setIfInBounds_toArray, List.set_cons_zero, List.set_cons_succ]
          refine run_at (i := 12) rfl (by kernel_rfl) (by rfl) (fun K hK => ?_)
          simp only [List.getElem_toArray, List.getElem_cons_zero, List.getElem_cons_succ]
          go_simp
          go_wp2_with fail
          refine hK.out _ _ (by exact trivial) ?_
          clear hK K
          intro hHeld2
          clear hHeld
          have hHeld := hHeld2
          clear hHeld2
          try simp only [Act.put, List.setIfInBounds_toArray, List.set_cons_zero, List.set_cons_succ]
          refine wpAnyH_done (by kernel_rfl) ?_ _
          refine NoPanic.normal ?_
    all_goals
      go_wp2_with fail
      go_meet
      exact ⟨_, HT6.out, by rw [updF_other _ (by simp), updF_other _ (by simp)]; exact HX3.out, by rw [updF_other _ (by simp), updF_other _ (by simp)]; exact HY3.out⟩
  case rest =>
    clear HX3 HY3 HT3 HE3 HS3 HV3 HT2 HE1 HEB2 HX2 HY2 hc1 hc1A
    obtain ⟨F7, hT7, hx7, hy7⟩ := hcut
    have HT7 : Hid _ := hT7
    have HX7 : Hid _ := hx7
    have HY7 : Hid _ := hy7
    clear hT7 hx7 hy7
    obtain ⟨a2, cap3, e2, -⟩ := HT7.out.d.named HT7.out.r 2 (by decide)
    have hc2 := HT7.out.d.cellK 2 (by decide)
    rw [show N4 (a + 1) (a + 1) b b 2 = b from rfl] at e2
    rw [e2] at hc2
    obtain ⟨X7, hX⟩ : ∃ X : World, X = wc.alloc (.cells #[.slice xa Lx xc, .slice ya Ly yc] 37) := ⟨_, rfl⟩
    have hXb : Below wc.heap.size wc X7 := by rw [hX]; exact al (Below.refl _ _) _
    have hXr : X7.heap[wc.heap.size]? = some (.cells #[.slice xa Lx xc, .slice ya Ly yc] 37 (0, 0)) := by rw [hX]; exact heap_alloc_new wc _
    have HTX : Hid _ := HT7.out.below hXb
    have hcX := cell_ofB1 hc2 hXb
    have HE2 : Hid _ := e2
    clear e2 hXb
    go_wp2_with (at_builtin; rw [← hX]; refine wpl_tlList (N' := N4 (a + 1) (a + 1) (b + 2) b) rfl _ _ 2 31 rfl rfl HTX.out (by decide) (.slice a2 b cap3) HE2.out wc.heap.size 2 2 [.slice xa Lx xc, .slice ya Ly yc] (by rfl) (by rfl) rfl (by decide) (two_cell hXr) (two_us (F := F7) (k := 2) (n := b) (by rw [HX7.out]) (by rw [HY7.out])) (b + 2) rfl (by omega) (n4_2 (a + 1) b) (cnt_i HTX.out.n lx ly (by rw [HX7.out]) (by rw [HY7.out])) ?_; intro G8 cap8 w8 hk8 hz8 ht8)
    obtain ⟨xs8, ht8⟩ := ht8
    have HT8 : Hid _ := ht8
    obtain ⟨F8, hF8⟩ : ∃ F8, F8 = updF F7 (4, 2) ⟨rty 2, .slice (some ⟨G8, 0, none⟩) (b + 2) cap8, xs8⟩ := ⟨_, rfl⟩
    rw [← hF8] at HT8
    have HX8 : Hid (F8 (2, b) = ⟨ety 3, .slice xa Lx xc, iv lx⟩) := by rw [hF8, updF_other _ (by simp)]; exact HX7.out
    have HY8 : Hid (F8 (2, b + 1) = ⟨ety 3, .slice ya Ly yc, iv ly⟩) := by rw [hF8, updF_other _ (by simp)]; exact HY7.out
    clear ht8 hF8 HTX HT7 HE2 hcX hXr hX hc2 HX7 HY7
    go_upto_region 5 with fail
    obtain ⟨w9, hw9⟩ : ∃ w9 : World, w9 = w8.setCell ⟨K, 2, none⟩ (.slice (some ⟨G8, 0, none⟩) (b + 2) cap8) := ⟨_, rfl⟩
    rw [← hw9] at HT8 ⊢
    clear hk8 hz8 hw9
    obtain ⟨a3, cap9, e3, -⟩ := HT8.out.d.named HT8.out.r 3 (by decide)
    have hc3 := HT8.out.d.cellK 3 (by decide)
    rw [show N4 (a + 1) (a + 1) (b + 2) b 3 = b from rfl] at e3
    rw [e3] at hc3
    have HV8 : Hid _ := e3
    clear e3
    obtain ⟨F0, hF0⟩ : ∃ F0, F0 = F8 := ⟨_, rfl⟩
    subst hF0
    have HX0 : Hid _ := HX8.out
    have HY0 : Hid _ := HY8.out
    have HV0 : Hid _ := HV8.out
    refine wp_region_noPanic ?_
    refine wp_region_held_drew (S := (fun _ => True)) (by kernel_rfl) (by exact trivial) (fun hHeld => ?_)
    (obtain ⟨u0, hu⟩ : ∃ X : World, X = w9.drew := ⟨_, rfl⟩; rw [← hu]; have HT0 : Hid (Tl W u0 P ds c K (N4 (a + 1) (a + 1) (b + 2) b) F0) := (by rw [hu]; exact HT8.out.below (Below.refl _ _).drew); have hc0 := HT0.out.cell1 3 (by decide) HV8.out; clear hu HT8 hc3)
    refine take_at (i := 0) 47 (v := ?_) rfl rfl (by kernel_rfl) (by kernel_rfl) (by kernel_rfl) (fun _ _ _ h => h) (by rfl) ?_ hHeld ?_
    rotate_left
    · (intro w hSw; (try dsimp only at hSw); go_simp; try with_reducible rfl)
    simp only [Act.put, List.setIfInBounds_toArray, List.set_cons_zero, List.set_cons_succ]
    refine take_at (i := 1) 48 (v := ?_) rfl rfl (by kernel_rfl) (by kernel_rfl) (by kernel_rfl) (fun _ _ _ h => h) (by rfl) ?_ hHeld ?_
    rotate_left
    · (intro w hSw; (try dsimp only at hSw); go_simp; try with_reducible rfl)
    simp only [Act.put, List.setIfInBounds_toArray, List.set_cons_zero, List.set_cons_succ]
    refine take_at (i := 2) 49 (v := ?_) rfl rfl (by kernel_rfl) (by kernel_rfl) (by kernel_rfl) (fun _ _ _ h => h) (by rfl) ?_ hHeld ?_
    rotate_left
    · (intro w hSw; (try dsimp only at hSw); go_simp; try with_reducible rfl)
    simp only [Act.put, List.setIfInBounds_toArray, List.set_cons_zero, List.set_cons_succ]
    refine take_at (i := 3) 50 (v := ?_) rfl rfl (by kernel_rfl) (by kernel_rfl) (by kernel_rfl) (fun _ _ _ h => h) (by rfl) ?_ hHeld ?_
    rotate_left
    · (intro w hSw; (try dsimp only at hSw); go_simp; try with_reducible rfl)
    simp only [Act.put, List.setIfInBounds_toArray, List.set_cons_zero, List.set_cons_succ]
    refine take_at (i := 6) 53 (v := ?_) rfl rfl (by kernel_rfl) (by kernel_rfl) (by kernel_rfl) (fun _ _ _ h => h) (by rfl) ?_ hHeld ?_
    rotate_left
    · (intro w hSw; (try dsimp only at hSw); go_simp; try with_reducible rfl)
    simp only [Act.put, List.setIfInBounds_toArray, List.set_cons_zero, List.set_cons_succ]
    refine take_at (i := 9) 56 (v := ?_) rfl rfl (by kernel_rfl) (by kernel_rfl) (by kernel_rfl) (fun _ _ _ h => h) (by rfl) ?_ hHeld ?_
    rotate_left
    · (intro w hSw; (try dsimp only at hSw); go_simp; try with_reducible rfl)
    simp only [Act.put, List.setIfInBounds_toArray, List.set_cons_zero, List.set_cons_succ]
    refine wpAnyH_ready (rs := [4, 5, 8]) (by kernel_rfl) (by simp) ?_
    refine AllReadyH.cons (o := _) rfl (fun K hK => ?_) ?_
    focus
      rw [if_pos (by rfl)]
      refine val_wp 51 (v := ?_) rfl ?_ ?_
      rotate_left
      · (go_simp; try with_reducible rfl)
      refine hK.out _ _ (by exact trivial) ?_
      clear hK K
      intro hHeld2
      clear hHeld
      have hHeld := hHeld2
      clear hHeld2
      simp only [Act.put, List.setIfInBounds_toArray, List.set_cons_zero, List.set_cons_succ]
      refine wpAnyH_ready (rs := [5, 8]) (by kernel_rfl) (by simp) ?_
      refine AllReadyH.cons (o := _) rfl (fun K hK => ?_) ?_
      focus
        rw [if_pos (by rfl)]
        simp only [List.getElem_toArray, List.getElem_cons_zero, List.getElem_cons_succ]
        go_simp
        go_wp2_with fail
        refine hK.out _ _ (by exact trivial) ?_
        clear hK K
        intro hHeld2
        clear hHeld
        have hHeld := hHeld2
        clear hHeld2
        try simp only [Act.put, List.setIfInBounds_toArray, List.set_cons_zero, List.set_cons_succ]
        (obtain ⟨u1, hu⟩ : ∃ X : World, X = u0.alloc (.cells #[] 3) := ⟨_, rfl⟩; rw [← hu]; obtain ⟨F1, hF⟩ : ∃ F9, F9 = updF F0 (3, b) ⟨ety 3, .slice (some ⟨u0.heap.size, 0, none⟩) 0 0, []⟩ := ⟨_, rfl⟩; have HT1 : Hid (Tl W u1 P ds c K (N4 (a + 1) (a + 1) (b + 2) b) F1) := (by rw [hF, hu]; exact HT0.out.put (al (Below.refl _ _) _) 3 b (by decide) (Nat.le_refl _) _ [] (made0 u0 u0.heap.size 3 (Nat.le_refl _)) (by decide)); have HX1 : Hid (F1 (2, b) = ⟨ety 3, .slice xa Lx xc, iv lx⟩) := (by rw [hF, updF_other _ (by simp)]; exact HX0.out); have HY1 : Hid (F1 (2, b + 1) = ⟨ety 3, .slice ya Ly yc, iv ly⟩) := (by rw [hF, updF_other _ (by simp)]; exact HY0.out); have HV1 : Hid ((F1 (4, 3)).v = .slice a3 b cap9) := (by rw [hF, updF_other _ (by simp)]; exact HV0.out); have HA1 : Hid (F1 (3, b) = ⟨ety 3, .slice (some ⟨u0.heap.size, 0, none⟩) 0 0, []⟩) := (by rw [hF, updF_same]; exact rfl); have hc1 := HT1.out.cell1 3 (by decide) HV1.out; clear hu hF; clear HT0 HX0 HY0 HV0)
        refine wpAnyH_ready (rs := [7, 8]) (by kernel_rfl) (by simp) ?_
        refine AllReadyH.cons (o := _) rfl (fun K hK => ?_) ?_
        focus
          rw [if_pos (by rfl)]
          simp only [List.getElem_toArray, List.getElem_cons_zero, List.getElem_cons_succ]
          (refine wpo_tlCopy _ _ 3 37 rfl rfl HT1.out b (by decide) (Nat.le_refl _) (.slice (some ⟨u0.heap.size, 0, none⟩) 0 0) HA1.out (2, b) (.slice xa Lx xc) (iv lx) HX1.out (iv_one lx) (by have := HLX.out; have := HLS.out; omega) (by rfl) (by rfl) ?_; intro v9 u2 ht9 hg9; obtain ⟨p2, q2, rfl⟩ := ht9.slv (x := (3, b)) (updF_same _ _ _) HLX.out; obtain ⟨F2, hF⟩ : ∃ F9, F9 = updF F1 (3, b) ⟨ety 3, .slice p2 Lx q2, iv lx⟩ := ⟨_, rfl⟩; rw [← hF] at ht9; have HT2 : Hid _ := ht9; have HX2 : Hid (F2 (2, b) = ⟨ety 3, .slice xa Lx xc, iv lx⟩) := (by rw [hF, updF_other _ (by simp)]; exact HX1.out); have HY2 : Hid (F2 (2, b + 1) = ⟨ety 3, .slice ya Ly yc, iv ly⟩) := (by rw [hF, updF_other _ (by simp)]; exact HY1.out); have HV2 : Hid ((F2 (4, 3)).v = .slice a3 b cap9) := (by rw [hF, updF_other _ (by simp)]; exact HV1.out); have HA2 : Hid (F2 (3, b) = ⟨ety 3, .slice p2 Lx q2, iv lx⟩) := (by rw [hF, updF_same]; exact rfl); have hc2 := ht9.cell1 3 (by decide) HV2.out; clear hF ht9 hg9; clear HT1 HX1 HY1 HV1 hc1 HA1)
          refine hK.out _ _ (by exact trivial) ?_
          clear hK K
          intro hHeld2
          clear hHeld
          have hHeld := hHeld2
          clear hHeld2
          try simp only [Act.put, List.setIfInBounds_toArray, List.set_cons_zero, List.set_cons_succ]
          refine run_at (i := 8) rfl (by kernel_rfl) (by rfl) (fun K hK => ?_)
          simp only [List.getElem_toArray, List.getElem_cons_zero, List.getElem_cons_succ]
          go_simp
          go_wp2_with fail
          refine hK.out _ _ (by exact trivial) ?_
          clear hK K
          intro hHeld2
          clear hHeld
          have hHeld := hHeld2
          clear hHeld2
          try simp only [Act.put, List.setIfInBounds_toArray, List.set_cons_zero, List.set_cons_succ]
          (obtain ⟨u3, hu⟩ : ∃ X : World, X = u2.alloc (.cells #[] 3) := ⟨_, rfl⟩; rw [← hu]; obtain ⟨F3, hF⟩ : ∃ F9, F9 = updF F2 (3, b + 1) ⟨ety 3, .slice (some ⟨u2.heap.size, 0, none⟩) 0 0, []⟩ := ⟨_, rfl⟩; have HT3 : Hid (Tl W u3 P ds c K (N4 (a + 1) (a + 1) (b + 2) b) F3) := (by rw [hF, hu]; exact HT2.out.put (al (Below.refl _ _) _) 3 (b + 1) (by decide) (Nat.le_succ _) _ [] (made0 u2 u2.heap.size 3 (Nat.le_refl _)) (by decide)); have HX3 : Hid (F3 (2, b) = ⟨ety 3, .slice xa Lx xc, iv lx⟩) := (by rw [hF, updF_other _ (by simp)]; exact HX2.out); have HY3 : Hid (F3 (2, b + 1) = ⟨ety 3, .slice ya Ly yc, iv ly⟩) := (by rw [hF, updF_other _ (by simp)]; exact HY2.out); have HV3 : Hid ((F3 (4, 3)).v = .slice a3 b cap9) := (by rw [hF, updF_other _ (by simp)]; exact HV2.out); have HB3 : Hid (F3 (3, b + 1) = ⟨ety 3, .slice (some ⟨u2.heap.size, 0, none⟩) 0 0, []⟩) := (by rw [hF, updF_same]; exact rfl); have HA3 : Hid (F3 (3, b) = ⟨ety 3, .slice p2 Lx q2, iv lx⟩) := (by rw [hF, updF_other _ (by simp)]; exact HA2.out); have hc3 := HT3.out.cell1 3 (by decide) HV3.out; clear hu hF; clear HT2 HX2 HY2 HV2 hc2 HA2)
          refine run_at (i := 10) rfl (by kernel_rfl) (by rfl) (fun K hK => ?_)
          simp only [List.getElem_toArray, List.getElem_cons_zero, List.getElem_cons_succ]
          (refine wpo_tlCopy _ _ 3 37 rfl rfl HT3.out (b + 1) (by decide) (Nat.le_succ _) (.slice (some ⟨u2.heap.size, 0, none⟩) 0 0) HB3.out (2, b + 1) (.slice ya Ly yc) (iv ly) HY3.out (iv_one ly) (by have := HLY.out; have := HLS.out; omega) (by rfl) (by rfl) ?_; intro v9 u4 ht9 hg9; obtain ⟨p4, q4, rfl⟩ := ht9.slv (x := (3, b + 1)) (updF_same _ _ _) HLY.out; obtain ⟨F4, hF⟩ : ∃ F9, F9 = updF F3 (3, b + 1) ⟨ety 3, .slice p4 Ly q4, iv ly⟩ := ⟨_, rfl⟩; rw [← hF] at ht9; have HT4 : Hid _ := ht9; have HX4 : Hid (F4 (2, b) = ⟨ety 3, .slice xa Lx xc, iv lx⟩) := (by rw [hF, updF_other _ (by simp)]; exact HX3.out); have HY4 : Hid (F4 (2, b + 1) = ⟨ety 3, .slice ya Ly yc, iv ly⟩) := (by rw [hF, updF_other _ (by simp)]; exact HY3.out); have HV4 : Hid ((F4 (4, 3)).v = .slice a3 b cap9) := (by rw [hF, updF_other _ (by simp)]; exact HV3.out); have HB4 : Hid (F4 (3, b + 1) = ⟨ety 3, .slice p4 Ly q4, iv ly⟩) := (by rw [hF, updF_same]; exact rfl); have HA4 : Hid (F4 (3, b) = ⟨ety 3, .slice p2 Lx q2, iv lx⟩) := (by rw [hF, updF_other _ (by simp)]; exact HA3.out); have hc4 := ht9.cell1 3 (by decide) HV4.out; clear hF ht9 hg9; clear HT3 HX3 HY3 HV3 hc3 HA3 HB3)
          refine hK.out _ _ (by exact trivial) ?_
          clear hK K
          intro hHeld2
          clear hHeld
          have hHeld := hHeld2
          clear hHeld2
          try simp only [Act.put, List.setIfInBounds_toArray, List.set_cons_zero, List.set_cons_succ]
          refine run_at (i := 11) rfl (by kernel_rfl) (by rfl) (fun K hK => ?_)
          simp only [List.getElem_toArray, List.getElem_cons_zero, List.getElem_cons_succ]
          go_simp
          go_wp2_with fail
          refine hK.out _ _ (by exact trivial) ?_
          clear hK K
          intro hHeld2
          clear hHeld
          have hHeld := hHeld2
          clear hHeld2
          try simp only [Act.put, List.setIfInBounds_toArray, List.set_cons_zero, List.set_cons_succ]
          (obtain ⟨u5, hu⟩ : ∃ X : World, X = u4.alloc (.cells #[.slice p2 Lx q2, .slice p4 Ly q4] 37) := ⟨_, rfl⟩; rw [← hu]; have hXr : u5.heap[u4.heap.size]? = some (.cells #[.slice p2 Lx q2, .slice p4 Ly q4] 37 (0, 0)) := (by rw [hu]; exact heap_alloc_new u4 _); have HT5 : Hid (Tl W u5 P ds c K (N4 (a + 1) (a + 1) (b + 2) b) F4) := (by rw [hu]; exact HT4.out.below (al (Below.refl _ _) _)); have hc5 := HT5.out.cell1 3 (by decide) HV4.out; clear hu)
          refine run_at (i := 12) rfl (by kernel_rfl) (by rfl) (fun K hK => ?_)
          simp only [List.getElem_toArray, List.getElem_cons_zero, List.getElem_cons_succ]
          (refine wpo_tlList (N' := N4 (a + 1) (a + 1) (b + 2) (b + 2)) _ _ 3 31 rfl rfl HT5.out (by decide) (.slice a3 b cap9) HV4.out u4.heap.size 2 2 [.slice p2 Lx q2, .slice p4 Ly q4] (by rfl) (by rfl) rfl (by decide) (two_cell hXr) (two_us (F := F4) (k := 3) (n := b) (by rw [HA4.out]) (by rw [HB4.out])) (b + 2) rfl (by omega) (n4_3 (a + 1) b) (cnt_j HT5.out.n (by rw [HA4.out, HX4.out]) (by rw [HB4.out, HY4.out])) ?_; intro G6 cap6 w6 hk6 hz6 ht6; obtain ⟨xs6, ht6⟩ := ht6; have HT6 : Hid _ := ht6; clear ht6)
          refine hK.out _ _ (by exact trivial) ?_
          clear hK K
          intro hHeld2
          clear hHeld
          have hHeld := hHeld2
          clear hHeld2
          try simp only [Act.put, List.setIfInBounds_toArray, List.set_cons_zero, List.set_cons_succ]
          refine take_at (i := 13) 60 (v := ?_) rfl rfl (by kernel_rfl) (by kernel_rfl) (by kernel_rfl) (fun _ _ _ h => h) (by rfl) ?_ hHeld ?_
          rotate_left
          · (intro w hSw; (try dsimp only at hSw); go_simp; try with_reducible rfl)
          simp only [Act.put, List.setIfInBounds_toArray, List.set_cons_zero, List.set_cons_succ]
          refine take_at (i := 14) 61 (v := ?_) rfl rfl (by kernel_rfl) (by kernel_rfl) (by kernel_rfl) (fun _ _ _ h => h) (by rfl) ?_ hHeld ?_
          rotate_left
          · (intro w hSw; (try dsimp only at hSw); go_simp; try with_reducible rfl)
          simp only [Act.put, List.setIfInBounds_toArray, List.set_cons_zero, List.set_cons_succ]
          refine run_at (i := 15) rfl (by kernel_rfl) (by rfl) (fun K hK => ?_)
          simp only [List.getElem_toArray, List.getElem_cons_zero, List.getElem_cons_succ]
          go_simp
          go_wp2_with fail
          refine hK.out _ _ (by exact trivial) ?_
          clear hK K
          intro hHeld2
          clear hHeld
          have hHeld := hHeld2
          clear hHeld2
          try simp only [Act.put, List.setIfInBounds_toArray, List.set_cons_zero, List.set_cons_succ]
          refine wpAnyH_done (by kernel_rfl) ?_ _
          refine NoPanic.normal ?_
        rotate_left 1
        refine AllReadyH.cons (o := _) rfl (fun K hK => ?_) AllReadyH.nil
        focus
          rw [if_pos (by rfl)]
          simp only [List.getElem_toArray, List.getElem_cons_zero, List.getElem_cons_succ]
          go_simp
          go_wp2_with fail
          refine hK.out _ _ (by exact trivial) ?_
          clear hK K
          intro hHeld2
          clear hHeld
          have hHeld := hHeld2
          clear hHeld2
          try simp only [Act.put, List.setIfInBounds_toArray, List.set_cons_zero, List.set_cons_succ]
          (obtain ⟨u6, hu⟩ : ∃ X : World, X = u1.alloc (.cells #[] 3) := ⟨_, rfl⟩; rw [← hu]; obtain ⟨F6, hF⟩ : ∃ F9, F9 = updF F1 (3, b + 1) ⟨ety 3, .slice (some ⟨u1.heap.size, 0, none⟩) 0 0, []⟩ := ⟨_, rfl⟩; have HT6 : Hid (Tl W u6 P ds c K (N4 (a + 1) (a + 1) (b + 2) b) F6) := (by rw [hF, hu]; exact HT1.out.put (al (Below.refl _ _) _) 3 (b + 1) (by decide) (Nat.le_succ _) _ [] (made0 u1 u1.heap.size 3 (Nat.le_refl _)) (by decide)); have HX6 : Hid (F6 (2, b) = ⟨ety 3, .slice xa Lx xc, iv lx⟩) := (by rw [hF, updF_other _ (by simp)]; exact HX1.out); have HY6 : Hid (F6 (2, b + 1) = ⟨ety 3, .slice ya Ly yc, iv ly⟩) := (by rw [hF, updF_other _ (by simp)]; exact HY1.out); have HV6 : Hid ((F6 (4, 3)).v = .slice a3 b cap9) := (by rw [hF, updF_other _ (by simp)]; exact HV1.out); have HB6 : Hid (F6 (3, b + 1) = ⟨ety 3, .slice (some ⟨u1.heap.size, 0, none⟩) 0 0, []⟩) := (by rw [hF, updF_same]; exact rfl); have HA6 : Hid (F6 (3, b) = ⟨ety 3, .slice (some ⟨u0.heap.size, 0, none⟩) 0 0, []⟩) := (by rw [hF, updF_other _ (by simp)]; exact HA1.out); have hc6 := HT6.out.cell1 3 (by decide) HV6.out; clear hu hF; clear HT1 HX1 HY1 HV1 hc1 HA1)
          refine run_at (i := 7) rfl (by kernel_rfl) (by rfl) (fun K hK => ?_)
          simp only [List.getElem_toArray, List.getElem_cons_zero, List.getElem_cons_succ]
          (refine wpo_tlCopy _ _ 3 37 rfl rfl HT6.out b (by decide) (Nat.le_refl _) (.slice (some ⟨u0.heap.size, 0, none⟩) 0 0) HA6.out (2, b) (.slice xa Lx xc) (iv lx) HX6.out (iv_one lx) (by have := HLX.out; have := HLS.out; omega) (by rfl) (by rfl) ?_; intro v9 u7 ht9 hg9; obtain ⟨p7, q7, rfl⟩ := ht9.slv (x := (3, b)) (updF_same _ _ _) HLX.out; obtain ⟨F7, hF⟩ : ∃ F9, F9 = updF F6 (3, b) ⟨ety 3, .slice p7 Lx q7, iv lx⟩ := ⟨_, rfl⟩; rw [← hF] at ht9; have HT7 : Hid _ := ht9; have HX7 : Hid (F7 (2, b) = ⟨ety 3, .slice xa Lx xc, iv lx⟩) := (by rw [hF, updF_other _ (by simp)]; exact HX6.out); have HY7 : Hid (F7 (2, b + 1) = ⟨ety 3, .slice ya Ly yc, iv ly⟩) := (by rw [hF, updF_other _ (by simp)]; exact HY6.out); have HV7 : Hid ((F7 (4, 3)).v = .slice a3 b cap9) := (by rw [hF, updF_other _ (by simp)]; exact HV6.out); have HA7 : Hid (F7 (3, b) = ⟨ety 3, .slice p7 Lx q7, iv lx⟩) := (by rw [hF, updF_same]; exact rfl); have HB7 : Hid (F7 (3, b + 1) = ⟨ety 3, .slice (some ⟨u1.heap.size, 0, none⟩) 0 0, []⟩) := (by rw [hF, updF_other _ (by simp)]; exact HB6.out); have hc7 := ht9.cell1 3 (by decide) HV7.out; clear hF ht9 hg9; clear HT6 HX6 HY6 HV6 hc6 HA6 HB6)
          refine hK.out _ _ (by exact trivial) ?_
          clear hK K
          intro hHeld2
          clear hHeld
          have hHeld := hHeld2
          clear hHeld2
          try simp only [Act.put, List.setIfInBounds_toArray, List.set_cons_zero, List.set_cons_succ]
          refine run_at (i := 10) rfl (by kernel_rfl) (by rfl) (fun K hK => ?_)
          simp only [List.getElem_toArray, List.getElem_cons_zero, List.getElem_cons_succ]
          (refine wpo_tlCopy _ _ 3 37 rfl rfl HT7.out (b + 1) (by decide) (Nat.le_succ _) (.slice (some ⟨u1.heap.size, 0, none⟩) 0 0) HB7.out (2, b + 1) (.slice ya Ly yc) (iv ly) HY7.out (iv_one ly) (by have := HLY.out; have := HLS.out; omega) (by rfl) (by rfl) ?_; intro v9 u8 ht9 hg9; obtain ⟨p8, q8, rfl⟩ := ht9.slv (x := (3, b + 1)) (updF_same _ _ _) HLY.out; obtain ⟨F8, hF⟩ : ∃ F9, F9 = updF F7 (3, b + 1) ⟨ety 3, .slice p8 Ly q8, iv ly⟩ := ⟨_, rfl⟩; rw [← hF] at ht9; have HT8 : Hid _ := ht9; have HX8 : Hid (F8 (2, b) = ⟨ety 3, .slice xa Lx xc, iv lx⟩) := (by rw [hF, updF_other _ (by simp)]; exact HX7.out); have HY8 : Hid (F8 (2, b + 1) = ⟨ety 3, .slice ya Ly yc, iv ly⟩) := (by rw [hF, updF_other _ (by simp)]; exact HY7.out); have HV8 : Hid ((F8 (4, 3)).v = .slice a3 b cap9) := (by rw [hF, updF_other _ (by simp)]; exact HV7.out); have HB8 : Hid (F8 (3, b + 1) = ⟨ety 3, .slice p8 Ly q8, iv ly⟩) := (by rw [hF, updF_same]; exact rfl); have HA8 : Hid (F8 (3, b) = ⟨ety 3, .slice p7 Lx q7, iv lx⟩) := (by rw [hF, updF_other _ (by simp)]; exact HA7.out); have hc8 := ht9.cell1 3 (by decide) HV8.out; clear hF ht9 hg9; clear HT7 HX7 HY7 HV7 hc7 HA7 HB7)
          refine hK.out _ _ (by exact trivial) ?_
          clear hK K
          intro hHeld2
          clear hHeld
          have hHeld := hHeld2
          clear hHeld2
          try simp only [Act.put, List.setIfInBounds_toArray, List.set_cons_zero, List.set_cons_succ]
          refine run_at (i := 11) rfl (by kernel_rfl) (by rfl) (fun K hK => ?_)
          simp only [List.getElem_toArray, List.getElem_cons_zero, List.getElem_cons_succ]
          go_simp
          go_wp2_with fail
          refine hK.out _ _ (by exact trivial) ?_
          clear hK K
          intro hHeld2
          clear hHeld
          have hHeld := hHeld2
          clear hHeld2
          try simp only [Act.put, List.setIfInBounds_toArray, List.set_cons_zero, List.set_cons_succ]
          (obtain ⟨u9, hu⟩ : ∃ X : World, X = u8.alloc (.cells #[.slice p7 Lx q7, .slice p8 Ly q8] 37) := ⟨_, rfl⟩; rw [← hu]; have hXr : u9.heap[u8.heap.size]? = some (.cells #[.slice p7 Lx q7, .slice p8 Ly q8] 37 (0, 0)) := (by rw [hu]; exact heap_alloc_new u8 _); have HT9 : Hid (Tl W u9 P ds c K (N4 (a + 1) (a + 1) (b + 2) b) F8) := (by rw [hu]; exact HT8.out.below (al (Below.refl _ _) _)); have hc9 := HT9.out.cell1 3 (by decide) HV8.out; clear hu)
          refine run_at (i := 12) rfl (by kernel_rfl) (by rfl) (fun K hK => ?_)
          simp only [List.getElem_toArray, List.getElem_cons_zero, List.getElem_cons_succ]
          (refine wpo_tlList (N' := N4 (a + 1) (a + 1) (b + 2) (b + 2)) _ _ 3 31 rfl rfl HT9.out (by decide) (.slice a3 b cap9) HV8.out u8.heap.size 2 2 [.slice p7 Lx q7, .slice p8 Ly q8] (by rfl) (by rfl) rfl (by decide) (two_cell hXr) (two_us (F := F8) (k := 3) (n := b) (by rw [HA8.out]) (by rw [HB8.out])) (b + 2) rfl (by omega) (n4_3 (a + 1) b) (cnt_j HT9.out.n (by rw [HA8.out, HX8.out]) (by rw [HB8.out, HY8.out])) ?_; intro G6 cap6 w6 hk6 hz6 ht6; obtain ⟨xs6, ht6⟩ := ht6; have HT6 : Hid _ := ht6; clear ht6)
          refine hK.out _ _ (by exact trivial) ?_
          clear hK K
          intro hHeld2
          clear hHeld
          have hHeld := hHeld2
          clear hHeld2
          try simp only [Act.put, List.setIfInBounds_toArray, List.set_cons_zero, List.set_cons_succ]
          refine take_at (i := 13) 60 (v := ?_) rfl rfl (by kernel_rfl) (by kernel_rfl) (by kernel_rfl) (fun _ _ _ h => h) (by rfl) ?_ hHeld ?_
          rotate_left
          · (intro w hSw; (try dsimp only at hSw); go_simp; try with_reducible rfl)
          simp only [Act.put, List.setIfInBounds_toArray, List.set_cons_zero, List.set_cons_succ]
          refine take_at (i := 14) 61 (v := ?_) rfl rfl (by kernel_rfl) (by kernel_rfl) (by kernel_rfl) (fun _ _ _ h => h) (by rfl) ?_ hHeld ?_
          rotate_left
          · (intro w hSw; (try dsimp only at hSw); go_simp; try with_reducible rfl)
          simp only [Act.put, List.setIfInBounds_toArray, List.set_cons_zero, List.set_cons_succ]
          refine run_at (i := 15) rfl (by kernel_rfl) (by rfl) (fun K hK => ?_)
          simp only [List.getElem_toArray, List.getElem_cons_zero, List.getElem_cons_succ]
          go_simp
          go_wp2_with fail
          refine hK.out _ _ (by exact trivial) ?_
          clear hK K
          intro hHeld2
          clear hHeld
          have hHeld := hHeld2
          clear hHeld2
          try simp only [Act.put, List.setIfInBounds_toArray, List.set_cons_zero, List.set_cons_succ]
          refine wpAnyH_done (by kernel_rfl) ?_ _
          refine NoPanic.normal ?_
      rotate_left 2
      refine AllReadyH.cons (o := _) rfl (fun K hK => ?_) AllReadyH.nil
      focus
        rw [if_pos (by rfl)]
        simp only [List.getElem_toArray, List.getElem_cons_zero, List.getElem_cons_succ]
        go_simp
        go_wp2_with fail
        refine hK.out _ _ (by exact trivial) ?_
        clear hK K
        intro hHeld2
        clear hHeld
        have hHeld := hHeld2
        clear hHeld2
        try simp only [Act.put, List.setIfInBounds_toArray, List.set_cons_zero, List.set_cons_succ]
        (obtain ⟨u10, hu⟩ : ∃ X : World, X = u0.alloc (.cells #[] 3) := ⟨_, rfl⟩; rw [← hu]; obtain ⟨F10, hF⟩ : ∃ F9, F9 = updF F0 (3, b + 1) ⟨ety 3, .slice (some ⟨u0.heap.size, 0, none⟩) 0 0, []⟩ := ⟨_, rfl⟩; have HT10 : Hid (Tl W u10 P ds c K (N4 (a + 1) (a + 1) (b + 2) b) F10) := (by rw [hF, hu]; exact HT0.out.put (al (Below.refl _ _) _) 3 (b + 1) (by decide) (Nat.le_succ _) _ [] (made0 u0 u0.heap.size 3 (Nat.le_refl _)) (by decide)); have HX10 : Hid (F10 (2, b) = ⟨ety 3, .slice xa Lx xc, iv lx⟩) := (by rw [hF, updF_other _ (by simp)]; exact HX0.out); have HY10 : Hid (F10 (2, b + 1) = ⟨ety 3, .slice ya Ly yc, iv ly⟩) := (by rw [hF, updF_other _ (by simp)]; exact HY0.out); have HV10 : Hid ((F10 (4, 3)).v = .slice a3 b cap9) := (by rw [hF, updF_other _ (by simp)]; exact HV0.out); have HB10 : Hid (F10 (3, b + 1) = ⟨ety 3, .slice (some ⟨u0.heap.size, 0, none⟩) 0 0, []⟩) := (by rw [hF, updF_same]; exact rfl); have hc10 := HT10.out.cell1 3 (by decide) HV10.out; clear hu hF; clear HT0 HX0 HY0 HV0)
        refine run_at (i := 5) rfl (by kernel_rfl) (by rfl) (fun K hK => ?_)
        simp only [List.getElem_toArray, List.getElem_cons_zero, List.getElem_cons_succ]
        go_simp
        go_wp2_with fail
        refine hK.out _ _ (by exact trivial) ?_
        clear hK K
        intro hHeld2
        clear hHeld
        have hHeld := hHeld2
        clear hHeld2
        try simp only [Act.put, List.setIfInBounds_toArray, List.set_cons_zero, List.set_cons_succ]
        (obtain ⟨u11, hu⟩ : ∃ X : World, X = u10.alloc (.cells #[] 3) := ⟨_, rfl⟩; rw [← hu]; obtain ⟨F11, hF⟩ : ∃ F9, F9 = updF F10 (3, b) ⟨ety 3, .slice (some ⟨u10.heap.size, 0, none⟩) 0 0, []⟩ := ⟨_, rfl⟩; have HT11 : Hid (Tl W u11 P ds c K (N4 (a + 1) (a + 1) (b + 2) b) F11) := (by rw [hF, hu]; exact HT10.out.put (al (Below.refl _ _) _) 3 b (by decide) (Nat.le_refl _) _ [] (made0 u10 u10.heap.size 3 (Nat.le_refl _)) (by decide)); have HX11 : Hid (F11 (2, b) = ⟨ety 3, .slice xa Lx xc, iv lx⟩) := (by rw [hF, updF_other _ (by simp)]; exact HX10.out); have HY11 : Hid (F11 (2, b + 1) = ⟨ety 3, .slice ya Ly yc, iv ly⟩) := (by rw [hF, updF_other _ (by simp)]; exact HY10.out); have HV11 : Hid ((F11 (4, 3)).v = .slice a3 b cap9) := (by rw [hF, updF_other _ (by simp)]; exact HV10.out); have HA11 : Hid (F11 (3, b) = ⟨ety 3, .slice (some ⟨u10.heap.size, 0, none⟩) 0 0, []⟩) := (by rw [hF, updF_same]; exact rfl); have HB11 : Hid (F11 (3, b + 1) = ⟨ety 3, .slice (some ⟨u0.heap.size, 0, none⟩) 0 0, []⟩) := (by rw [hF, updF_other _ (by simp)]; exact HB10.out); have hc11 := HT11.out.cell1 3 (by decide) HV11.out; clear hu hF; clear HT10 HX10 HY10 HV10 hc10 HB10)
        refine run_at (i := 7) rfl (by kernel_rfl) (by rfl) (fun K hK => ?_)
        simp only [List.getElem_toArray, List.getElem_cons_zero, List.getElem_cons_succ]
        (refine wpo_tlCopy _ _ 3 37 rfl rfl HT11.out b (by decide) (Nat.le_refl _) (.slice (some ⟨u10.heap.size, 0, none⟩) 0 0) HA11.out (2, b) (.slice xa Lx xc) (iv lx) HX11.out (iv_one lx) (by have := HLX.out; have := HLS.out; omega) (by rfl) (by rfl) ?_; intro v9 u12 ht9 hg9; obtain ⟨p12, q12, rfl⟩ := ht9.slv (x := (3, b)) (updF_same _ _ _) HLX.out; obtain ⟨F12, hF⟩ : ∃ F9, F9 = updF F11 (3, b) ⟨ety 3, .slice p12 Lx q12, iv lx⟩ := ⟨_, rfl⟩; rw [← hF] at ht9; have HT12 : Hid _ := ht9; have HX12 : Hid (F12 (2, b) = ⟨ety 3, .slice xa Lx xc, iv lx⟩) := (by rw [hF, updF_other _ (by simp)]; exact HX11.out); have HY12 : Hid (F12 (2, b + 1) = ⟨ety 3, .slice ya Ly yc, iv ly⟩) := (by rw [hF, updF_other _ (by simp)]; exact HY11.out); have HV12 : Hid ((F12 (4, 3)).v = .slice a3 b cap9) := (by rw [hF, updF_other _ (by simp)]; exact HV11.out); have HA12 : Hid (F12 (3, b) = ⟨ety 3, .slice p12 Lx q12, iv lx⟩) := (by rw [hF, updF_same]; exact rfl); have HB12 : Hid (F12 (3, b + 1) = ⟨ety 3, .slice (some ⟨u0.heap.size, 0, none⟩) 0 0, []⟩) := (by rw [hF, updF_other _ (by simp)]; exact HB11.out); have hc12 := ht9.cell1 3 (by decide) HV12.out; clear hF ht9 hg9; clear HT11 HX11 HY11 HV11 hc11 HA11 HB11)
        refine hK.out _ _ (by exact trivial) ?_
        clear hK K
        intro hHeld2
        clear hHeld
        have hHeld := hHeld2
        clear hHeld2
        try simp only [Act.put, List.setIfInBounds_toArray, List.set_cons_zero, List.set_cons_succ]
        refine run_at (i := 10) rfl (by kernel_rfl) (by rfl) (fun K hK => ?_)
        simp only [List.getElem_toArray, List.getElem_cons_zero, List.getElem_cons_succ]
        (refine wpo_tlCopy _ _ 3 37 rfl rfl HT12.out (b + 1) (by decide) (Nat.le_succ _) (.slice (some ⟨u0.heap.size, 0, none⟩) 0 0) HB12.out (2, b + 1) (.slice ya Ly yc) (iv ly) HY12.out (iv_one ly) (by have := HLY.out; have := HLS.out; omega) (by rfl) (by rfl) ?_; intro v9 u13 ht9 hg9; obtain ⟨p13, q13, rfl⟩ := ht9.slv (x := (3, b + 1)) (updF_same _ _ _) HLY.out; obtain ⟨F13, hF⟩ : ∃ F9, F9 = updF F12 (3, b + 1) ⟨ety 3, .slice p13 Ly q13, iv ly⟩ := ⟨_, rfl⟩; rw [← hF] at ht9; have HT13 : Hid _ := ht9; have HX13 : Hid (F13 (2, b) = ⟨ety 3, .slice xa Lx xc, iv lx⟩) := (by rw [hF, updF_other _ (by simp)]; exact HX12.out); have HY13 : Hid (F13 (2, b + 1) = ⟨ety 3, .slice ya Ly yc, iv ly⟩) := (by rw [hF, updF_other _ (by simp)]; exact HY12.out); have HV13 : Hid ((F13 (4, 3)).v = .slice a3 b cap9) := (by rw [hF, updF_other _ (by simp)]; exact HV12.out); have HB13 : Hid (F13 (3, b + 1) = ⟨ety 3, .slice p13 Ly q13, iv ly⟩) := (by rw [hF, updF_same]; exact rfl); have HA13 : Hid (F13 (3, b) = ⟨ety 3, .slice p12 Lx q12, iv lx⟩) := (by rw [hF, updF_other _ (by simp)]; exact HA12.out); have hc13 := ht9.cell1 3 (by decide) HV13.out; clear hF ht9 hg9; clear HT12 HX12 HY12 HV12 hc12 HA12 HB12)
        refine hK.out _ _ (by exact trivial) ?_
        clear hK K
        intro hHeld2
        clear hHeld
        have hHeld := hHeld2
        clear hHeld2
        try simp only [Act.put, List.setIfInBounds_toArray, List.set_cons_zero, List.set_cons_succ]
        refine run_at (i := 11) rfl (by kernel_rfl) (by rfl) (fun K hK => ?_)
        simp only [List.getElem_toArray, List.getElem_cons_zero, List.getElem_cons_succ]
        go_simp
        go_wp2_with fail
        refine hK.out _ _ (by exact trivial) ?_
        clear hK K
        intro hHeld2
        clear hHeld
        have hHeld := hHeld2
        clear hHeld2
        try simp only [Act.put, List.setIfInBounds_toArray, List.set_cons_zero, List.set_cons_succ]
        (obtain ⟨u14, hu⟩ : ∃ X : World, X = u13.alloc (.cells #[.slice p12 Lx q12, .slice p13 Ly q13] 37) := ⟨_, rfl⟩; rw [← hu]; have hXr : u14.heap[u13.heap.size]? = some (.cells #[.slice p12 Lx q12, .slice p13 Ly q13] 37 (0, 0)) := (by rw [hu]; exact heap_alloc_new u13 _); have HT14 : Hid (Tl W u14 P ds c K (N4 (a + 1) (a + 1) (b + 2) b) F13) := (by rw [hu]; exact HT13.out.below (al (Below.refl _ _) _)); have hc14 := HT14.out.cell1 3 (by decide) HV13.out; clear hu)
        refine run_at (i := 12) rfl (by kernel_rfl) (by rfl) (fun K hK => ?_)
        simp only [List.getElem_toArray, List.getElem_cons_zero, List.getElem_cons_succ]
        (refine wpo_tlList (N' := N4 (a + 1) (a + 1) (b + 2) (b + 2)) _ _ 3 31 rfl rfl HT14.out (by decide) (.slice a3 b cap9) HV13.out u13.heap.size 2 2 [.slice p12 Lx q12, .slice p13 Ly q13] (by rfl) (by rfl) rfl (by decide) (two_cell hXr) (two_us (F := F13) (k := 3) (n := b) (by rw [HA13.out]) (by rw [HB13.out])) (b + 2) rfl (by omega) (n4_3 (a + 1) b) (cnt_j HT14.out.n (by rw [HA13.out, HX13.out]) (by rw [HB13.out, HY13.out])) ?_; intro G6 cap6 w6 hk6 hz6 ht6; obtain ⟨xs6, ht6⟩ := ht6; have HT6 : Hid _ := ht6; clear ht6)
        refine hK.out _ _ (by exact trivial) ?_
        clear hK K
        intro hHeld2
        clear hHeld
        have hHeld := hHeld2
        clear hHeld2
        try simp only [Act.put, List.setIfInBounds_toArray, List.set_cons_zero, List.set_cons_succ]
        refine take_at (i := 13) 60 (v := ?_) rfl rfl (by kernel_rfl) (by kernel_rfl) (by kernel_rfl) (fun _ _ _ h => h) (by rfl) ?_ hHeld ?_
        rotate_left
        · (intro w hSw; (try dsimp only at hSw); go_simp; try with_reducible rfl)
        simp only [Act.put, List.setIfInBounds_toArray, List.set_cons_zero, List.set_cons_succ]
        refine take_at (i := 14) 61 (v := ?_) rfl rfl (by kernel_rfl) (by kernel_rfl) (by kernel_rfl) (fun _ _ _ h => h) (by rfl) ?_ hHeld ?_
        rotate_left
        · (intro w hSw; (try dsimp only at hSw); go_simp; try with_reducible rfl)
        simp only [Act.put, List.setIfInBounds_toArray, List.set_cons_zero, List.set_cons_succ]
        refine run_at (i := 15) rfl (by kernel_rfl) (by rfl) (fun K hK => ?_)
        simp only [List.getElem_toArray, List.getElem_cons_zero, List.getElem_cons_succ]
        go_simp
        go_wp2_with fail
        refine hK.out _ _ (by exact trivial) ?_
        clear hK K
        intro hHeld2
        clear hHeld
        have hHeld := hHeld2
        clear hHeld2
        try simp only [Act.put, List.setIfInBounds_toArray, List.set_cons_zero, List.set_cons_succ]
        refine wpAnyH_done (by kernel_rfl) ?_ _
        refine NoPanic.normal ?_
    rotate_left 3
    refine AllReadyH.cons (o := _) rfl (fun K hK => ?_) ?_
    focus
      rw [if_pos (by rfl)]
      simp only [List.getElem_toArray, List.getElem_cons_zero, List.getElem_cons_succ]
      go_simp
      go_wp2_with fail
      refine hK.out _ _ (by exact trivial) ?_
      clear hK K
      intro hHeld2
      clear hHeld
      have hHeld := hHeld2
      clear hHeld2
      try simp only [Act.put, List.setIfInBounds_toArray, List.set_cons_zero, List.set_cons_succ]
      (obtain ⟨u15, hu⟩ : ∃ X : World, X = u0.alloc (.cells #[] 3) := ⟨_, rfl⟩; rw [← hu]; obtain ⟨F15, hF⟩ : ∃ F9, F9 = updF F0 (3, b) ⟨ety 3, .slice (some ⟨u0.heap.size, 0, none⟩) 0 0, []⟩ := ⟨_, rfl⟩; have HT15 : Hid (Tl W u15 P ds c K (N4 (a + 1) (a + 1) (b + 2) b) F15) := (by rw [hF, hu]; exact HT0.out.put (al (Below.refl _ _) _) 3 b (by decide) (Nat.le_refl _) _ [] (made0 u0 u0.heap.size 3 (Nat.le_refl _)) (by decide)); have HX15 : Hid (F15 (2, b) = ⟨ety 3, .slice xa Lx xc, iv lx⟩) := (by rw [hF, updF_other _ (by simp)]; exact HX0.out); have HY15 : Hid (F15 (2, b + 1) = ⟨ety 3, .slice ya Ly yc, iv ly⟩) := (by rw [hF, updF_other _ (by simp)]; exact HY0.out); have HV15 : Hid ((F15 (4, 3)).v = .slice a3 b cap9) := (by rw [hF, updF_other _ (by simp)]; exact HV0.out); have HA15 : Hid (F15 (3, b) = ⟨ety 3, .slice (some ⟨u0.heap.size, 0, none⟩) 0 0, []⟩) := (by rw [hF, updF_same]; exact rfl); have hc15 := HT15.out.cell1 3 (by decide) HV15.out; clear hu hF; clear HT0 HX0 HY0 HV0)
      refine wpAnyH_ready (rs := [4, 7, 8]) (by kernel_rfl) (by simp) ?_
      refine AllReadyH.cons (o := _) rfl (fun K hK => ?_) ?_
      focus
        rw [if_pos (by rfl)]
        refine val_wp 51 (v := ?_) rfl ?_ ?_
        rotate_left
        · (go_simp; try with_reducible rfl)
        refine hK.out _ _ (by exact trivial) ?_
        clear hK K
        intro hHeld2
        clear hHeld
        have hHeld := hHeld2
        clear hHeld2
        simp only [Act.put, List.setIfInBounds_toArray, List.set_cons_zero, List.set_cons_succ]
        refine wpAnyH_ready (rs := [7, 8]) (by kernel_rfl) (by simp) ?_
        refine AllReadyH.cons (o := _) rfl (fun K hK => ?_) ?_
        focus
          rw [if_pos (by rfl)]
          simp only [List.getElem_toArray, List.getElem_cons_zero, List.getElem_cons_succ]
          (refine wpo_tlCopy _ _ 3 37 rfl rfl HT15.out b (by decide) (Nat.le_refl _) (.slice (some ⟨u0.heap.size, 0, none⟩) 0 0) HA15.out (2, b) (.slice xa Lx xc) (iv lx) HX15.out (iv_one lx) (by have := HLX.out; have := HLS.out; omega) (by rfl) (by rfl) ?_; intro v9 u16 ht9 hg9; obtain ⟨p16, q16, rfl⟩ := ht9.slv (x := (3, b)) (updF_same _ _ _) HLX.out; obtain ⟨F16, hF⟩ : ∃ F9, F9 = updF F15 (3, b) ⟨ety 3, .slice p16 Lx q16, iv lx⟩ := ⟨_, rfl⟩; rw [← hF] at ht9; have HT16 : Hid _ := ht9; have HX16 : Hid (F16 (2, b) = ⟨ety 3, .slice xa Lx xc, iv lx⟩) := (by rw [hF, updF_other _ (by simp)]; exact HX15.out); have HY16 : Hid (F16 (2, b + 1) = ⟨ety 3, .slice ya Ly yc, iv ly⟩) := (by rw [hF, updF_other _ (by simp)]; exact HY15.out); have HV16 : Hid ((F16 (4, 3)).v = .slice a3 b cap9) := (by rw [hF, updF_other _ (by simp)]; exact HV15.out); have HA16 : Hid (F16 (3, b) = ⟨ety 3, .slice p16 Lx q16, iv lx⟩) := (by rw [hF, updF_same]; exact rfl); have hc16 := ht9.cell1 3 (by decide) HV16.out; clear hF ht9 hg9; clear HT15 HX15 HY15 HV15 hc15 HA15)
          refine hK.out _ _ (by exact trivial) ?_
          clear hK K
          intro hHeld2
          clear hHeld
          have hHeld := hHeld2
          clear hHeld2
          try simp only [Act.put, List.setIfInBounds_toArray, List.set_cons_zero, List.set_cons_succ]
          refine run_at (i := 8) rfl (by kernel_rfl) (by rfl) (fun K hK => ?_)
          simp only [List.getElem_toArray, List.getElem_cons_zero, List.getElem_cons_succ]
          go_simp
          go_wp2_with fail
          refine hK.out _ _ (by exact trivial) ?_
          clear hK K
          intro hHeld2
          clear hHeld
          have hHeld := hHeld2
          clear hHeld2
          try simp only [Act.put, List.setIfInBounds_toArray, List.set_cons_zero, List.set_cons_succ]
          (obtain ⟨u17, hu⟩ : ∃ X : World, X = u16.alloc (.cells #[] 3) := ⟨_, rfl⟩; rw [← hu]; obtain ⟨F17, hF⟩ : ∃ F9, F9 = updF F16 (3, b + 1) ⟨ety 3, .slice (some ⟨u16.heap.size, 0, none⟩) 0 0, []⟩ := ⟨_, rfl⟩; have HT17 : Hid (Tl W u17 P ds c K (N4 (a + 1) (a + 1) (b + 2) b) F17) := (by rw [hF, hu]; exact HT16.out.put (al (Below.refl _ _) _) 3 (b + 1) (by decide) (Nat.le_succ _) _ [] (made0 u16 u16.heap.size 3 (Nat.le_refl _)) (by decide)); have HX17 : Hid (F17 (2, b) = ⟨ety 3, .slice xa Lx xc, iv lx⟩) := (by rw [hF, updF_other _ (by simp)]; exact HX16.out); have HY17 : Hid (F17 (2, b + 1) = ⟨ety 3, .slice ya Ly yc, iv ly⟩) := (by rw [hF, updF_other _ (by simp)]; exact HY16.out); have HV17 : Hid ((F17 (4, 3)).v = .slice a3 b cap9) := (by rw [hF, updF_other _ (by simp)]; exact HV16.out); have HB17 : Hid (F17 (3, b + 1) = ⟨ety 3, .slice (some ⟨u16.heap.size, 0, none⟩) 0 0, []⟩) := (by rw [hF, updF_same]; exact rfl); have HA17 : Hid (F17 (3, b) = ⟨ety 3, .slice p16 Lx q16, iv lx⟩) := (by rw [hF, updF_other _ (by simp)]; exact HA16.out); have hc17 := HT17.out.cell1 3 (by decide) HV17.out; clear hu hF; clear HT16 HX16 HY16 HV16 hc16 HA16)
          refine run_at (i := 10) rfl (by kernel_rfl) (by rfl) (fun K hK => ?_)
          simp only [List.getElem_toArray, List.getElem_cons_zero, List.getElem_cons_succ]
          (refine wpo_tlCopy _ _ 3 37 rfl rfl HT17.out (b + 1) (by decide) (Nat.le_succ _) (.slice (some ⟨u16.heap.size, 0, none⟩) 0 0) HB17.out (2, b + 1) (.slice ya Ly yc) (iv ly) HY17.out (iv_one ly) (by have := HLY.out; have := HLS.out; omega) (by rfl) (by rfl) ?_; intro v9 u18 ht9 hg9; obtain ⟨p18, q18, rfl⟩ := ht9.slv (x := (3, b + 1)) (updF_same _ _ _) HLY.out; obtain ⟨F18, hF⟩ : ∃ F9, F9 = updF F17 (3, b + 1) ⟨ety 3, .slice p18 Ly q18, iv ly⟩ := ⟨_, rfl⟩; rw [← hF] at ht9; have HT18 : Hid _ := ht9; have HX18 : Hid (F18 (2, b) = ⟨ety 3, .slice xa Lx xc, iv lx⟩) := (by rw [hF, updF_other _ (by simp)]; exact HX17.out); have HY18 : Hid (F18 (2, b + 1) = ⟨ety 3, .slice ya Ly yc, iv ly⟩) := (by rw [hF, updF_other _ (by simp)]; exact HY17.out); have HV18 : Hid ((F18 (4, 3)).v = .slice a3 b cap9) := (by rw [hF, updF_other _ (by simp)]; exact HV17.out); have HB18 : Hid (F18 (3, b + 1) = ⟨ety 3, .slice p18 Ly q18, iv ly⟩) := (by rw [hF, updF_same]; exact rfl); have HA18 : Hid (F18 (3, b) = ⟨ety 3, .slice p16 Lx q16, iv lx⟩) := (by rw [hF, updF_other _ (by simp)]; exact HA17.out); have hc18 := ht9.cell1 3 (by decide) HV18.out; clear hF ht9 hg9; clear HT17 HX17 HY17 HV17 hc17 HA17 HB17)
          refine hK.out _ _ (by exact trivial) ?_
          clear hK K
          intro hHeld2
          clear hHeld
          have hHeld := hHeld2
          clear hHeld2
          try simp only [Act.put, List.setIfInBounds_toArray, List.set_cons_zero, List.set_cons_succ]
          refine run_at (i := 11) rfl (by kernel_rfl) (by rfl) (fun K hK => ?_)
          simp only [List.getElem_toArray, List.getElem_cons_zero, List.getElem_cons_succ]
          go_simp
          go_wp2_with fail
          refine hK.out _ _ (by exact trivial) ?_
          clear hK K
          intro hHeld2
          clear hHeld
          have hHeld := hHeld2
          clear hHeld2
          try simp only [Act.put, List.setIfInBounds_toArray, List.set_cons_zero, List.set_cons_succ]
          (obtain ⟨u19, hu⟩ : ∃ X : World, X = u18.alloc (.cells #[.slice p16 Lx q16, .slice p18 Ly q18] 37) := ⟨_, rfl⟩; rw [← hu]; have hXr : u19.heap[u18.heap.size]? = some (.cells #[.slice p16 Lx q16, .slice p18 Ly q18] 37 (0, 0)) := (by rw [hu]; exact heap_alloc_new u18 _); have HT19 : Hid (Tl W u19 P ds c K (N4 (a + 1) (a + 1) (b + 2) b) F18) := (by rw [hu]; exact HT18.out.below (al (Below.refl _ _) _)); have hc19 := HT19.out.cell1 3 (by decide) HV18.out; clear hu)
          refine run_at (i := 12) rfl (by kernel_rfl) (by rfl) (fun K hK => ?_)
          simp only [List.getElem_toArray, List.getElem_cons_zero, List.getElem_cons_succ]
          (refine wpo_tlList (N' := N4 (a + 1) (a + 1) (b + 2) (b + 2)) _ _ 3 31 rfl rfl HT19.out (by decide) (.slice a3 b cap9) HV18.out u18.heap.size 2 2 [.slice p16 Lx q16, .slice p18 Ly q18] (by rfl) (by rfl) rfl (by decide) (two_cell hXr) (two_us (F := F18) (k := 3) (n := b) (by rw [HA18.out]) (by rw [HB18.out])) (b + 2) rfl (by omega) (n4_3 (a + 1) b) (cnt_j HT19.out.n (by rw [HA18.out, HX18.out]) (by rw [HB18.out, HY18.out])) ?_; intro G6 cap6 w6 hk6 hz6 ht6; obtain ⟨xs6, ht6⟩ := ht6; have HT6 : Hid _ := ht6; clear ht6)
          refine hK.out _ _ (by exact trivial) ?_
          clear hK K
          intro hHeld2
          clear hHeld
          have hHeld := hHeld2
          clear hHeld2
          try simp only [Act.put, List.setIfInBounds_toArray, List.set_cons_zero, List.set_cons_succ]
          refine take_at (i := 13) 60 (v := ?_) rfl rfl (by kernel_rfl) (by kernel_rfl) (by kernel_rfl) (fun _ _ _ h => h) (by rfl) ?_ hHeld ?_
          rotate_left
          · (intro w hSw; (try dsimp only at hSw); go_simp; try with_reducible rfl)
          simp only [Act.put, List.setIfInBounds_toArray, List.set_cons_zero, List.set_cons_succ]
          refine take_at (i := 14) 61 (v := ?_) rfl rfl (by kernel_rfl) (by kernel_rfl) (by kernel_rfl) (fun _ _ _ h => h) (by rfl) ?_ hHeld ?_
          rotate_left
          · (intro w hSw; (try dsimp only at hSw); go_simp; try with_reducible rfl)
          simp only [Act.put, List.setIfInBounds_toArray, List.set_cons_zero, List.set_cons_succ]
          refine run_at (i := 15) rfl (by kernel_rfl) (by rfl) (fun K hK => ?_)
          simp only [List.getElem_toArray, List.getElem_cons_zero, List.getElem_cons_succ]
          go_simp
          go_wp2_with fail
          refine hK.out _ _ (by exact trivial) ?_
          clear hK K
          intro hHeld2
          clear hHeld
          have hHeld := hHeld2
          clear hHeld2
          try simp only [Act.put, List.setIfInBounds_toArray, List.set_cons_zero, List.set_cons_succ]
          refine wpAnyH_done (by kernel_rfl) ?_ _
          refine NoPanic.normal ?_
        rotate_left 1
        refine AllReadyH.cons (o := _) rfl (fun K hK => ?_) AllReadyH.nil
        focus
          rw [if_pos (by rfl)]
          simp only [List.getElem_toArray, List.getElem_cons_zero, List.getElem_cons_succ]
          go_simp
          go_wp2_with fail
          refine hK.out _ _ (by exact trivial) ?_
          clear hK K
          intro hHeld2
          clear hHeld
          have hHeld := hHeld2
          clear hHeld2
          try simp only [Act.put, List.setIfInBounds_toArray, List.set_cons_zero, List.set_cons_succ]
          (obtain ⟨u20, hu⟩ : ∃ X : World, X = u15.alloc (.cells #[] 3) := ⟨_, rfl⟩; rw [← hu]; obtain ⟨F20, hF⟩ : ∃ F9, F9 = updF F15 (3, b + 1) ⟨ety 3, .slice (some ⟨u15.heap.size, 0, none⟩) 0 0, []⟩ := ⟨_, rfl⟩; have HT20 : Hid (Tl W u20 P ds c K (N4 (a + 1) (a + 1) (b + 2) b) F20) := (by rw [hF, hu]; exact HT15.out.put (al (Below.refl _ _) _) 3 (b + 1) (by decide) (Nat.le_succ _) _ [] (made0 u15 u15.heap.size 3 (Nat.le_refl _)) (by decide)); have HX20 : Hid (F20 (2, b) = ⟨ety 3, .slice xa Lx xc, iv lx⟩) := (by rw [hF, updF_other _ (by simp)]; exact HX15.out); have HY20 : Hid (F20 (2, b + 1) = ⟨ety 3, .slice ya Ly yc, iv ly⟩) := (by rw [hF, updF_other _ (by simp)]; exact HY15.out); have HV20 : Hid ((F20 (4, 3)).v = .slice a3 b cap9) := (by rw [hF, updF_other _ (by simp)]; exact HV15.out); have HB20 : Hid (F20 (3, b + 1) = ⟨ety 3, .slice (some ⟨u15.heap.size, 0, none⟩) 0 0, []⟩) := (by rw [hF, updF_same]; exact rfl); have HA20 : Hid (F20 (3, b) = ⟨ety 3, .slice (some ⟨u0.heap.size, 0, none⟩) 0 0, []⟩) := (by rw [hF, updF_other _ (by simp)]; exact HA15.out); have hc20 := HT20.out.cell1 3 (by decide) HV20.out; clear hu hF; clear HT15 HX15 HY15 HV15 hc15 HA15)
          refine run_at (i := 7) rfl (by kernel_rfl) (by rfl) (fun K hK => ?_)
          simp only [List.getElem_toArray, List.getElem_cons_zero, List.getElem_cons_succ]
          (refine wpo_tlCopy _ _ 3 37 rfl rfl HT20.out b (by decide) (Nat.le_refl _) (.slice (some ⟨u0.heap.size, 0, none⟩) 0 0) HA20.out (2, b) (.slice xa Lx xc) (iv lx) HX20.out (iv_one lx) (by have := HLX.out; have := HLS.out; omega) (by rfl) (by rfl) ?_; intro v9 u21 ht9 hg9; obtain ⟨p21, q21, rfl⟩ := ht9.slv (x := (3, b)) (updF_same _ _ _) HLX.out; obtain ⟨F21, hF⟩ : ∃ F9, F9 = updF F20 (3, b) ⟨ety 3, .slice p21 Lx q21, iv lx⟩ := ⟨_, rfl⟩; rw [← hF] at ht9; have HT21 : Hid _ := ht9; have HX21 : Hid (F21 (2, b) = ⟨ety 3, .slice xa Lx xc, iv lx⟩) := (by rw [hF, updF_other _ (by simp)]; exact HX20.out); have HY21 : Hid (F21 (2, b + 1) = ⟨ety 3, .slice ya Ly yc, iv ly⟩) := (by rw [hF, updF_other _ (by simp)]; exact HY20.out); have HV21 : Hid ((F21 (4, 3)).v = .slice a3 b cap9) := (by rw [hF, updF_other _ (by simp)]; exact HV20.out); have HA21 : Hid (F21 (3, b) = ⟨ety 3, .slice p21 Lx q21, iv lx⟩) := (by rw [hF, updF_same]; exact rfl); have HB21 : Hid (F21 (3, b + 1) = ⟨ety 3, .slice (some ⟨u15.heap.size, 0, none⟩) 0 0, []⟩) := (by rw [hF, updF_other _ (by simp)]; exact HB20.out); have hc21 := ht9.cell1 3 (by decide) HV21.out; clear hF ht9 hg9; clear HT20 HX20 HY20 HV20 hc20 HA20 HB20)
          refine hK.out _ _ (by exact trivial) ?_
          clear hK K
          intro hHeld2
          clear hHeld
          have hHeld := hHeld2
          clear hHeld2
          try simp only [Act.put, List.setIfInBounds_toArray, List.set_cons_zero, List.set_cons_succ]
          refine run_at (i := 10) rfl (by kernel_rfl) (by rfl) (fun K hK => ?_)
          simp only [List.getElem_toArray, List.getElem_cons_zero, List.getElem_cons_succ]
          (refine wpo_tlCopy _ _ 3 37 rfl rfl HT21.out (b + 1) (by decide) (Nat.le_succ _) (.slice (some ⟨u15.heap.size, 0, none⟩) 0 0) HB21.out (2, b + 1) (.slice ya Ly yc) (iv ly) HY21.out (iv_one ly) (by have := HLY.out; have := HLS.out; omega) (by rfl) (by rfl) ?_; intro v9 u22 ht9 hg9; obtain ⟨p22, q22, rfl⟩ := ht9.slv (x := (3, b + 1)) (updF_same _ _ _) HLY.out; obtain ⟨F22, hF⟩ : ∃ F9, F9 = updF F21 (3, b + 1) ⟨ety 3, .slice p22 Ly q22, iv ly⟩ := ⟨_, rfl⟩; rw [← hF] at ht9; have HT22 : Hid _ := ht9; have HX22 : Hid (F22 (2, b) = ⟨ety 3, .slice xa Lx xc, iv lx⟩) := (by rw [hF, updF_other _ (by simp)]; exact HX21.out); have HY22 : Hid (F22 (2, b + 1) = ⟨ety 3, .slice ya Ly yc, iv ly⟩) := (by rw [hF, updF_other _ (by simp)]; exact HY21.out); have HV22 : Hid ((F22 (4, 3)).v = .slice a3 b cap9) := (by rw [hF, updF_other _ (by simp)]; exact HV21.out); have HB22 : Hid (F22 (3, b + 1) = ⟨ety 3, .slice p22 Ly q22, iv ly⟩) := (by rw [hF, updF_same]; exact rfl); have HA22 : Hid (F22 (3, b) = ⟨ety 3, .slice p21 Lx q21, iv lx⟩) := (by rw [hF, updF_other _ (by simp)]; exact HA21.out); have hc22 := ht9.cell1 3 (by decide) HV22.out; clear hF ht9 hg9; clear HT21 HX21 HY21 HV21 hc21 HA21 HB21)
          refine hK.out _ _ (by exact trivial) ?_
          clear hK K
          intro hHeld2
          clear hHeld
          have hHeld := hHeld2
          clear hHeld2
          try simp only [Act.put, List.setIfInBounds_toArray, List.set_cons_zero, List.set_cons_succ]
          refine run_at (i := 11) rfl (by kernel_rfl) (by rfl) (fun K hK => ?_)
          simp only [List.getElem_toArray, List.getElem_cons_zero, List.getElem_cons_succ]
          go_simp
          go_wp2_with fail
          refine hK.out _ _ (by exact trivial) ?_
          clear hK K
          intro hHeld2
          clear hHeld
          have hHeld := hHeld2
          clear hHeld2
          try simp only [Act.put, List.setIfInBounds_toArray, List.set_cons_zero, List.set_cons_succ]
          (obtain ⟨u23, hu⟩ : ∃ X : World, X = u22.alloc (.cells #[.slice p21 Lx q21, .slice p22 Ly q22] 37) := ⟨_, rfl⟩; rw [← hu]; have hXr : u23.heap[u22.heap.size]? = some (.cells #[.slice p21 Lx q21, .slice p22 Ly q22] 37 (0, 0)) := (by rw [hu]; exact heap_alloc_new u22 _); have HT23 : Hid (Tl W u23 P ds c K (N4 (a + 1) (a + 1) (b + 2) b) F22) := (by rw [hu]; exact HT22.out.below (al (Below.refl _ _) _)); have hc23 := HT23.out.cell1 3 (by decide) HV22.out; clear hu)
          refine run_at (i := 12) rfl (by kernel_rfl) (by rfl) (fun K hK => ?_)
          simp only [List.getElem_toArray, List.getElem_cons_zero, List.getElem_cons_succ]
          (refine wpo_tlList (N' := N4 (a + 1) (a + 1) (b + 2) (b + 2)) _ _ 3 31 rfl rfl HT23.out (by decide) (.slice a3 b cap9) HV22.out u22.heap.size 2 2 [.slice p21 Lx q21, .slice p22 Ly q22] (by rfl) (by rfl) rfl (by decide) (two_cell hXr) (two_us (F := F22) (k := 3) (n := b) (by rw [HA22.out]) (by rw [HB22.out])) (b + 2) rfl (by omega) (n4_3 (a + 1) b) (cnt_j HT23.out.n (by rw [HA22.out, HX22.out]) (by rw [HB22.out, HY22.out])) ?_; intro G6 cap6 w6 hk6 hz6 ht6; obtain ⟨xs6, ht6⟩ := ht6; have HT6 : Hid _ := ht6; clear ht6)
          refine hK.out _ _ (by exact trivial) ?_
          clear hK K
          intro hHeld2
          clear hHeld
          have hHeld := hHeld2
          clear hHeld2
          try simp only [Act.put, List.setIfInBounds_toArray, List.set_cons_zero, List.set_cons_succ]
          refine take_at (i := 13) 60 (v := ?_) rfl rfl (by kernel_rfl) (by kernel_rfl) (by kernel_rfl) (fun _ _ _ h => h) (by rfl) ?_ hHeld ?_
          rotate_left
          · (intro w hSw; (try dsimp only at hSw); go_simp; try with_reducible rfl)
          simp only [Act.put, List.setIfInBounds_toArray, List.set_cons_zero, List.set_cons_succ]
          refine take_at (i := 14) 61 (v := ?_) rfl rfl (by kernel_rfl) (by kernel_rfl) (by kernel_rfl) (fun _ _ _ h => h) (by rfl) ?_ hHeld ?_
          rotate_left
          · (intro w hSw; (try dsimp only at hSw); go_simp; try with_reducible rfl)
          simp only [Act.put, List.setIfInBounds_toArray, List.set_cons_zero, List.set_cons_succ]
          refine run_at (i := 15) rfl (by kernel_rfl) (by rfl) (fun K hK => ?_)
          simp only [List.getElem_toArray, List.getElem_cons_zero, List.getElem_cons_succ]
          go_simp
          go_wp2_with fail
          refine hK.out _ _ (by exact trivial) ?_
          clear hK K
          intro hHeld2
          clear hHeld
          have hHeld := hHeld2
          clear hHeld2
          try simp only [Act.put, List.setIfInBounds_toArray, List.set_cons_zero, List.set_cons_succ]
          refine wpAnyH_done (by kernel_rfl) ?_ _
          refine NoPanic.normal ?_
      rotate_left 2
      refine AllReadyH.cons (o := _) rfl (fun K hK => ?_) ?_
      focus
        rw [if_pos (by rfl)]
        simp only [List.getElem_toArray, List.getElem_cons_zero, List.getElem_cons_succ]
        (refine wpo_tlCopy _ _ 3 37 rfl rfl HT15.out b (by decide) (Nat.le_refl _) (.slice (some ⟨u0.heap.size, 0, none⟩) 0 0) HA15.out (2, b) (.slice xa Lx xc) (iv lx) HX15.out (iv_one lx) (by have := HLX.out; have := HLS.out; omega) (by rfl) (by rfl) ?_; intro v9 u24 ht9 hg9; obtain ⟨p24, q24, rfl⟩ := ht9.slv (x := (3, b)) (updF_same _ _ _) HLX.out; obtain ⟨F24, hF⟩ : ∃ F9, F9 = updF F15 (3, b) ⟨ety 3, .slice p24 Lx q24, iv lx⟩ := ⟨_, rfl⟩; rw [← hF] at ht9; have HT24 : Hid _ := ht9; have HX24 : Hid (F24 (2, b) = ⟨ety 3, .slice xa Lx xc, iv lx⟩) := (by rw [hF, updF_other _ (by simp)]; exact HX15.out); have HY24 : Hid (F24 (2, b + 1) = ⟨ety 3, .slice ya Ly yc, iv ly⟩) := (by rw [hF, updF_other _ (by simp)]; exact HY15.out); have HV24 : Hid ((F24 (4, 3)).v = .slice a3 b cap9) := (by rw [hF, updF_other _ (by simp)]; exact HV15.out); have HA24 : Hid (F24 (3, b) = ⟨ety 3, .slice p24 Lx q24, iv lx⟩) := (by rw [hF, updF_same]; exact rfl); have hc24 := ht9.cell1 3 (by decide) HV24.out; clear hF ht9 hg9; clear HT15 HX15 HY15 HV15 hc15 HA15)
        refine hK.out _ _ (by exact trivial) ?_
        clear hK K
        intro hHeld2
        clear hHeld
        have hHeld := hHeld2
        clear hHeld2
        try simp only [Act.put, List.setIfInBounds_toArray, List.set_cons_zero, List.set_cons_succ]
        refine wpAnyH_ready (rs := [4, 8]) (by kernel_rfl) (by simp) ?_
        refine AllReadyH.cons (o := _) rfl (fun K hK => ?_) ?_
        focus
          rw [if_pos (by rfl)]
          refine val_wp 51 (v := ?_) rfl ?_ ?_
          rotate_left
          · (go_simp; try with_reducible rfl)
          refine hK.out _ _ (by exact trivial) ?_
          clear hK K
          intro hHeld2
          clear hHeld
          have hHeld := hHeld2
          clear hHeld2
          simp only [Act.put, List.setIfInBounds_toArray, List.set_cons_zero, List.set_cons_succ]
          refine run_at (i := 8) rfl (by kernel_rfl) (by rfl) (fun K hK => ?_)
          simp only [List.getElem_toArray, List.getElem_cons_zero, List.getElem_cons_succ]
          go_simp
          go_wp2_with fail
          refine hK.out _ _ (by exact trivial) ?_
          clear hK K
          intro hHeld2
          clear hHeld
          have hHeld := hHeld2
          clear hHeld2
          try simp only [Act.put, List.setIfInBounds_toArray, List.set_cons_zero, List.set_cons_succ]
          (obtain ⟨u25, hu⟩ : ∃ X : World, X = u24.alloc (.cells #[] 3) := ⟨_, rfl⟩; rw [← hu]; obtain ⟨F25, hF⟩ : ∃ F9, F9 = updF F24 (3, b + 1) ⟨ety 3, .slice (some ⟨u24.heap.size, 0, none⟩) 0 0, []⟩ := ⟨_, rfl⟩; have HT25 : Hid (Tl W u25 P ds c K (N4 (a + 1) (a + 1) (b + 2) b) F25) := (by rw [hF, hu]; exact HT24.out.put (al (Below.refl _ _) _) 3 (b + 1) (by decide) (Nat.le_succ _) _ [] (made0 u24 u24.heap.size 3 (Nat.le_refl _)) (by decide)); have HX25 : Hid (F25 (2, b) = ⟨ety 3, .slice xa Lx xc, iv lx⟩) := (by rw [hF, updF_other _ (by simp)]; exact HX24.out); have HY25 : Hid (F25 (2, b + 1) = ⟨ety 3, .slice ya Ly yc, iv ly⟩) := (by rw [hF, updF_other _ (by simp)]; exact HY24.out); have HV25 : Hid ((F25 (4, 3)).v = .slice a3 b cap9) := (by rw [hF, updF_other _ (by simp)]; exact HV24.out); have HB25 : Hid (F25 (3, b + 1) = ⟨ety 3, .slice (some ⟨u24.heap.size, 0, none⟩) 0 0, []⟩) := (by rw [hF, updF_same]; exact rfl); have HA25 : Hid (F25 (3, b) = ⟨ety 3, .slice p24 Lx q24, iv lx⟩) := (by rw [hF, updF_other _ (by simp)]; exact HA24.out); have hc25 := HT25.out.cell1 3 (by decide) HV25.out; clear hu hF; clear HT24 HX24 HY24 HV24 hc24 HA24)
          refine run_at (i := 10) rfl (by kernel_rfl) (by rfl) (fun K hK => ?_)
          simp only [List.getElem_toArray, List.getElem_cons_zero, List.getElem_cons_succ]
          (refine wpo_tlCopy _ _ 3 37 rfl rfl HT25.out (b + 1) (by decide) (Nat.le_succ _) (.slice (some ⟨u24.heap.size, 0, none⟩) 0 0) HB25.out (2, b + 1) (.slice ya Ly yc) (iv ly) HY25.out (iv_one ly) (by have := HLY.out; have := HLS.out; omega) (by rfl) (by rfl) ?_; intro v9 u26 ht9 hg9; obtain ⟨p26, q26, rfl⟩ := ht9.slv (x := (3, b + 1)) (updF_same _ _ _) HLY.out; obtain ⟨F26, hF⟩ : ∃ F9, F9 = updF F25 (3, b + 1) ⟨ety 3, .slice p26 Ly q26, iv ly⟩ := ⟨_, rfl⟩; rw [← hF] at ht9; have HT26 : Hid _ := ht9; have HX26 : Hid (F26 (2, b) = ⟨ety 3, .slice xa Lx xc, iv lx⟩) := (by rw [hF, updF_other _ (by simp)]; exact HX25.out); have HY26 : Hid (F26 (2, b + 1) = ⟨ety 3, .slice ya Ly yc, iv ly⟩) := (by rw [hF, updF_other _ (by simp)]; exact HY25.out); have HV26 : Hid ((F26 (4, 3)).v = .slice a3 b cap9) := (by rw [hF, updF_other _ (by simp)]; exact HV25.out); have HB26 : Hid (F26 (3, b + 1) = ⟨ety 3, .slice p26 Ly q26, iv ly⟩) := (by rw [hF, updF_same]; exact rfl); have HA26 : Hid (F26 (3, b) = ⟨ety 3, .slice p24 Lx q24, iv lx⟩) := (by rw [hF, updF_other _ (by simp)]; exact HA25.out); have hc26 := ht9.cell1 3 (by decide) HV26.out; clear hF ht9 hg9; clear HT25 HX25 HY25 HV25 hc25 HA25 HB25)
          refine hK.out _ _ (by exact trivial) ?_
          clear hK K
          intro hHeld2
          clear hHeld
          have hHeld := hHeld2
          clear hHeld2
          try simp only [Act.put, List.setIfInBounds_toArray, List.set_cons_zero, List.set_cons_succ]
          refine run_at (i := 11) rfl (by kernel_rfl) (by rfl) (fun K hK => ?_)
          simp only [List.getElem_toArray, List.getElem_cons_zero, List.getElem_cons_succ]
          go_simp
          go_wp2_with fail
          refine hK.out _ _ (by exact trivial) ?_
          clear hK K
          intro hHeld2
          clear hHeld
          have hHeld := hHeld2
          clear hHeld2
          try simp only [Act.put, List.setIfInBounds_toArray, List.set_cons_zero, List.set_cons_succ]
          (obtain ⟨u27, hu⟩ : ∃ X : World, X = u26.alloc (.cells #[.slice p24 Lx q24, .slice p26 Ly q26] 37) := ⟨_, rfl⟩; rw [← hu]; have hXr : u27.heap[u26.heap.size]? = some (.cells #[.slice p24 Lx q24, .slice p26 Ly q26] 37 (0, 0)) := (by rw [hu]; exact heap_alloc_new u26 _); have HT27 : Hid (Tl W u27 P ds c K (N4 (a + 1) (a + 1) (b + 2) b) F26) := (by rw [hu]; exact HT26.out.below (al (Below.refl _ _) _)); have hc27 := HT27.out.cell1 3 (by decide) HV26.out; clear hu)
          refine run_at (i := 12) rfl (by kernel_rfl) (by rfl) (fun K hK => ?_)
          simp only [List.getElem_toArray, List.getElem_cons_zero, List.getElem_cons_succ]
          (refine wpo_tlList (N' := N4 (a + 1) (a + 1) (b + 2) (b + 2)) _ _ 3 31 rfl rfl HT27.out (by decide) (.slice a3 b cap9) HV26.out u26.heap.size 2 2 [.slice p24 Lx q24, .slice p26 Ly q26] (by rfl) (by rfl) rfl (by decide) (two_cell hXr) (two_us (F := F26) (k := 3) (n := b) (by rw [HA26.out]) (by rw [HB26.out])) (b + 2) rfl (by omega) (n4_3 (a + 1) b) (cnt_j HT27.out.n (by rw [HA26.out, HX26.out]) (by rw [HB26.out, HY26.out])) ?_; intro G6 cap6 w6 hk6 hz6 ht6; obtain ⟨xs6, ht6⟩ := ht6; have HT6 : Hid _ := ht6; clear ht6)
          refine hK.out _ _ (by exact trivial) ?_
          clear hK K
          intro hHeld2
          clear hHeld
          have hHeld := hHeld2
          clear hHeld2
          try simp only [Act.put, List.setIfInBounds_toArray, List.set_cons_zero, List.set_cons_succ]
          refine take_at (i := 13) 60 (v := ?_) rfl rfl (by kernel_rfl) (by kernel_rfl) (by kernel_rfl) (fun _ _ _ h => h) (by rfl) ?_ hHeld ?_
          rotate_left
          · (intro w hSw; (try dsimp only at hSw); go_simp; try with_reducible rfl)
          simp only [Act.put, List.setIfInBounds_toArray, List.set_cons_zero, List.set_cons_succ]
          refine take_at (i := 14) 61 (v := ?_) rfl rfl (by kernel_rfl) (by kernel_rfl) (by kernel_rfl) (fun _ _ _ h => h) (by rfl) ?_ hHeld ?_
          rotate_left
          · (intro w hSw; (try dsimp only at hSw); go_simp; try with_reducible rfl)
          simp only [Act.put, List.setIfInBounds_toArray, List.set_cons_zero, List.set_cons_succ]
          refine run_at (i := 15) rfl (by kernel_rfl) (by rfl) (fun K hK => ?_)
          simp only [List.getElem_toArray, List.getElem_cons_zero, List.getElem_cons_succ]
          go_simp
          go_wp2_with fail
          refine hK.out _ _ (by exact trivial) ?_
          clear hK K
          intro hHeld2
          clear hHeld
          have hHeld := hHeld2
          clear hHeld2
          try simp only [Act.put, List.setIfInBounds_toArray, List.set_cons_zero, List.set_cons_succ]
          refine wpAnyH_done (by kernel_rfl) ?_ _
          refine NoPanic.normal ?_
        rotate_left 1
        refine AllReadyH.cons (o := _) rfl (fun K hK => ?_) AllReadyH.nil
        focus
          rw [if_pos (by rfl)]
          simp only [List.getElem_toArray, List.getElem_cons_zero, List.getElem_cons_succ]
          go_simp
          go_wp2_with fail
          refine hK.out _ _ (by exact trivial) ?_
          clear hK K
          intro hHeld2
          clear hHeld
          have hHeld := hHeld2
          clear hHeld2
          try simp only [Act.put, List.setIfInBounds_toArray, List.set_cons_zero, List.set_cons_succ]
          (obtain ⟨u28, hu⟩ : ∃ X : World, X = u24.alloc (.cells #[] 3) := ⟨_, rfl⟩; rw [← hu]; obtain ⟨F28, hF⟩ : ∃ F9, F9 = updF F24 (3, b + 1) ⟨ety 3, .slice (some ⟨u24.heap.size, 0, none⟩) 0 0, []⟩ := ⟨_, rfl⟩; have HT28 : Hid (Tl W u28 P ds c K (N4 (a + 1) (a + 1) (b + 2) b) F28) := (by rw [hF, hu]; exact HT24.out.put (al (Below.refl _ _) _) 3 (b + 1) (by decide) (Nat.le_succ _) _ [] (made0 u24 u24.heap.size 3 (Nat.le_refl _)) (by decide)); have HX28 : Hid (F28 (2, b) = ⟨ety 3, .slice xa Lx xc, iv lx⟩) := (by rw [hF, updF_other _ (by simp)]; exact HX24.out); have HY28 : Hid (F28 (2, b + 1) = ⟨ety 3, .slice ya Ly yc, iv ly⟩) := (by rw [hF, updF_other _ (by simp)]; exact HY24.out); have HV28 : Hid ((F28 (4, 3)).v = .slice a3 b cap9) := (by rw [hF, updF_other _ (by simp)]; exact HV24.out); have HB28 : Hid (F28 (3, b + 1) = ⟨ety 3, .slice (some ⟨u24.heap.size, 0, none⟩) 0 0, []⟩) := (by rw [hF, updF_same]; exact rfl); have HA28 : Hid (F28 (3, b) = ⟨ety 3, .slice p24 Lx q24, iv lx⟩) := (by rw [hF, updF_other _ (by simp)]; exact HA24.out); have hc28 := HT28.out.cell1 3 (by decide) HV28.out; clear hu hF; clear HT24 HX24 HY24 HV24 hc24 HA24)
          refine wpAnyH_ready (rs := [4, 10]) (by kernel_rfl) (by simp) ?_
          refine AllReadyH.cons (o := _) rfl (fun K hK => ?_) ?_
          focus
            rw [if_pos (by rfl)]
            refine val_wp 51 (v := ?_) rfl ?_ ?_
            rotate_left
            · (go_simp; try with_reducible rfl)
            refine hK.out _ _ (by exact trivial) ?_
            clear hK K
            intro hHeld2
            clear hHeld
            have hHeld := hHeld2
            clear hHeld2
            simp only [Act.put, List.setIfInBounds_toArray, List.set_cons_zero, List.set_cons_succ]
            refine run_at (i := 10) rfl (by kernel_rfl) (by rfl) (fun K hK => ?_)
            simp only [List.getElem_toArray, List.getElem_cons_zero, List.getElem_cons_succ]
            (refine wpo_tlCopy _ _ 3 37 rfl rfl HT28.out (b + 1) (by decide) (Nat.le_succ _) (.slice (some ⟨u24.heap.size, 0, none⟩) 0 0) HB28.out (2, b + 1) (.slice ya Ly yc) (iv ly) HY28.out (iv_one ly) (by have := HLY.out; have := HLS.out; omega) (by rfl) (by rfl) ?_; intro v9 u29 ht9 hg9; obtain ⟨p29, q29, rfl⟩ := ht9.slv (x := (3, b + 1)) (updF_same _ _ _) HLY.out; obtain ⟨F29, hF⟩ : ∃ F9, F9 = updF F28 (3, b + 1) ⟨ety 3, .slice p29 Ly q29, iv ly⟩ := ⟨_, rfl⟩; rw [← hF] at ht9; have HT29 : Hid _ := ht9; have HX29 : Hid (F29 (2, b) = ⟨ety 3, .slice xa Lx xc, iv lx⟩) := (by rw [hF, updF_other _ (by simp)]; exact HX28.out); have HY29 : Hid (F29 (2, b + 1) = ⟨ety 3, .slice ya Ly yc, iv ly⟩) := (by rw [hF, updF_other _ (by simp)]; exact HY28.out); have HV29 : Hid ((F29 (4, 3)).v = .slice a3 b cap9) := (by rw [hF, updF_other _ (by simp)]; exact HV28.out); have HB29 : Hid (F29 (3, b + 1) = ⟨ety 3, .slice p29 Ly q29, iv ly⟩) := (by rw [hF, updF_same]; exact rfl); have HA29 : Hid (F29 (3, b) = ⟨ety 3, .slice p24 Lx q24, iv lx⟩) := (by rw [hF, updF_other _ (by simp)]; exact HA28.out); have hc29 := ht9.cell1 3 (by decide) HV29.out; clear hF ht9 hg9; clear HT28 HX28 HY28 HV28 hc28 HA28 HB28)
            refine hK.out _ _ (by exact trivial) ?_
            clear hK K
            intro hHeld2
            clear hHeld
            have hHeld := hHeld2
            clear hHeld2
            try simp only [Act.put, List.setIfInBounds_toArray, List.set_cons_zero, List.set_cons_succ]
            refine run_at (i := 11) rfl (by kernel_rfl) (by rfl) (fun K hK => ?_)
            simp only [List.getElem_toArray, List.getElem_cons_zero, List.getElem_cons_succ]
            go_simp
            go_wp2_with fail
            refine hK.out _ _ (by exact trivial) ?_
            clear hK K
            intro hHeld2
            clear hHeld
            have hHeld := hHeld2
            clear hHeld2
            try simp only [Act.put, List.setIfInBounds_toArray, List.set_cons_zero, List.set_cons_succ]
            (obtain ⟨u30, hu⟩ : ∃ X : World, X = u29.alloc (.cells #[.slice p24 Lx q24, .slice p29 Ly q29] 37) := ⟨_, rfl⟩; rw [← hu]; have hXr : u30.heap[u29.heap.size]? = some (.cells #[.slice p24 Lx q24, .slice p29 Ly q29] 37 (0, 0)) := (by rw [hu]; exact heap_alloc_new u29 _); have HT30 : Hid (Tl W u30 P ds c K (N4 (a + 1) (a + 1) (b + 2) b) F29) := (by rw [hu]; exact HT29.out.below (al (Below.refl _ _) _)); have hc30 := HT30.out.cell1 3 (by decide) HV29.out; clear hu)
            refine run_at (i := 12) rfl (by kernel_rfl) (by rfl) (fun K hK => ?_)
            simp only [List.getElem_toArray, List.getElem_cons_zero, List.getElem_cons_succ]
            (refine wpo_tlList (N' := N4 (a + 1) (a + 1) (b + 2) (b + 2)) _ _ 3 31 rfl rfl HT30.out (by decide) (.slice a3 b cap9) HV29.out u29.heap.size 2 2 [.slice p24 Lx q24, .slice p29 Ly q29] (by rfl) (by rfl) rfl (by decide) (two_cell hXr) (two_us (F := F29) (k := 3) (n := b) (by rw [HA29.out]) (by rw [HB29.out])) (b + 2) rfl (by omega) (n4_3 (a + 1) b) (cnt_j HT30.out.n (by rw [HA29.out, HX29.out]) (by rw [HB29.out, HY29.out])) ?_; intro G6 cap6 w6 hk6 hz6 ht6; obtain ⟨xs6, ht6⟩ := ht6; have HT6 : Hid _ := ht6; clear ht6)
            refine hK.out _ _ (by exact trivial) ?_
            clear hK K
            intro hHeld2
            clear hHeld
            have hHeld := hHeld2
            clear hHeld2
            try simp only [Act.put, List.setIfInBounds_toArray, List.set_cons_zero, List.set_cons_succ]
            refine take_at (i := 13) 60 (v := ?_) rfl rfl (by kernel_rfl) (by kernel_rfl) (by kernel_rfl) (fun _ _ _ h => h) (by rfl) ?_ hHeld ?_
            rotate_left
            · (intro w hSw; (try dsimp only at hSw); go_simp; try with_reducible rfl)
            simp only [Act.put, List.setIfInBounds_toArray, List.set_cons_zero, List.set_cons_succ]
            refine take_at (i := 14) 61 (v := ?_) rfl rfl (by kernel_rfl) (by kernel_rfl) (by kernel_rfl) (fun _ _ _ h => h) (by rfl) ?_ hHeld ?_
            rotate_left
            · (intro w hSw; (try dsimp only at hSw); go_simp; try with_reducible rfl)
            simp only [Act.put, List.setIfInBounds_toArray, List.set_cons_zero, List.set_cons_succ]
            refine run_at (i := 15) rfl (by kernel_rfl) (by rfl) (fun K hK => ?_)
            simp only [List.getElem_toArray, List.getElem_cons_zero, List.getElem_cons_succ]
            go_simp
            go_wp2_with fail
            refine hK.out _ _ (by exact trivial) ?_
            clear hK K
            intro hHeld2
            clear hHeld
            have hHeld := hHeld2
            clear hHeld2
            try simp only [Act.put, List.setIfInBounds_toArray, List.set_cons_zero, List.set_cons_succ]
            refine wpAnyH_done (by kernel_rfl) ?_ _
            refine NoPanic.normal ?_
          rotate_left 1
          refine AllReadyH.cons (o := _) rfl (fun K hK => ?_) AllReadyH.nil
          focus
            rw [if_pos (by rfl)]
            simp only [List.getElem_toArray, List.getElem_cons_zero, List.getElem_cons_succ]
            (refine wpo_tlCopy _ _ 3 37 rfl rfl HT28.out (b + 1) (by decide) (Nat.le_succ _) (.slice (some ⟨u24.heap.size, 0, none⟩) 0 0) HB28.out (2, b + 1) (.slice ya Ly yc) (iv ly) HY28.out (iv_one ly) (by have := HLY.out; have := HLS.out; omega) (by rfl) (by rfl) ?_; intro v9 u31 ht9 hg9; obtain ⟨p31, q31, rfl⟩ := ht9.slv (x := (3, b + 1)) (updF_same _ _ _) HLY.out; obtain ⟨F31, hF⟩ : ∃ F9, F9 = updF F28 (3, b + 1) ⟨ety 3, .slice p31 Ly q31, iv ly⟩ := ⟨_, rfl⟩; rw [← hF] at ht9; have HT31 : Hid _ := ht9; have HX31 : Hid (F31 (2, b) = ⟨ety 3, .slice xa Lx xc, iv lx⟩) := (by rw [hF, updF_other _ (by simp)]; exact HX28.out); have HY31 : Hid (F31 (2, b + 1) = ⟨ety 3, .slice ya Ly yc, iv ly⟩) := (by rw [hF, updF_other _ (by simp)]; exact HY28.out); have HV31 : Hid ((F31 (4, 3)).v = .slice a3 b cap9) := (by rw [hF, updF_other _ (by simp)]; exact HV28.out); have HB31 : Hid (F31 (3, b + 1) = ⟨ety 3, .slice p31 Ly q31, iv ly⟩) := (by rw [hF, updF_same]; exact rfl); have HA31 : Hid (F31 (3, b) = ⟨ety 3, .slice p24 Lx q24, iv lx⟩) := (by rw [hF, updF_other _ (by simp)]; exact HA28.out); have hc31 := ht9.cell1 3 (by decide) HV31.out; clear hF ht9 hg9; clear HT28 HX28 HY28 HV28 hc28 HA28 HB28)
            refine hK.out _ _ (by exact trivial) ?_
            clear hK K
            intro hHeld2
            clear hHeld
            have hHeld := hHeld2
            clear hHeld2
            try simp only [Act.put, List.setIfInBounds_toArray, List.set_cons_zero, List.set_cons_succ]
            refine wpAnyH_ready (rs := [4, 11]) (by kernel_rfl) (by simp) ?_
            refine AllReadyH.cons (o := _) rfl (fun K hK => ?_) ?_
            focus
              rw [if_pos (by rfl)]
              refine val_wp 51 (v := ?_) rfl ?_ ?_
              rotate_left
              · (go_simp; try with_reducible rfl)
              refine hK.out _ _ (by exact trivial) ?_
              clear hK K
              intro hHeld2
              clear hHeld
              have hHeld := hHeld2
              clear hHeld2
              simp only [Act.put, List.setIfInBounds_toArray, List.set_cons_zero, List.set_cons_succ]
              refine run_at (i := 11) rfl (by kernel_rfl) (by rfl) (fun K hK => ?_)
              simp only [List.getElem_toArray, List.getElem_cons_zero, List.getElem_cons_succ]
              go_simp
              go_wp2_with fail
              refine hK.out _ _ (by exact trivial) ?_
              clear hK K
              intro hHeld2
              clear hHeld
              have hHeld := hHeld2
              clear hHeld2
              try simp only [Act.put, List.setIfInBounds_toArray, List.set_cons_zero, List.set_cons_succ]
              (obtain ⟨u32, hu⟩ : ∃ X : World, X = u31.alloc (.cells #[.slice p24 Lx q24, .slice p31 Ly q31] 37) := ⟨_, rfl⟩; rw [← hu]; have hXr : u32.heap[u31.heap.size]? = some (.cells #[.slice p24 Lx q24, .slice p31 Ly q31] 37 (0, 0)) := (by rw [hu]; exact heap_alloc_new u31 _); have HT32 : Hid (Tl W u32 P ds c K (N4 (a + 1) (a + 1) (b + 2) b) F31) := (by rw [hu]; exact HT31.out.below (al (Below.refl _ _) _)); have hc32 := HT32.out.cell1 3 (by decide) HV31.out; clear hu)
              refine run_at (i := 12) rfl (by kernel_rfl) (by rfl) (fun K hK => ?_)
              simp only [List.getElem_toArray, List.getElem_cons_zero, List.getElem_cons_succ]
              (refine wpo_tlList (N' := N4 (a + 1) (a + 1) (b + 2) (b + 2)) _ _ 3 31 rfl rfl HT32.out (by decide) (.slice a3 b cap9) HV31.out u31.heap.size 2 2 [.slice p24 Lx q24, .slice p31 Ly q31] (by rfl) (by rfl) rfl (by decide) (two_cell hXr) (two_us (F := F31) (k := 3) (n := b) (by rw [HA31.out]) (by rw [HB31.out])) (b + 2) rfl (by omega) (n4_3 (a + 1) b) (cnt_j HT32.out.n (by rw [HA31.out, HX31.out]) (by rw [HB31.out, HY31.out])) ?_; intro G6 cap6 w6 hk6 hz6 ht6; obtain ⟨xs6, ht6⟩ := ht6; have HT6 : Hid _ := ht6; clear ht6)
              refine hK.out _ _ (by exact trivial) ?_
              clear hK K
              intro hHeld2
              clear hHeld
              have hHeld := hHeld2
              clear hHeld2
              try simp only [Act.put, List.setIfInBounds_toArray, List.set_cons_zero, List.set_cons_succ]
              refine take_at (i := 13) 60 (v := ?_) rfl rfl (by kernel_rfl) (by kernel_rfl) (by kernel_rfl) (fun _ _ _ h => h) (by rfl) ?_ hHeld ?_
              rotate_left
              · (intro w hSw; (try dsimp only at hSw); go_simp; try with_reducible rfl)
              simp only [Act.put, List.setIfInBounds_toArray, List.set_cons_zero, List.set_cons_succ]
              refine take_at (i := 14) 61 (v := ?_) rfl rfl (by kernel_rfl) (by kernel_rfl) (by kernel_rfl) (fun _ _ _ h => h) (by rfl) ?_ hHeld ?_
              rotate_left
              · (intro w hSw; (try dsimp only at hSw); go_simp; try with_reducible rfl)
              simp only [Act.put, List.setIfInBounds_toArray, List.set_cons_zero, List.set_cons_succ]
              refine run_at (i := 15) rfl (by kernel_rfl) (by rfl) (fun K hK => ?_)
              simp only [List.getElem_toArray, List.getElem_cons_zero, List.getElem_cons_succ]
              go_simp
              go_wp2_with fail
              refine hK.out _ _ (by exact trivial) ?_
              clear hK K
              intro hHeld2
              clear hHeld
              have hHeld := hHeld2
              clear hHeld2
              try simp only [Act.put, List.setIfInBounds_toArray, List.set_cons_zero, List.set_cons_succ]
              refine wpAnyH_done (by kernel_rfl) ?_ _
              refine NoPanic.normal ?_
            rotate_left 1
            refine AllReadyH.cons (o := _) rfl (fun K hK => ?_) AllReadyH.nil
            focus
              rw [if_pos (by rfl)]
              simp only [List.getElem_toArray, List.getElem_cons_zero, List.getElem_cons_succ]
              go_simp
              go_wp2_with fail
              refine hK.out _ _ (by exact trivial) ?_
              clear hK K
              intro hHeld2
              clear hHeld
              have hHeld := hHeld2
              clear hHeld2
              try simp only [Act.put, List.setIfInBounds_toArray, List.set_cons_zero, List.set_cons_succ]
              (obtain ⟨u33, hu⟩ : ∃ X : World, X = u31.alloc (.cells #[.slice p24 Lx q24, .slice p31 Ly q31] 37) := ⟨_, rfl⟩; rw [← hu]; have hXr : u33.heap[u31.heap.size]? = some (.cells #[.slice p24 Lx q24, .slice p31 Ly q31] 37 (0, 0)) := (by rw [hu]; exact heap_alloc_new u31 _); have HT33 : Hid (Tl W u33 P ds c K (N4 (a + 1) (a + 1) (b + 2) b) F31) := (by rw [hu]; exact HT31.out.below (al (Below.refl _ _) _)); have hc33 := HT33.out.cell1 3 (by decide) HV31.out; clear hu)
              refine val_at (i := 4) 51 (v := ?_) rfl rfl (by kernel_rfl) (by rfl) ?_ ?_ ?_
              rotate_left
              · (go_simp; try with_reducible rfl)
              · (exact trivial)
              intro hHeld2
              clear hHeld
              have hHeld := hHeld2
              clear hHeld2
              simp only [Act.put, List.setIfInBounds_toArray, List.set_cons_zero, List.set_cons_succ]
              refine run_at (i := 12) rfl (by kernel_rfl) (by rfl) (fun K hK => ?_)
              simp only [List.getElem_toArray, List.getElem_cons_zero, List.getElem_cons_succ]
              (refine wpo_tlList (N' := N4 (a + 1) (a + 1) (b + 2) (b + 2)) _ _ 3 31 rfl rfl HT33.out (by decide) (.slice a3 b cap9) HV31.out u31.heap.size 2 2 [.slice p24 Lx q24, .slice p31 Ly q31] (by rfl) (by rfl) rfl (by decide) (two_cell hXr) (two_us (F := F31) (k := 3) (n := b) (by rw [HA31.out]) (by rw [HB31.out])) (b + 2) rfl (by omega) (n4_3 (a + 1) b) (cnt_j HT33.out.n (by rw [HA31.out, HX31.out]) (by rw [HB31.out, HY31.out])) ?_; intro G6 cap6 w6 hk6 hz6 ht6; obtain ⟨xs6, ht6⟩ := ht6; have HT6 : Hid _ := ht6; clear ht6)
              refine hK.out _ _ (by exact trivial) ?_
              clear hK K
              intro hHeld2
              clear hHeld
              have hHeld := hHeld2
              clear hHeld2
              try simp only [Act.put, List.setIfInBounds_toArray, List.set_cons_zero, List.set_cons_succ]
              refine take_at (i := 13) 60 (v := ?_) rfl rfl (by kernel_rfl) (by kernel_rfl) (by kernel_rfl) (fun _ _ _ h => h) (by rfl) ?_ hHeld ?_
              rotate_left
              · (intro w hSw; (try dsimp only at hSw); go_simp; try with_reducible rfl)
              simp only [Act.put, List.setIfInBounds_toArray, List.set_cons_zero, List.set_cons_succ]
              refine take_at (i := 14) 61 (v := ?_) rfl rfl (by kernel_rfl) (by kernel_rfl) (by kernel_rfl) (fun _ _ _ h => h) (by rfl) ?_ hHeld ?_
              rotate_left
              · (intro w hSw; (try dsimp only at hSw); go_simp; try with_reducible rfl)
              simp only [Act.put, List.setIfInBounds_toArray, List.set_cons_zero, List.set_cons_succ]
              refine run_at (i := 15) rfl (by kernel_rfl) (by rfl) (fun K hK => ?_)
              simp only [List.getElem_toArray, List.getElem_cons_zero, List.getElem_cons_succ]
              go_simp
              go_wp2_with fail
              refine hK.out _ _ (by exact trivial) ?_
              clear hK K
              intro hHeld2
              clear hHeld
              have hHeld := hHeld2
              clear hHeld2
              try simp only [Act.put, List.setIfInBounds_toArray, List.set_cons_zero, List.set_cons_succ]
              refine wpAnyH_done (by kernel_rfl) ?_ _
              refine NoPanic.normal ?_
      rotate_left 4
      refine AllReadyH.cons (o := _) rfl (fun K hK => ?_) AllReadyH.nil
      focus
        rw [if_pos (by rfl)]
        simp only [List.getElem_toArray, List.getElem_cons_zero, List.getElem_cons_succ]
        go_simp
        go_wp2_with fail
        refine hK.out _ _ (by exact trivial) ?_
        clear hK K
        intro hHeld2
        clear hHeld
        have hHeld := hHeld2
        clear hHeld2
        try simp only [Act.put, List.setIfInBounds_toArray, List.set_cons_zero, List.set_cons_succ]
        (obtain ⟨u34, hu⟩ : ∃ X : World, X = u15.alloc (.cells #[] 3) := ⟨_, rfl⟩; rw [← hu]; obtain ⟨F34, hF⟩ : ∃ F9, F9 = updF F15 (3, b + 1) ⟨ety 3, .slice (some ⟨u15.heap.size, 0, none⟩) 0 0, []⟩ := ⟨_, rfl⟩; have HT34 : Hid (Tl W u34 P ds c K (N4 (a + 1) (a + 1) (b + 2) b) F34) := (by rw [hF, hu]; exact HT15.out.put (al (Below.refl _ _) _) 3 (b + 1) (by decide) (Nat.le_succ _) _ [] (made0 u15 u15.heap.size 3 (Nat.le_refl _)) (by decide)); have HX34 : Hid (F34 (2, b) = ⟨ety 3, .slice xa Lx xc, iv lx⟩) := (by rw [hF, updF_other _ (by simp)]; exact HX15.out); have HY34 : Hid (F34 (2, b + 1) = ⟨ety 3, .slice ya Ly yc, iv ly⟩) := (by rw [hF, updF_other _ (by simp)]; exact HY15.out); have HV34 : Hid ((F34 (4, 3)).v = .slice a3 b cap9) := (by rw [hF, updF_other _ (by simp)]; exact HV15.out); have HB34 : Hid (F34 (3, b + 1) = ⟨ety 3, .slice (some ⟨u15.heap.size, 0, none⟩) 0 0, []⟩) := (by rw [hF, updF_same]; exact rfl); have HA34 : Hid (F34 (3, b) = ⟨ety 3, .slice (some ⟨u0.heap.size, 0, none⟩) 0 0, []⟩) := (by rw [hF, updF_other _ (by simp)]; exact HA15.out); have hc34 := HT34.out.cell1 3 (by decide) HV34.out; clear hu hF; clear HT15 HX15 HY15 HV15 hc15 HA15)
        refine wpAnyH_ready (rs := [4, 7]) (by kernel_rfl) (by simp) ?_
        refine AllReadyH.cons (o := _) rfl (fun K hK => ?_) ?_
        focus
          rw [if_pos (by rfl)]
          refine val_wp 51 (v := ?_) rfl ?_ ?_
          rotate_left
          · (go_simp; try with_reducible rfl)
          refine hK.out _ _ (by exact trivial) ?_
          clear hK K
          intro hHeld2
          clear hHeld
          have hHeld := hHeld2
          clear hHeld2
          simp only [Act.put, List.setIfInBounds_toArray, List.set_cons_zero, List.set_cons_succ]
          refine run_at (i := 7) rfl (by kernel_rfl) (by rfl) (fun K hK => ?_)
          simp only [List.getElem_toArray, List.getElem_cons_zero, List.getElem_cons_succ]
          (refine wpo_tlCopy _ _ 3 37 rfl rfl HT34.out b (by decide) (Nat.le_refl _) (.slice (some ⟨u0.heap.size, 0, none⟩) 0 0) HA34.out (2, b) (.slice xa Lx xc) (iv lx) HX34.out (iv_one lx) (by have := HLX.out; have := HLS.out; omega) (by rfl) (by rfl) ?_; intro v9 u35 ht9 hg9; obtain ⟨p35, q35, rfl⟩ := ht9.slv (x := (3, b)) (updF_same _ _ _) HLX.out; obtain ⟨F35, hF⟩ : ∃ F9, F9 = updF F34 (3, b) ⟨ety 3, .slice p35 Lx q35, iv lx⟩ := ⟨_, rfl⟩; rw [← hF] at ht9; have HT35 : Hid _ := ht9; have HX35 : Hid (F35 (2, b) = ⟨ety 3, .slice xa Lx xc, iv lx⟩) := (by rw [hF, updF_other _ (by simp)]; exact HX34.out); have HY35 : Hid (F35 (2, b + 1) = ⟨ety 3, .slice ya Ly yc, iv ly⟩) := (by rw [hF, updF_other _ (by simp)]; exact HY34.out); have HV35 : Hid ((F35 (4, 3)).v = .slice a3 b cap9) := (by rw [hF, updF_other _ (by simp)]; exact HV34.out); have HA35 : Hid (F35 (3, b) = ⟨ety 3, .slice p35 Lx q35, iv lx⟩) := (by rw [hF, updF_same]; exact rfl); have HB35 : Hid (F35 (3, b + 1) = ⟨ety 3, .slice (some ⟨u15.heap.size, 0, none⟩) 0 0, []⟩) := (by rw [hF, updF_other _ (by simp)]; exact HB34.out); have hc35 := ht9.cell1 3 (by decide) HV35.out; clear hF ht9 hg9; clear HT34 HX34 HY34 HV34 hc34 HA34 HB34)
          refine hK.out _ _ (by exact trivial) ?_
          clear hK K
          intro hHeld2
          clear hHeld
          have hHeld := hHeld2
          clear hHeld2
          try simp only [Act.put, List.setIfInBounds_toArray, List.set_cons_zero, List.set_cons_succ]
          refine run_at (i := 10) rfl (by kernel_rfl) (by rfl) (fun K hK => ?_)
          simp only [List.getElem_toArray, List.getElem_cons_zero, List.getElem_cons_succ]
          (refine wpo_tlCopy _ _ 3 37 rfl rfl HT35.out (b + 1) (by decide) (Nat.le_succ _) (.slice (some ⟨u15.heap.size, 0, none⟩) 0 0) HB35.out (2, b + 1) (.slice ya Ly yc) (iv ly) HY35.out (iv_one ly) (by have := HLY.out; have := HLS.out; omega) (by rfl) (by rfl) ?_; intro v9 u36 ht9 hg9; obtain ⟨p36, q36, rfl⟩ := ht9.slv (x := (3, b + 1)) (updF_same _ _ _) HLY.out; obtain ⟨F36, hF⟩ : ∃ F9, F9 = updF F35 (3, b + 1) ⟨ety 3, .slice p36 Ly q36, iv ly⟩ := ⟨_, rfl⟩; rw [← hF] at ht9; have HT36 : Hid _ := ht9; have HX36 : Hid (F36 (2, b) = ⟨ety 3, .slice xa Lx xc, iv lx⟩) := (by rw [hF, updF_other _ (by simp)]; exact HX35.out); have HY36 : Hid (F36 (2, b + 1) = ⟨ety 3, .slice ya Ly yc, iv ly⟩) := (by rw [hF, updF_other _ (by simp)]; exact HY35.out); have HV36 : Hid ((F36 (4, 3)).v = .slice a3 b cap9) := (by rw [hF, updF_other _ (by simp)]; exact HV35.out); have HB36 : Hid (F36 (3, b + 1) = ⟨ety 3, .slice p36 Ly q36, iv ly⟩) := (by rw [hF, updF_same]; exact rfl); have HA36 : Hid (F36 (3, b) = ⟨ety 3, .slice p35 Lx q35, iv lx⟩) := (by rw [hF, updF_other _ (by simp)]; exact HA35.out); have hc36 := ht9.cell1 3 (by decide) HV36.out; clear hF ht9 hg9; clear HT35 HX35 HY35 HV35 hc35 HA35 HB35)
          refine hK.out _ _ (by exact trivial) ?_
          clear hK K
          intro hHeld2
          clear hHeld
          have hHeld := hHeld2
          clear hHeld2
          try simp only [Act.put, List.setIfInBounds_toArray, List.set_cons_zero, List.set_cons_succ]
          refine run_at (i := 11) rfl (by kernel_rfl) (by rfl) (fun K hK => ?_)
          simp only [List.getElem_toArray, List.getElem_cons_zero, List.getElem_cons_succ]
          go_simp
          go_wp2_with fail
          refine hK.out _ _ (by exact trivial) ?_
          clear hK K
          intro hHeld2
          clear hHeld
          have hHeld := hHeld2
          clear hHeld2
          try simp only [Act.put, List.setIfInBounds_toArray, List.set_cons_zero, List.set_cons_succ]
          (obtain ⟨u37, hu⟩ : ∃ X : World, X = u36.alloc (.cells #[.slice p35 Lx q35, .slice p36 Ly q36] 37) := ⟨_, rfl⟩; rw [← hu]; have hXr : u37.heap[u36.heap.size]? = some (.cells #[.slice p35 Lx q35, .slice p36 Ly q36] 37 (0, 0)) := (by rw [hu]; exact heap_alloc_new u36 _); have HT37 : Hid (Tl W u37 P ds c K (N4 (a + 1) (a + 1) (b + 2) b) F36) := (by rw [hu]; exact HT36.out.below (al (Below.refl _ _) _)); have hc37 := HT37.out.cell1 3 (by decide) HV36.out; clear hu)
          refine run_at (i := 12) rfl (by kernel_rfl) (by rfl) (fun K hK => ?_)
          simp only [List.getElem_toArray, List.getElem_cons_zero, List.getElem_cons_succ]
          (refine wpo_tlList (N' := N4 (a + 1) (a + 1) (b + 2) (b + 2)) _ _ 3 31 rfl rfl HT37.out (by decide) (.slice a3 b cap9) HV36.out u36.heap.size 2 2 [.slice p35 Lx q35, .slice p36 Ly q36] (by rfl) (by rfl) rfl (by decide) (two_cell hXr) (two_us (F := F36) (k := 3) (n := b) (by rw [HA36.out]) (by rw [HB36.out])) (b + 2) rfl (by omega) (n4_3 (a + 1) b) (cnt_j HT37.out.n (by rw [HA36.out, HX36.out]) (by rw [HB36.out, HY36.out])) ?_; intro G6 cap6 w6 hk6 hz6 ht6; obtain ⟨xs6, ht6⟩ := ht6; have HT6 : Hid _ := ht6; clear ht6)
          refine hK.out _ _ (by exact trivial) ?_
          clear hK K
          intro hHeld2
          clear hHeld
          have hHeld := hHeld2
          clear hHeld2
          try simp only [Act.put, List.setIfInBounds_toArray, List.set_cons_zero, List.set_cons_succ]
          refine take_at (i := 13) 60 (v := ?_) rfl rfl (by kernel_rfl) (by kernel_rfl) (by kernel_rfl) (fun _ _ _ h => h) (by rfl) ?_ hHeld ?_
          rotate_left
          · (intro w hSw; (try dsimp only at hSw); go_simp; try with_reducible rfl)
          simp only [Act.put, List.setIfInBounds_toArray, List.set_cons_zero, List.set_cons_succ]
          refine take_at (i := 14) 61 (v := ?_) rfl rfl (by kernel_rfl) (by kernel_rfl) (by kernel_rfl) (fun _ _ _ h => h) (by rfl) ?_ hHeld ?_
          rotate_left
          · (intro w hSw; (try dsimp only at hSw); go_simp; try with_reducible rfl)
          simp only [Act.put, List.setIfInBounds_toArray, List.set_cons_zero, List.set_cons_succ]
          refine run_at (i := 15) rfl (by kernel_rfl) (by rfl) (fun K hK => ?_)
          simp only [List.getElem_toArray, List.getElem_cons_zero, List.getElem_cons_succ]
          go_simp
          go_wp2_with fail
          refine hK.out _ _ (by exact trivial) ?_
          clear hK K
          intro hHeld2
          clear hHeld
          have hHeld := hHeld2
          clear hHeld2
          try simp only [Act.put, List.setIfInBounds_toArray, List.set_cons_zero, List.set_cons_succ]
          refine wpAnyH_done (by kernel_rfl) ?_ _
          refine NoPanic.normal ?_
        rotate_left 1
        refine AllReadyH.cons (o := _) rfl (fun K hK => ?_) AllReadyH.nil
        focus
          rw [if_pos (by rfl)]
          simp only [List.getElem_toArray, List.getElem_cons_zero, List.getElem_cons_succ]
          (refine wpo_tlCopy _ _ 3 37 rfl rfl HT34.out b (by decide) (Nat.le_refl _) (.slice (some ⟨u0.heap.size, 0, none⟩) 0 0) HA34.out (2, b) (.slice xa Lx xc) (iv lx) HX34.out (iv_one lx) (by have := HLX.out; have := HLS.out; omega) (by rfl) (by rfl) ?_; intro v9 u38 ht9 hg9; obtain ⟨p38, q38, rfl⟩ := ht9.slv (x := (3, b)) (updF_same _ _ _) HLX.out; obtain ⟨F38, hF⟩ : ∃ F9, F9 = updF F34 (3, b) ⟨ety 3, .slice p38 Lx q38, iv lx⟩ := ⟨_, rfl⟩; rw [← hF] at ht9; have HT38 : Hid _ := ht9; have HX38 : Hid (F38 (2, b) = ⟨ety 3, .slice xa Lx xc, iv lx⟩) := (by rw [hF, updF_other _ (by simp)]; exact HX34.out); have HY38 : Hid (F38 (2, b + 1) = ⟨ety 3, .slice ya Ly yc, iv ly⟩) := (by rw [hF, updF_other _ (by simp)]; exact HY34.out); have HV38 : Hid ((F38 (4, 3)).v = .slice a3 b cap9) := (by rw [hF, updF_other _ (by simp)]; exact HV34.out); have HA38 : Hid (F38 (3, b) = ⟨ety 3, .slice p38 Lx q38, iv lx⟩) := (by rw [hF, updF_same]; exact rfl); have HB38 : Hid (F38 (3, b + 1) = ⟨ety 3, .slice (some ⟨u15.heap.size, 0, none⟩) 0 0, []⟩) := (by rw [hF, updF_other _ (by simp)]; exact HB34.out); have hc38 := ht9.cell1 3 (by decide) HV38.out; clear hF ht9 hg9; clear HT34 HX34 HY34 HV34 hc34 HA34 HB34)
          refine hK.out _ _ (by exact trivial) ?_
          clear hK K
          intro hHeld2
          clear hHeld
          have hHeld := hHeld2
          clear hHeld2
          try simp only [Act.put, List.setIfInBounds_toArray, List.set_cons_zero, List.set_cons_succ]
          refine wpAnyH_ready (rs := [4, 10]) (by kernel_rfl) (by simp) ?_
          refine AllReadyH.cons (o := _) rfl (fun K hK => ?_) ?_
          focus
            rw [if_pos (by rfl)]
            refine val_wp 51 (v := ?_) rfl ?_ ?_
            rotate_left
            · (go_simp; try with_reducible rfl)
            refine hK.out _ _ (by exact trivial) ?_
            clear hK K
            intro hHeld2
            clear hHeld
            have hHeld := hHeld2
            clear hHeld2
            simp only [Act.put, List.setIfInBounds_toArray, List.set_cons_zero, List.set_cons_succ]
            refine run_at (i := 10) rfl (by kernel_rfl) (by rfl) (fun K hK => ?_)
            simp only [List.getElem_toArray, List.getElem_cons_zero, List.getElem_cons_succ]
            (refine wpo_tlCopy _ _ 3 37 rfl rfl HT38.out (b + 1) (by decide) (Nat.le_succ _) (.slice (some ⟨u15.heap.size, 0, none⟩) 0 0) HB38.out (2, b + 1) (.slice ya Ly yc) (iv ly) HY38.out (iv_one ly) (by have := HLY.out; have := HLS.out; omega) (by rfl) (by rfl) ?_; intro v9 u39 ht9 hg9; obtain ⟨p39, q39, rfl⟩ := ht9.slv (x := (3, b + 1)) (updF_same _ _ _) HLY.out; obtain ⟨F39, hF⟩ : ∃ F9, F9 = updF F38 (3, b + 1) ⟨ety 3, .slice p39 Ly q39, iv ly⟩ := ⟨_, rfl⟩; rw [← hF] at ht9; have HT39 : Hid _ := ht9; have HX39 : Hid (F39 (2, b) = ⟨ety 3, .slice xa Lx xc, iv lx⟩) := (by rw [hF, updF_other _ (by simp)]; exact HX38.out); have HY39 : Hid (F39 (2, b + 1) = ⟨ety 3, .slice ya Ly yc, iv ly⟩) := (by rw [hF, updF_other _ (by simp)]; exact HY38.out); have HV39 : Hid ((F39 (4, 3)).v = .slice a3 b cap9) := (by rw [hF, updF_other _ (by simp)]; exact HV38.out); have HB39 : Hid (F39 (3, b + 1) = ⟨ety 3, .slice p39 Ly q39, iv ly⟩) := (by rw [hF, updF_same]; exact rfl); have HA39 : Hid (F39 (3, b) = ⟨ety 3, .slice p38 Lx q38, iv lx⟩) := (by rw [hF, updF_other _ (by simp)]; exact HA38.out); have hc39 := ht9.cell1 3 (by decide) HV39.out; clear hF ht9 hg9; clear HT38 HX38 HY38 HV38 hc38 HA38 HB38)
            refine hK.out _ _ (by exact trivial) ?_
            clear hK K
            intro hHeld2
            clear hHeld
            have hHeld := hHeld2
            clear hHeld2
            try simp only [Act.put, List.setIfInBounds_toArray, List.set_cons_zero, List.set_cons_succ]
            refine run_at (i := 11) rfl (by kernel_rfl) (by rfl) (fun K hK => ?_)
            simp only [List.getElem_toArray, List.getElem_cons_zero, List.getElem_cons_succ]
            go_simp
            go_wp2_with fail
            refine hK.out _ _ (by exact trivial) ?_
            clear hK K
            intro hHeld2
            clear hHeld
            have hHeld := hHeld2
            clear hHeld2
            try simp only [Act.put, List.setIfInBounds_toArray, List.set_cons_zero, List.set_cons_succ]
            (obtain ⟨u40, hu⟩ : ∃ X : World, X = u39.alloc (.cells #[.slice p38 Lx q38, .slice p39 Ly q39] 37) := ⟨_, rfl⟩; rw [← hu]; have hXr : u40.heap[u39.heap.size]? = some (.cells #[.slice p38 Lx q38, .slice p39 Ly q39] 37 (0, 0)) := (by rw [hu]; exact heap_alloc_new u39 _); have HT40 : Hid (Tl W u40 P ds c K (N4 (a + 1) (a + 1) (b + 2) b) F39) := (by rw [hu]; exact HT39.out.below (al (Below.refl _ _) _)); have hc40 := HT40.out.cell1 3 (by decide) HV39.out; clear hu)
            refine run_at (i := 12) rfl (by kernel_rfl) (by rfl) (fun K hK => ?_)
            simp only [List.getElem_toArray, List.getElem_cons_zero, List.getElem_cons_succ]
            (refine wpo_tlList (N' := N4 (a + 1) (a + 1) (b + 2) (b + 2)) _ _ 3 31 rfl rfl HT40.out (by decide) (.slice a3 b cap9) HV39.out u39.heap.size 2 2 [.slice p38 Lx q38, .slice p39 Ly q39] (by rfl) (by rfl) rfl (by decide) (two_cell hXr) (two_us (F := F39) (k := 3) (n := b) (by rw [HA39.out]) (by rw [HB39.out])) (b + 2) rfl (by omega) (n4_3 (a + 1) b) (cnt_j HT40.out.n (by rw [HA39.out, HX39.out]) (by rw [HB39.out, HY39.out])) ?_; intro G6 cap6 w6 hk6 hz6 ht6; obtain ⟨xs6, ht6⟩ := ht6; have HT6 : Hid _ := ht6; clear ht6)
            refine hK.out _ _ (by exact trivial) ?_
            clear hK K
            intro hHeld2
            clear hHeld
            have hHeld := hHeld2
            clear hHeld2
            try simp only [Act.put, List.setIfInBounds_toArray, List.set_cons_zero, List.set_cons_succ]
            refine take_at (i := 13) 60 (v := ?_) rfl rfl (by kernel_rfl) (by kernel_rfl) (by kernel_rfl) (fun _ _ _ h => h) (by rfl) ?_ hHeld ?_
            rotate_left
            · (intro w hSw; (try dsimp only at hSw); go_simp; try with_reducible rfl)
            simp only [Act.put, List.setIfInBounds_toArray, List.set_cons_zero, List.set_cons_succ]
            refine take_at (i := 14) 61 (v := ?_) rfl rfl (by kernel_rfl) (by kernel_rfl) (by kernel_rfl) (fun _ _ _ h => h) (by rfl) ?_ hHeld ?_
            rotate_left
            · (intro w hSw; (try dsimp only at hSw); go_simp; try with_reducible rfl)
            simp only [Act.put, List.setIfInBounds_toArray, List.set_cons_zero, List.set_cons_succ]
            refine run_at (i := 15) rfl (by kernel_rfl) (by rfl) (fun K hK => ?_)
            simp only [List.getElem_toArray, List.getElem_cons_zero, List.getElem_cons_succ]
            go_simp
            go_wp2_with fail
            refine hK.out _ _ (by exact trivial) ?_
            clear hK K
            intro hHeld2
            clear hHeld
            have hHeld := hHeld2
            clear hHeld2
            try simp only [Act.put, List.setIfInBounds_toArray, List.set_cons_zero, List.set_cons_succ]
            refine wpAnyH_done (by kernel_rfl) ?_ _
            refine NoPanic.normal ?_
          rotate_left 1
          refine AllReadyH.cons (o := _) rfl (fun K hK => ?_) AllReadyH.nil
          focus
            rw [if_pos (by rfl)]
            simp only [List.getElem_toArray, List.getElem_cons_zero, List.getElem_cons_succ]
            (refine wpo_tlCopy _ _ 3 37 rfl rfl HT38.out (b + 1) (by decide) (Nat.le_succ _) (.slice (some ⟨u15.heap.size, 0, none⟩) 0 0) HB38.out (2, b + 1) (.slice ya Ly yc) (iv ly) HY38.out (iv_one ly) (by have := HLY.out; have := HLS.out; omega) (by rfl) (by rfl) ?_; intro v9 u41 ht9 hg9; obtain ⟨p41, q41, rfl⟩ := ht9.slv (x := (3, b + 1)) (updF_same _ _ _) HLY.out; obtain ⟨F41, hF⟩ : ∃ F9, F9 = updF F38 (3, b + 1) ⟨ety 3, .slice p41 Ly q41, iv ly⟩ := ⟨_, rfl⟩; rw [← hF] at ht9; have HT41 : Hid _ := ht9; have HX41 : Hid (F41 (2, b) = ⟨ety 3, .slice xa Lx xc, iv lx⟩) := (by rw [hF, updF_other _ (by simp)]; exact HX38.out); have HY41 : Hid (F41 (2, b + 1) = ⟨ety 3, .slice ya Ly yc, iv ly⟩) := (by rw [hF, updF_other _ (by simp)]; exact HY38.out); have HV41 : Hid ((F41 (4, 3)).v = .slice a3 b cap9) := (by rw [hF, updF_other _ (by simp)]; exact HV38.out); have HB41 : Hid (F41 (3, b + 1) = ⟨ety 3, .slice p41 Ly q41, iv ly⟩) := (by rw [hF, updF_same]; exact rfl); have HA41 : Hid (F41 (3, b) = ⟨ety 3, .slice p38 Lx q38, iv lx⟩) := (by rw [hF, updF_other _ (by simp)]; exact HA38.out); have hc41 := ht9.cell1 3 (by decide) HV41.out; clear hF ht9 hg9; clear HT38 HX38 HY38 HV38 hc38 HA38 HB38)
            refine hK.out _ _ (by exact trivial) ?_
            clear hK K
            intro hHeld2
            clear hHeld
            have hHeld := hHeld2
            clear hHeld2
            try simp only [Act.put, List.setIfInBounds_toArray, List.set_cons_zero, List.set_cons_succ]
            refine wpAnyH_ready (rs := [4, 11]) (by kernel_rfl) (by simp) ?_
            refine AllReadyH.cons (o := _) rfl (fun K hK => ?_) ?_
            focus
              rw [if_pos (by rfl)]
              refine val_wp 51 (v := ?_) rfl ?_ ?_
              rotate_left
              · (go_simp; try with_reducible rfl)
              refine hK.out _ _ (by exact trivial) ?_
              clear hK K
              intro hHeld2
              clear hHeld
              have hHeld := hHeld2
              clear hHeld2
              simp only [Act.put, List.setIfInBounds_toArray, List.set_cons_zero, List.set_cons_succ]
              refine run_at (i := 11) rfl (by kernel_rfl) (by rfl) (fun K hK => ?_)
              simp only [List.getElem_toArray, List.getElem_cons_zero, List.getElem_cons_succ]
              go_simp
              go_wp2_with fail
              refine hK.out _ _ (by exact trivial) ?_
              clear hK K
              intro hHeld2
              clear hHeld
              have hHeld := hHeld2
              clear hHeld2
              try simp only [Act.put, List.setIfInBounds_toArray, List.set_cons_zero, List.set_cons_succ]
              (obtain ⟨u42, hu⟩ : ∃ X : World, X = u41.alloc (.cells #[.slice p38 Lx q38, .slice p41 Ly q41] 37) := ⟨_, rfl⟩; rw [← hu]; have hXr : u42.heap[u41.heap.size]? = some (.cells #[.slice p38 Lx q38, .slice p41 Ly q41] 37 (0, 0)) := (by rw [hu]; exact heap_alloc_new u41 _); have HT42 : Hid (Tl W u42 P ds c K (N4 (a + 1) (a + 1) (b + 2) b) F41) := (by rw [hu]; exact HT41.out.below (al (Below.refl _ _) _)); have hc42 := HT42.out.cell1 3 (by decide) HV41.out; clear hu)
              refine run_at (i := 12) rfl (by kernel_rfl) (by rfl) (fun K hK => ?_)
              simp only [List.getElem_toArray, List.getElem_cons_zero, List.getElem_cons_succ]
              (refine wpo_tlList (N' := N4 (a + 1) (a + 1) (b + 2) (b + 2)) _ _ 3 31 rfl rfl HT42.out (by decide) (.slice a3 b cap9) HV41.out u41.heap.size 2 2 [.slice p38 Lx q38, .slice p41 Ly q41] (by rfl) (by rfl) rfl (by decide) (two_cell hXr) (two_us (F := F41) (k := 3) (n := b) (by rw [HA41.out]) (by rw [HB41.out])) (b + 2) rfl (by omega) (n4_3 (a + 1) b) (cnt_j HT42.out.n (by rw [HA41.out, HX41.out]) (by rw [HB41.out, HY41.out])) ?_; intro G6 cap6 w6 hk6 hz6 ht6; obtain ⟨xs6, ht6⟩ := ht6; have HT6 : Hid _ := ht6; clear ht6)
              refine hK.out _ _ (by exact trivial) ?_
              clear hK K
              intro hHeld2
              clear hHeld
              have hHeld := hHeld2
              clear hHeld2
              try simp only [Act.put, List.setIfInBounds_toArray, List.set_cons_zero, List.set_cons_succ]
              refine take_at (i := 13) 60 (v := ?_) rfl rfl (by kernel_rfl) (by kernel_rfl) (by kernel_rfl) (fun _ _ _ h => h) (by rfl) ?_ hHeld ?_
              rotate_left
              · (intro w hSw; (try dsimp only at hSw); go_simp; try with_reducible rfl)
              simp only [Act.put, List.setIfInBounds_toArray, List.set_cons_zero, List.set_cons_succ]
              refine take_at (i := 14) 61 (v := ?_) rfl rfl (by kernel_rfl) (by kernel_rfl) (by kernel_rfl) (fun _ _ _ h => h) (by rfl) ?_ hHeld ?_
              rotate_left
              · (intro w hSw; (try dsimp only at hSw); go_simp; try with_reducible rfl)
              simp only [Act.put, List.setIfInBounds_toArray, List.set_cons_zero, List.set_cons_succ]
              refine run_at (i := 15) rfl (by kernel_rfl) (by rfl) (fun K hK => ?_)
              simp only [List.getElem_toArray, List.getElem_cons_zero, List.getElem_cons_succ]
              go_simp
              go_wp2_with fail
              refine hK.out _ _ (by exact trivial) ?_
              clear hK K
              intro hHeld2
              clear hHeld
              have hHeld := hHeld2
              clear hHeld2
              try simp only [Act.put, List.setIfInBounds_toArray, List.set_cons_zero, List.set_cons_succ]
              refine wpAnyH_done (by kernel_rfl) ?_ _
              refine NoPanic.normal ?_
            rotate_left 1
            refine AllReadyH.cons (o := _) rfl (fun K hK => ?_) AllReadyH.nil
            focus
              rw [if_pos (by rfl)]
              simp only [List.getElem_toArray, List.getElem_cons_zero, List.getElem_cons_succ]
              go_simp
              go_wp2_with fail
              refine hK.out _ _ (by exact trivial) ?_
              clear hK K
              intro hHeld2
              clear hHeld
              have hHeld := hHeld2
              clear hHeld2
              try simp only [Act.put, List.setIfInBounds_toArray, List.set_cons_zero, List.set_cons_succ]
              (obtain ⟨u43, hu⟩ : ∃ X : World, X = u41.alloc (.cells #[.slice p38 Lx q38, .slice p41 Ly q41] 37) := ⟨_, rfl⟩; rw [← hu]; have hXr : u43.heap[u41.heap.size]? = some (.cells #[.slice p38 Lx q38, .slice p41 Ly q41] 37 (0, 0)) := (by rw [hu]; exact heap_alloc_new u41 _); have HT43 : Hid (Tl W u43 P ds c K (N4 (a + 1) (a + 1) (b + 2) b) F41) := (by rw [hu]; exact HT41.out.below (al (Below.refl _ _) _)); have hc43 := HT43.out.cell1 3 (by decide) HV41.out; clear hu)
              refine val_at (i := 4) 51 (v := ?_) rfl rfl (by kernel_rfl) (by rfl) ?_ ?_ ?_
              rotate_left
              · (go_simp; try with_reducible rfl)
              · (exact trivial)
              intro hHeld2
              clear hHeld
              have hHeld := hHeld2
              clear hHeld2
              simp only [Act.put, List.setIfInBounds_toArray, List.set_cons_zero, List.set_cons_succ]
              refine run_at (i := 12) rfl (by kernel_rfl) (by rfl) (fun K hK => ?_)
              simp only [List.getElem_toArray, List.getElem_cons_zero, List.getElem_cons_succ]
              (refine wpo_tlList (N' := N4 (a + 1) (a + 1) (b + 2) (b + 2)) _ _ 3 31 rfl rfl HT43.out (by decide) (.slice a3 b cap9) HV41.out u41.heap.size 2 2 [.slice p38 Lx q38, .slice p41 Ly q41] (by rfl) (by rfl) rfl (by decide) (two_cell hXr) (two_us (F := F41) (k := 3) (n := b) (by rw [HA41.out]) (by rw [HB41.out])) (b + 2) rfl (by omega) (n4_3 (a + 1) b) (cnt_j HT43.out.n (by rw [HA41.out, HX41.out]) (by rw [HB41.out, HY41.out])) ?_; intro G6 cap6 w6 hk6 hz6 ht6; obtain ⟨xs6, ht6⟩ := ht6; have HT6 : Hid _ := ht6; clear ht6)
              refine hK.out _ _ (by exact trivial) ?_
              clear hK K
              intro hHeld2
              clear hHeld
              have hHeld := hHeld2
              clear hHeld2
              try simp only [Act.put, List.setIfInBounds_toArray, List.set_cons_zero, List.set_cons_succ]
              refine take_at (i := 13) 60 (v := ?_) rfl rfl (by kernel_rfl) (by kernel_rfl) (by kernel_rfl) (fun _ _ _ h => h) (by rfl) ?_ hHeld ?_
              rotate_left
              · (intro w hSw; (try dsimp only at hSw); go_simp; try with_reducible rfl)
              simp only [Act.put, List.setIfInBounds_toArray, List.set_cons_zero, List.set_cons_succ]
              refine take_at (i := 14) 61 (v := ?_) rfl rfl (by kernel_rfl) (by kernel_rfl) (by kernel_rfl) (fun _ _ _ h => h) (by rfl) ?_ hHeld ?_
              rotate_left
              · (intro w hSw; (try dsimp only at hSw); go_simp; try with_reducible rfl)
              simp only [Act.put, List.setIfInBounds_toArray, List.set_cons_zero, List.set_cons_succ]
              refine run_at (i := 15) rfl (by kernel_rfl) (by rfl) (fun K hK => ?_)
              simp only [List.getElem_toArray, List.getElem_cons_zero, List.getElem_cons_succ]
              go_simp
              go_wp2_with fail
              refine hK.out _ _ (by exact trivial) ?_
              clear hK K
              intro hHeld2
              clear hHeld
              have hHeld := hHeld2
              clear hHeld2
              try simp only [Act.put, List.setIfInBounds_toArray, List.set_cons_zero, List.set_cons_succ]
              refine wpAnyH_done (by kernel_rfl) ?_ _
              refine NoPanic.normal ?_
    rotate_left 10
    refine AllReadyH.cons (o := _) rfl (fun K hK => ?_) AllReadyH.nil
    focus
      rw [if_pos (by rfl)]
      simp only [List.getElem_toArray, List.getElem_cons_zero, List.getElem_cons_succ]
      go_simp
      go_wp2_with fail
      refine hK.out _ _ (by exact trivial) ?_
      clear hK K
      intro hHeld2
      clear hHeld
      have hHeld := hHeld2
      clear hHeld2
      try simp only [Act.put, List.setIfInBounds_toArray, List.set_cons_zero, List.set_cons_succ]
      (obtain ⟨u44, hu⟩ : ∃ X : World, X = u0.alloc (.cells #[] 3) := ⟨_, rfl⟩; rw [← hu]; obtain ⟨F44, hF⟩ : ∃ F9, F9 = updF F0 (3, b + 1) ⟨ety 3, .slice (some ⟨u0.heap.size, 0, none⟩) 0 0, []⟩ := ⟨_, rfl⟩; have HT44 : Hid (Tl W u44 P ds c K (N4 (a + 1) (a + 1) (b + 2) b) F44) := (by rw [hF, hu]; exact HT0.out.put (al (Below.refl _ _) _) 3 (b + 1) (by decide) (Nat.le_succ _) _ [] (made0 u0 u0.heap.size 3 (Nat.le_refl _)) (by decide)); have HX44 : Hid (F44 (2, b) = ⟨ety 3, .slice xa Lx xc, iv lx⟩) := (by rw [hF, updF_other _ (by simp)]; exact HX0.out); have HY44 : Hid (F44 (2, b + 1) = ⟨ety 3, .slice ya Ly yc, iv ly⟩) := (by rw [hF, updF_other _ (by simp)]; exact HY0.out); have HV44 : Hid ((F44 (4, 3)).v = .slice a3 b cap9) := (by rw [hF, updF_other _ (by simp)]; exact HV0.out); have HB44 : Hid (F44 (3, b + 1) = ⟨ety 3, .slice (some ⟨u0.heap.size, 0, none⟩) 0 0, []⟩) := (by rw [hF, updF_same]; exact rfl); have hc44 := HT44.out.cell1 3 (by decide) HV44.out; clear hu hF; clear HT0 HX0 HY0 HV0)
      refine wpAnyH_ready (rs := [4, 5]) (by kernel_rfl) (by simp) ?_
      refine AllReadyH.cons (o := _) rfl (fun K hK => ?_) ?_
      focus
        rw [if_pos (by rfl)]
        refine val_wp 51 (v := ?_) rfl ?_ ?_
        rotate_left
        · (go_simp; try with_reducible rfl)
        refine hK.out _ _ (by exact trivial) ?_
        clear hK K
        intro hHeld2
        clear hHeld
        have hHeld := hHeld2
        clear hHeld2
        simp only [Act.put, List.setIfInBounds_toArray, List.set_cons_zero, List.set_cons_succ]
        refine run_at (i := 5) rfl (by kernel_rfl) (by rfl) (fun K hK => ?_)
        simp only [List.getElem_toArray, List.getElem_cons_zero, List.getElem_cons_succ]
        go_simp
        go_wp2_with fail
        refine hK.out _ _ (by exact trivial) ?_
        clear hK K
        intro hHeld2
        clear hHeld
        have hHeld := hHeld2
        clear hHeld2
        try simp only [Act.put, List.setIfInBounds_toArray, List.set_cons_zero, List.set_cons_succ]
        (obtain ⟨u45, hu⟩ : ∃ X : World, X = u44.alloc (.cells #[] 3) := ⟨_, rfl⟩; rw [← hu]; obtain ⟨F45, hF⟩ : ∃ F9, F9 = updF F44 (3, b) ⟨ety 3, .slice (some ⟨u44.heap.size, 0, none⟩) 0 0, []⟩ := ⟨_, rfl⟩; have HT45 : Hid (Tl W u45 P ds c K (N4 (a + 1) (a + 1) (b + 2) b) F45) := (by rw [hF, hu]; exact HT44.out.put (al (Below.refl _ _) _) 3 b (by decide) (Nat.le_refl _) _ [] (made0 u44 u44.heap.size 3 (Nat.le_refl _)) (by decide)); have HX45 : Hid (F45 (2, b) = ⟨ety 3, .slice xa Lx xc, iv lx⟩) := (by rw [hF, updF_other _ (by simp)]; exact HX44.out); have HY45 : Hid (F45 (2, b + 1) = ⟨ety 3, .slice ya Ly yc, iv ly⟩) := (by rw [hF, updF_other _ (by simp)]; exact HY44.out); have HV45 : Hid ((F45 (4, 3)).v = .slice a3 b cap9) := (by rw [hF, updF_other _ (by simp)]; exact HV44.out); have HA45 : Hid (F45 (3, b) = ⟨ety 3, .slice (some ⟨u44.heap.size, 0, none⟩) 0 0, []⟩) := (by rw [hF, updF_same]; exact rfl); have HB45 : Hid (F45 (3, b + 1) = ⟨ety 3, .slice (some ⟨u0.heap.size, 0, none⟩) 0 0, []⟩) := (by rw [hF, updF_other _ (by simp)]; exact HB44.out); have hc45 := HT45.out.cell1 3 (by decide) HV45.out; clear hu hF; clear HT44 HX44 HY44 HV44 hc44 HB44)
        refine run_at (i := 7) rfl (by kernel_rfl) (by rfl) (fun K hK => ?_)
        simp only [List.getElem_toArray, List.getElem_cons_zero, List.getElem_cons_succ]
        (refine wpo_tlCopy _ _ 3 37 rfl rfl HT45.out b (by decide) (Nat.le_refl _) (.slice (some ⟨u44.heap.size, 0, none⟩) 0 0) HA45.out (2, b) (.slice xa Lx xc) (iv lx) HX45.out (iv_one lx) (by have := HLX.out; have := HLS.out; omega) (by rfl) (by rfl) ?_; intro v9 u46 ht9 hg9; obtain ⟨p46, q46, rfl⟩ := ht9.slv (x := (3, b)) (updF_same _ _ _) HLX.out; obtain ⟨F46, hF⟩ : ∃ F9, F9 = updF F45 (3, b) ⟨ety 3, .slice p46 Lx q46, iv lx⟩ := ⟨_, rfl⟩; rw [← hF] at ht9; have HT46 : Hid _ := ht9; have HX46 : Hid (F46 (2, b) = ⟨ety 3, .slice xa Lx xc, iv lx⟩) := (by rw [hF, updF_other _ (by simp)]; exact HX45.out); have HY46 : Hid (F46 (2, b + 1) = ⟨ety 3, .slice ya Ly yc, iv ly⟩) := (by rw [hF, updF_other _ (by simp)]; exact HY45.out); have HV46 : Hid ((F46 (4, 3)).v = .slice a3 b cap9) := (by rw [hF, updF_other _ (by simp)]; exact HV45.out); have HA46 : Hid (F46 (3, b) = ⟨ety 3, .slice p46 Lx q46, iv lx⟩) := (by rw [hF, updF_same]; exact rfl); have HB46 : Hid (F46 (3, b + 1) = ⟨ety 3, .slice (some ⟨u0.heap.size, 0, none⟩) 0 0, []⟩) := (by rw [hF, updF_other _ (by simp)]; exact HB45.out); have hc46 := ht9.cell1 3 (by decide) HV46.out; clear hF ht9 hg9; clear HT45 HX45 HY45 HV45 hc45 HA45 HB45)
        refine hK.out _ _ (by exact trivial) ?_
        clear hK K
        intro hHeld2
        clear hHeld
        have hHeld := hHeld2
        clear hHeld2
        try simp only [Act.put, List.setIfInBounds_toArray, List.set_cons_zero, List.set_cons_succ]
        refine run_at (i := 10) rfl (by kernel_rfl) (by rfl) (fun K hK => ?_)
        simp only [List.getElem_toArray, List.getElem_cons_zero, List.getElem_cons_succ]
        (refine wpo_tlCopy _ _ 3 37 rfl rfl HT46.out (b + 1) (by decide) (Nat.le_succ _) (.slice (some ⟨u0.heap.size, 0, none⟩) 0 0) HB46.out (2, b + 1) (.slice ya Ly yc) (iv ly) HY46.out (iv_one ly) (by have := HLY.out; have := HLS.out; omega) (by rfl) (by rfl) ?_; intro v9 u47 ht9 hg9; obtain ⟨p47, q47, rfl⟩ := ht9.slv (x := (3, b + 1)) (updF_same _ _ _) HLY.out; obtain ⟨F47, hF⟩ : ∃ F9, F9 = updF F46 (3, b + 1) ⟨ety 3, .slice p47 Ly q47, iv ly⟩ := ⟨_, rfl⟩; rw [← hF] at ht9; have HT47 : Hid _ := ht9; have HX47 : Hid (F47 (2, b) = ⟨ety 3, .slice xa Lx xc, iv lx⟩) := (by rw [hF, updF_other _ (by simp)]; exact HX46.out); have HY47 : Hid (F47 (2, b + 1) = ⟨ety 3, .slice ya Ly yc, iv ly⟩) := (by rw [hF, updF_other _ (by simp)]; exact HY46.out); have HV47 : Hid ((F47 (4, 3)).v = .slice a3 b cap9) := (by rw [hF, updF_other _ (by simp)]; exact HV46.out); have HB47 : Hid (F47 (3, b + 1) = ⟨ety 3, .slice p47 Ly q47, iv ly⟩) := (by rw [hF, updF_same]; exact rfl); have HA47 : Hid (F47 (3, b) = ⟨ety 3, .slice p46 Lx q46, iv lx⟩) := (by rw [hF, updF_other _ (by simp)]; exact HA46.out); have hc47 := ht9.cell1 3 (by decide) HV47.out; clear hF ht9 hg9; clear HT46 HX46 HY46 HV46 hc46 HA46 HB46)
        refine hK.out _ _ (by exact trivial) ?_
        clear hK K
        intro hHeld2
        clear hHeld
        have hHeld := hHeld2
        clear hHeld2
        try simp only [Act.put, List.setIfInBounds_toArray, List.set_cons_zero, List.set_cons_succ]
        refine run_at (i := 11) rfl (by kernel_rfl) (by rfl) (fun K hK => ?_)
        simp only [List.getElem_toArray, List.getElem_cons_zero, List.getElem_cons_succ]
        go_simp
        go_wp2_with fail
        refine hK.out _ _ (by exact trivial) ?_
        clear hK K
        intro hHeld2
        clear hHeld
        have hHeld := hHeld2
        clear hHeld2
        try simp only [Act.put, List.setIfInBounds_toArray, List.set_cons_zero, List.set_cons_succ]
        (obtain ⟨u48, hu⟩ : ∃ X : World, X = u47.alloc (.cells #[.slice p46 Lx q46, .slice p47 Ly q47] 37) := ⟨_, rfl⟩; rw [← hu]; have hXr : u48.heap[u47.heap.size]? = some (.cells #[.slice p46 Lx q46, .slice p47 Ly q47] 37 (0, 0)) := (by rw [hu]; exact heap_alloc_new u47 _); have HT48 : Hid (Tl W u48 P ds c K (N4 (a + 1) (a + 1) (b + 2) b) F47) := (by rw [hu]; exact HT47.out.below (al (Below.refl _ _) _)); have hc48 := HT48.out.cell1 3 (by decide) HV47.out; clear hu)
        refine run_at (i := 12) rfl (by kernel_rfl) (by rfl) (fun K hK => ?_)
        simp only [List.getElem_toArray, List.getElem_cons_zero, List.getElem_cons_succ]
        (refine wpo_tlList (N' := N4 (a + 1) (a + 1) (b + 2) (b + 2)) _ _ 3 31 rfl rfl HT48.out (by decide) (.slice a3 b cap9) HV47.out u47.heap.size 2 2 [.slice p46 Lx q46, .slice p47 Ly q47] (by rfl) (by rfl) rfl (by decide) (two_cell hXr) (two_us (F := F47) (k := 3) (n := b) (by rw [HA47.out]) (by rw [HB47.out])) (b + 2) rfl (by omega) (n4_3 (a + 1) b) (cnt_j HT48.out.n (by rw [HA47.out, HX47.out]) (by rw [HB47.out, HY47.out])) ?_; intro G6 cap6 w6 hk6 hz6 ht6; obtain ⟨xs6, ht6⟩ := ht6; have HT6 : Hid _ := ht6; clear ht6)
        refine hK.out _ _ (by exact trivial) ?_
        clear hK K
        intro hHeld2
        clear hHeld
        have hHeld := hHeld2
        clear hHeld2
        try simp only [Act.put, List.setIfInBounds_toArray, List.set_cons_zero, List.set_cons_succ]
        refine take_at (i := 13) 60 (v := ?_) rfl rfl (by kernel_rfl) (by kernel_rfl) (by kernel_rfl) (fun _ _ _ h => h) (by rfl) ?_ hHeld ?_
        rotate_left
        · (intro w hSw; (try dsimp only at hSw); go_simp; try with_reducible rfl)
        simp only [Act.put, List.setIfInBounds_toArray, List.set_cons_zero, List.set_cons_succ]
        refine take_at (i := 14) 61 (v := ?_) rfl rfl (by kernel_rfl) (by kernel_rfl) (by kernel_rfl) (fun _ _ _ h => h) (by rfl) ?_ hHeld ?_
        rotate_left
        · (intro w hSw; (try dsimp only at hSw); go_simp; try with_reducible rfl)
        simp only [Act.put, List.setIfInBounds_toArray, List.set_cons_zero, List.set_cons_succ]
        refine run_at (i := 15) rfl (by kernel_rfl) (by rfl) (fun K hK => ?_)
        simp only [List.getElem_toArray, List.getElem_cons_zero, List.getElem_cons_succ]
        go_simp
        go_wp2_with fail
        refine hK.out _ _ (by exact trivial) ?_
        clear hK K
        intro hHeld2
        clear hHeld
        have hHeld := hHeld2
        clear hHeld2
        try simp only [Act.put, List.setIfInBounds_toArray, List.set_cons_zero, List.set_cons_succ]
        refine wpAnyH_done (by kernel_rfl) ?_ _
        refine NoPanic.normal ?_
      rotate_left 1
      refine AllReadyH.cons (o := _) rfl (fun K hK => ?_) AllReadyH.nil
      focus
        rw [if_pos (by rfl)]
        simp only [List.getElem_toArray, List.getElem_cons_zero, List.getElem_cons_succ]
        go_simp
        go_wp2_with fail
        refine hK.out _ _ (by exact trivial) ?_
        clear hK K
        intro hHeld2
        clear hHeld
        have hHeld := hHeld2
        clear hHeld2
        try simp only [Act.put, List.setIfInBounds_toArray, List.set_cons_zero, List.set_cons_succ]
        (obtain ⟨u49, hu⟩ : ∃ X : World, X = u44.alloc (.cells #[] 3) := ⟨_, rfl⟩; rw [← hu]; obtain ⟨F49, hF⟩ : ∃ F9, F9 = updF F44 (3, b) ⟨ety 3, .slice (some ⟨u44.heap.size, 0, none⟩) 0 0, []⟩ := ⟨_, rfl⟩; have HT49 : Hid (Tl W u49 P ds c K (N4 (a + 1) (a + 1) (b + 2) b) F49) := (by rw [hF, hu]; exact HT44.out.put (al (Below.refl _ _) _) 3 b (by decide) (Nat.le_refl _) _ [] (made0 u44 u44.heap.size 3 (Nat.le_refl _)) (by decide)); have HX49 : Hid (F49 (2, b) = ⟨ety 3, .slice xa Lx xc, iv lx⟩) := (by rw [hF, updF_other _ (by simp)]; exact HX44.out); have HY49 : Hid (F49 (2, b + 1) = ⟨ety 3, .slice ya Ly yc, iv ly⟩) := (by rw [hF, updF_other _ (by simp)]; exact HY44.out); have HV49 : Hid ((F49 (4, 3)).v = .slice a3 b cap9) := (by rw [hF, updF_other _ (by simp)]; exact HV44.out); have HA49 : Hid (F49 (3, b) = ⟨ety 3, .slice (some ⟨u44.heap.size, 0, none⟩) 0 0, []⟩) := (by rw [hF, updF_same]; exact rfl); have HB49 : Hid (F49 (3, b + 1) = ⟨ety 3, .slice (some ⟨u0.heap.size, 0, none⟩) 0 0, []⟩) := (by rw [hF, updF_other _ (by simp)]; exact HB44.out); have hc49 := HT49.out.cell1 3 (by decide) HV49.out; clear hu hF; clear HT44 HX44 HY44 HV44 hc44 HB44)
        refine wpAnyH_ready (rs := [4, 7]) (by kernel_rfl) (by simp) ?_
        refine AllReadyH.cons (o := _) rfl (fun K hK => ?_) ?_
        focus
          rw [if_pos (by rfl)]
          refine val_wp 51 (v := ?_) rfl ?_ ?_
          rotate_left
          · (go_simp; try with_reducible rfl)
          refine hK.out _ _ (by exact trivial) ?_
          clear hK K
          intro hHeld2
          clear hHeld
          have hHeld := hHeld2
          clear hHeld2
          simp only [Act.put, List.setIfInBounds_toArray, List.set_cons_zero, List.set_cons_succ]
          refine run_at (i := 7) rfl (by kernel_rfl) (by rfl) (fun K hK => ?_)
          simp only [List.getElem_toArray, List.getElem_cons_zero, List.getElem_cons_succ]
          (refine wpo_tlCopy _ _ 3 37 rfl rfl HT49.out b (by decide) (Nat.le_refl _) (.slice (some ⟨u44.heap.size, 0, none⟩) 0 0) HA49.out (2, b) (.slice xa Lx xc) (iv lx) HX49.out (iv_one lx) (by have := HLX.out; have := HLS.out; omega) (by rfl) (by rfl) ?_; intro v9 u50 ht9 hg9; obtain ⟨p50, q50, rfl⟩ := ht9.slv (x := (3, b)) (updF_same _ _ _) HLX.out; obtain ⟨F50, hF⟩ : ∃ F9, F9 = updF F49 (3, b) ⟨ety 3, .slice p50 Lx q50, iv lx⟩ := ⟨_, rfl⟩; rw [← hF] at ht9; have HT50 : Hid _ := ht9; have HX50 : Hid (F50 (2, b) = ⟨ety 3, .slice xa Lx xc, iv lx⟩) := (by rw [hF, updF_other _ (by simp)]; exact HX49.out); have HY50 : Hid (F50 (2, b + 1) = ⟨ety 3, .slice ya Ly yc, iv ly⟩) := (by rw [hF, updF_other _ (by simp)]; exact HY49.out); have HV50 : Hid ((F50 (4, 3)).v = .slice a3 b cap9) := (by rw [hF, updF_other _ (by simp)]; exact HV49.out); have HA50 : Hid (F50 (3, b) = ⟨ety 3, .slice p50 Lx q50, iv lx⟩) := (by rw [hF, updF_same]; exact rfl); have HB50 : Hid (F50 (3, b + 1) = ⟨ety 3, .slice (some ⟨u0.heap.size, 0, none⟩) 0 0, []⟩) := (by rw [hF, updF_other _ (by simp)]; exact HB49.out); have hc50 := ht9.cell1 3 (by decide) HV50.out; clear hF ht9 hg9; clear HT49 HX49 HY49 HV49 hc49 HA49 HB49)
          refine hK.out _ _ (by exact trivial) ?_
          clear hK K
          intro hHeld2
          clear hHeld
          have hHeld := hHeld2
          clear hHeld2
          try simp only [Act.put, List.setIfInBounds_toArray, List.set_cons_zero, List.set_cons_succ]
          refine run_at (i := 10) rfl (by kernel_rfl) (by rfl) (fun K hK => ?_)
          simp only [List.getElem_toArray, List.getElem_cons_zero, List.getElem_cons_succ]
          (refine wpo_tlCopy _ _ 3 37 rfl rfl HT50.out (b + 1) (by decide) (Nat.le_succ _) (.slice (some ⟨u0.heap.size, 0, none⟩) 0 0) HB50.out (2, b + 1) (.slice ya Ly yc) (iv ly) HY50.out (iv_one ly) (by have := HLY.out; have := HLS.out; omega) (by rfl) (by rfl) ?_; intro v9 u51 ht9 hg9; obtain ⟨p51, q51, rfl⟩ := ht9.slv (x := (3, b + 1)) (updF_same _ _ _) HLY.out; obtain ⟨F51, hF⟩ : ∃ F9, F9 = updF F50 (3, b + 1) ⟨ety 3, .slice p51 Ly q51, iv ly⟩ := ⟨_, rfl⟩; rw [← hF] at ht9; have HT51 : Hid _ := ht9; have HX51 : Hid (F51 (2, b) = ⟨ety 3, .slice xa Lx xc, iv lx⟩) := (by rw [hF, updF_other _ (by simp)]; exact HX50.out); have HY51 : Hid (F51 (2, b + 1) = ⟨ety 3, .slice ya Ly yc, iv ly⟩) := (by rw [hF, updF_other _ (by simp)]; exact HY50.out); have HV51 : Hid ((F51 (4, 3)).v = .slice a3 b cap9) := (by rw [hF, updF_other _ (by simp)]; exact HV50.out); have HB51 : Hid (F51 (3, b + 1) = ⟨ety 3, .slice p51 Ly q51, iv ly⟩) := (by rw [hF, updF_same]; exact rfl); have HA51 : Hid (F51 (3, b) = ⟨ety 3, .slice p50 Lx q50, iv lx⟩) := (by rw [hF, updF_other _ (by simp)]; exact HA50.out); have hc51 := ht9.cell1 3 (by decide) HV51.out; clear hF ht9 hg9; clear HT50 HX50 HY50 HV50 hc50 HA50 HB50)
          refine hK.out _ _ (by exact trivial) ?_
          clear hK K
          intro hHeld2
          clear hHeld
          have hHeld := hHeld2
          clear hHeld2
          try simp only [Act.put, List.setIfInBounds_toArray, List.set_cons_zero, List.set_cons_succ]
          refine run_at (i := 11) rfl (by kernel_rfl) (by rfl) (fun K hK => ?_)
          simp only [List.getElem_toArray, List.getElem_cons_zero, List.getElem_cons_succ]
          go_simp
          go_wp2_with fail
          refine hK.out _ _ (by exact trivial) ?_
          clear hK K
          intro hHeld2
          clear hHeld
          have hHeld := hHeld2
          clear hHeld2
          try simp only [Act.put, List.setIfInBounds_toArray, List.set_cons_zero, List.set_cons_succ]
          (obtain ⟨u52, hu⟩ : ∃ X : World, X = u51.alloc (.cells #[.slice p50 Lx q50, .slice p51 Ly q51] 37) := ⟨_, rfl⟩; rw [← hu]; have hXr : u52.heap[u51.heap.size]? = some (.cells #[.slice p50 Lx q50, .slice p51 Ly q51] 37 (0, 0)) := (by rw [hu]; exact heap_alloc_new u51 _); have HT52 : Hid (Tl W u52 P ds c K (N4 (a + 1) (a + 1) (b + 2) b) F51) := (by rw [hu]; exact HT51.out.below (al (Below.refl _ _) _)); have hc52 := HT52.out.cell1 3 (by decide) HV51.out; clear hu)
          refine run_at (i := 12) rfl (by kernel_rfl) (by rfl) (fun K hK => ?_)
          simp only [List.getElem_toArray, List.getElem_cons_zero, List.getElem_cons_succ]
          (refine wpo_tlList (N' := N4 (a + 1) (a + 1) (b + 2) (b + 2)) _ _ 3 31 rfl rfl HT52.out (by decide) (.slice a3 b cap9) HV51.out u51.heap.size 2 2 [.slice p50 Lx q50, .slice p51 Ly q51] (by rfl) (by rfl) rfl (by decide) (two_cell hXr) (two_us (F := F51) (k := 3) (n := b) (by rw [HA51.out]) (by rw [HB51.out])) (b + 2) rfl (by omega) (n4_3 (a + 1) b) (cnt_j HT52.out.n (by rw [HA51.out, HX51.out]) (by rw [HB51.out, HY51.out])) ?_; intro G6 cap6 w6 hk6 hz6 ht6; obtain ⟨xs6, ht6⟩ := ht6; have HT6 : Hid _ := ht6; clear ht6)
          refine hK.out _ _ (by exact trivial) ?_
          clear hK K
          intro hHeld2
          clear hHeld
          have hHeld := hHeld2
          clear hHeld2
          try simp only [Act.put, List.setIfInBounds_toArray, List.set_cons_zero, List.set_cons_succ]
          refine take_at (i := 13) 60 (v := ?_) rfl rfl (by kernel_rfl) (by kernel_rfl) (by kernel_rfl) (fun _ _ _ h => h) (by rfl) ?_ hHeld ?_
          rotate_left
          · (intro w hSw; (try dsimp only at hSw); go_simp; try with_reducible rfl)
          simp only [Act.put, List.setIfInBounds_toArray, List.set_cons_zero, List.set_cons_succ]
          refine take_at (i := 14) 61 (v := ?_) rfl rfl (by kernel_rfl) (by kernel_rfl) (by kernel_rfl) (fun _ _ _ h => h) (by rfl) ?_ hHeld ?_
          rotate_left
          · (intro w hSw; (try dsimp only at hSw); go_simp; try with_reducible rfl)
          simp only [Act.put, List.setIfInBounds_toArray, List.set_cons_zero, List.set_cons_succ]
          refine run_at (i := 15) rfl (by kernel_rfl) (by rfl) (fun K hK => ?_)
          simp only [List.getElem_toArray, List.getElem_cons_zero, List.getElem_cons_succ]
          go_simp
          go_wp2_with fail
          refine hK.out _ _ (by exact trivial) ?_
          clear hK K
          intro hHeld2
          clear hHeld
          have hHeld := hHeld2
          clear hHeld2
          try simp only [Act.put, List.setIfInBounds_toArray, List.set_cons_zero, List.set_cons_succ]
          refine wpAnyH_done (by kernel_rfl) ?_ _
          refine NoPanic.normal ?_
        rotate_left 1
        refine AllReadyH.cons (o := _) rfl (fun K hK => ?_) AllReadyH.nil
        focus
          rw [if_pos (by rfl)]
          simp only [List.getElem_toArray, List.getElem_cons_zero, List.getElem_cons_succ]
          (refine wpo_tlCopy _ _ 3 37 rfl rfl HT49.out b (by decide) (Nat.le_refl _) (.slice (some ⟨u44.heap.size, 0, none⟩) 0 0) HA49.out (2, b) (.slice xa Lx xc) (iv lx) HX49.out (iv_one lx) (by have := HLX.out; have := HLS.out; omega) (by rfl) (by rfl) ?_; intro v9 u53 ht9 hg9; obtain ⟨p53, q53, rfl⟩ := ht9.slv (x := (3, b)) (updF_same _ _ _) HLX.out; obtain ⟨F53, hF⟩ : ∃ F9, F9 = updF F49 (3, b) ⟨ety 3, .slice p53 Lx q53, iv lx⟩ := ⟨_, rfl⟩; rw [← hF] at ht9; have HT53 : Hid _ := ht9; have HX53 : Hid (F53 (2, b) = ⟨ety 3, .slice xa Lx xc, iv lx⟩) := (by rw [hF, updF_other _ (by simp)]; exact HX49.out); have HY53 : Hid (F53 (2, b + 1) = ⟨ety 3, .slice ya Ly yc, iv ly⟩) := (by rw [hF, updF_other _ (by simp)]; exact HY49.out); have HV53 : Hid ((F53 (4, 3)).v = .slice a3 b cap9) := (by rw [hF, updF_other _ (by simp)]; exact HV49.out); have HA53 : Hid (F53 (3, b) = ⟨ety 3, .slice p53 Lx q53, iv lx⟩) := (by rw [hF, updF_same]; exact rfl); have HB53 : Hid (F53 (3, b + 1) = ⟨ety 3, .slice (some ⟨u0.heap.size, 0, none⟩) 0 0, []⟩) := (by rw [hF, updF_other _ (by simp)]; exact HB49.out); have hc53 := ht9.cell1 3 (by decide) HV53.out; clear hF ht9 hg9; clear HT49 HX49 HY49 HV49 hc49 HA49 HB49)
          refine hK.out _ _ (by exact trivial) ?_
          clear hK K
          intro hHeld2
          clear hHeld
          have hHeld := hHeld2
          clear hHeld2
          try simp only [Act.put, List.setIfInBounds_toArray, List.set_cons_zero, List.set_cons_succ]
          refine wpAnyH_ready (rs := [4, 10]) (by kernel_rfl) (by simp) ?_
          refine AllReadyH.cons (o := _) rfl (fun K hK => ?_) ?_
          focus
            rw [if_pos (by rfl)]
            refine val_wp 51 (v := ?_) rfl ?_ ?_
            rotate_left
            · (go_simp; try with_reducible rfl)
            refine hK.out _ _ (by exact trivial) ?_
            clear hK K
            intro hHeld2
            clear hHeld
            have hHeld := hHeld2
            clear hHeld2
            simp only [Act.put, List.setIfInBounds_toArray, List.set_cons_zero, List.set_cons_succ]
            refine run_at (i := 10) rfl (by kernel_rfl) (by rfl) (fun K hK => ?_)
            simp only [List.getElem_toArray, List.getElem_cons_zero, List.getElem_cons_succ]
            (refine wpo_tlCopy _ _ 3 37 rfl rfl HT53.out (b + 1) (by decide) (Nat.le_succ _) (.slice (some ⟨u0.heap.size, 0, none⟩) 0 0) HB53.out (2, b + 1) (.slice ya Ly yc) (iv ly) HY53.out (iv_one ly) (by have := HLY.out; have := HLS.out; omega) (by rfl) (by rfl) ?_; intro v9 u54 ht9 hg9; obtain ⟨p54, q54, rfl⟩ := ht9.slv (x := (3, b + 1)) (updF_same _ _ _) HLY.out; obtain ⟨F54, hF⟩ : ∃ F9, F9 = updF F53 (3, b + 1) ⟨ety 3, .slice p54 Ly q54, iv ly⟩ := ⟨_, rfl⟩; rw [← hF] at ht9; have HT54 : Hid _ := ht9; have HX54 : Hid (F54 (2, b) = ⟨ety 3, .slice xa Lx xc, iv lx⟩) := (by rw [hF, updF_other _ (by simp)]; exact HX53.out); have HY54 : Hid (F54 (2, b + 1) = ⟨ety 3, .slice ya Ly yc, iv ly⟩) := (by rw [hF, updF_other _ (by simp)]; exact HY53.out); have HV54 : Hid ((F54 (4, 3)).v = .slice a3 b cap9) := (by rw [hF, updF_other _ (by simp)]; exact HV53.out); have HB54 : Hid (F54 (3, b + 1) = ⟨ety 3, .slice p54 Ly q54, iv ly⟩) := (by rw [hF, updF_same]; exact rfl); have HA54 : Hid (F54 (3, b) = ⟨ety 3, .slice p53 Lx q53, iv lx⟩) := (by rw [hF, updF_other _ (by simp)]; exact HA53.out); have hc54 := ht9.cell1 3 (by decide) HV54.out; clear hF ht9 hg9; clear HT53 HX53 HY53 HV53 hc53 HA53 HB53)
            refine hK.out _ _ (by exact trivial) ?_
            clear hK K
            intro hHeld2
            clear hHeld
            have hHeld := hHeld2
            clear hHeld2
            try simp only [Act.put, List.setIfInBounds_toArray, List.set_cons_zero, List.set_cons_succ]
            refine run_at (i := 11) rfl (by kernel_rfl) (by rfl) (fun K hK => ?_)
            simp only [List.getElem_toArray, List.getElem_cons_zero, List.getElem_cons_succ]
            go_simp
            go_wp2_with fail
            refine hK.out _ _ (by exact trivial) ?_
            clear hK K
            intro hHeld2
            clear hHeld
            have hHeld := hHeld2
            clear hHeld2
            try simp only [Act.put, List.setIfInBounds_toArray, List.set_cons_zero, List.set_cons_succ]
            (obtain ⟨u55, hu⟩ : ∃ X : World, X = u54.alloc (.cells #[.slice p53 Lx q53, .slice p54 Ly q54] 37) := ⟨_, rfl⟩; rw [← hu]; have hXr : u55.heap[u54.heap.size]? = some (.cells #[.slice p53 Lx q53, .slice p54 Ly q54] 37 (0, 0)) := (by rw [hu]; exact heap_alloc_new u54 _); have HT55 : Hid (Tl W u55 P ds c K (N4 (a + 1) (a + 1) (b + 2) b) F54) := (by rw [hu]; exact HT54.out.below (al (Below.refl _ _) _)); have hc55 := HT55.out.cell1 3 (by decide) HV54.out; clear hu)
            refine run_at (i := 12) rfl (by kernel_rfl) (by rfl) (fun K hK => ?_)
            simp only [List.getElem_toArray, List.getElem_cons_zero, List.getElem_cons_succ]
            (refine wpo_tlList (N' := N4 (a + 1) (a + 1) (b + 2) (b + 2)) _ _ 3 31 rfl rfl HT55.out (by decide) (.slice a3 b cap9) HV54.out u54.heap.size 2 2 [.slice p53 Lx q53, .slice p54 Ly q54] (by rfl) (by rfl) rfl (by decide) (two_cell hXr) (two_us (F := F54) (k := 3) (n := b) (by rw [HA54.out]) (by rw [HB54.out])) (b + 2) rfl (by omega) (n4_3 (a + 1) b) (cnt_j HT55.out.n (by rw [HA54.out, HX54.out]) (by rw [HB54.out, HY54.out])) ?_; intro G6 cap6 w6 hk6 hz6 ht6; obtain ⟨xs6, ht6⟩ := ht6; have HT6 : Hid _ := ht6; clear ht6)
            refine hK.out _ _ (by exact trivial) ?_
            clear hK K
            intro hHeld2
            clear hHeld
            have hHeld := hHeld2
            clear hHeld2
            try simp only [Act.put, List.setIfInBounds_toArray, List.set_cons_zero, List.set_cons_succ]
            refine take_at (i := 13) 60 (v := ?_) rfl rfl (by kernel_rfl) (by kernel_rfl) (by kernel_rfl) (fun _ _ _ h => h) (by rfl) ?_ hHeld ?_
            rotate_left
            · (intro w hSw; (try dsimp only at hSw); go_simp; try with_reducible rfl)
            simp only [Act.put, List.setIfInBounds_toArray, List.set_cons_zero, List.set_cons_succ]
            refine take_at (i := 14) 61 (v := ?_) rfl rfl (by kernel_rfl) (by kernel_rfl) (by kernel_rfl) (fun _ _ _ h => h) (by rfl) ?_ hHeld ?_
            rotate_left
            · (intro w hSw; (try dsimp only at hSw); go_simp; try with_reducible rfl)
            simp only [Act.put, List.setIfInBounds_toArray, List.set_cons_zero, List.set_cons_succ]
            refine run_at (i := 15) rfl (by kernel_rfl) (by rfl) (fun K hK => ?_)
            simp only [List.getElem_toArray, List.getElem_cons_zero, List.getElem_cons_succ]
            go_simp
            go_wp2_with fail
            refine hK.out _ _ (by exact trivial) ?_
            clear hK K
            intro hHeld2
            clear hHeld
            have hHeld := hHeld2
            clear hHeld2
            try simp only [Act.put, List.setIfInBounds_toArray, List.set_cons_zero, List.set_cons_succ]
            refine wpAnyH_done (by kernel_rfl) ?_ _
            refine NoPanic.normal ?_
          rotate_left 1
          refine AllReadyH.cons (o := _) rfl (fun K hK => ?_) AllReadyH.nil
          focus
            rw [if_pos (by rfl)]
            simp only [List.getElem_toArray, List.getElem_cons_zero, List.getElem_cons_succ]
            (refine wpo_tlCopy _ _ 3 37 rfl rfl HT53.out (b + 1) (by decide) (Nat.le_succ _) (.slice (some ⟨u0.heap.size, 0, none⟩) 0 0) HB53.out (2, b + 1) (.slice ya Ly yc) (iv ly) HY53.out (iv_one ly) (by have := HLY.out; have := HLS.out; omega) (by rfl) (by rfl) ?_; intro v9 u56 ht9 hg9; obtain ⟨p56, q56, rfl⟩ := ht9.slv (x := (3, b + 1)) (updF_same _ _ _) HLY.out; obtain ⟨F56, hF⟩ : ∃ F9, F9 = updF F53 (3, b + 1) ⟨ety 3, .slice p56 Ly q56, iv ly⟩ := ⟨_, rfl⟩; rw [← hF] at ht9; have HT56 : Hid _ := ht9; have HX56 : Hid (F56 (2, b) = ⟨ety 3, .slice xa Lx xc, iv lx⟩) := (by rw [hF, updF_other _ (by simp)]; exact HX53.out); have HY56 : Hid (F56 (2, b + 1) = ⟨ety 3, .slice ya Ly yc, iv ly⟩) := (by rw [hF, updF_other _ (by simp)]; exact HY53.out); have HV56 : Hid ((F56 (4, 3)).v = .slice a3 b cap9) := (by rw [hF, updF_other _ (by simp)]; exact HV53.out); have HB56 : Hid (F56 (3, b + 1) = ⟨ety 3, .slice p56 Ly q56, iv ly⟩) := (by rw [hF, updF_same]; exact rfl); have HA56 : Hid (F56 (3, b) = ⟨ety 3, .slice p53 Lx q53, iv lx⟩) := (by rw [hF, updF_other _ (by simp)]; exact HA53.out); have hc56 := ht9.cell1 3 (by decide) HV56.out; clear hF ht9 hg9; clear HT53 HX53 HY53 HV53 hc53 HA53 HB53)
            refine hK.out _ _ (by exact trivial) ?_
            clear hK K
            intro hHeld2
            clear hHeld
            have hHeld := hHeld2
            clear hHeld2
            try simp only [Act.put, List.setIfInBounds_toArray, List.set_cons_zero, List.set_cons_succ]
            refine wpAnyH_ready (rs := [4, 11]) (by kernel_rfl) (by simp) ?_
            refine AllReadyH.cons (o := _) rfl (fun K hK => ?_) ?_
            focus
              rw [if_pos (by rfl)]
              refine val_wp 51 (v := ?_) rfl ?_ ?_
              rotate_left
              · (go_simp; try with_reducible rfl)
              refine hK.out _ _ (by exact trivial) ?_
              clear hK K
              intro hHeld2
              clear hHeld
              have hHeld := hHeld2
              clear hHeld2
              simp only [Act.put, List.setIfInBounds_toArray, List.set_cons_zero, List.set_cons_succ]
              refine run_at (i := 11) rfl (by kernel_rfl) (by rfl) (fun K hK => ?_)
              simp only [List.getElem_toArray, List.getElem_cons_zero, List.getElem_cons_succ]
              go_simp
              go_wp2_with fail
              refine hK.out _ _ (by exact trivial) ?_
              clear hK K
              intro hHeld2
              clear hHeld
              have hHeld := hHeld2
              clear hHeld2
              try simp only [Act.put, List.setIfInBounds_toArray, List.set_cons_zero, List.set_cons_succ]
              (obtain ⟨u57, hu⟩ : ∃ X : World, X = u56.alloc (.cells #[.slice p53 Lx q53, .slice p56 Ly q56] 37) := ⟨_, rfl⟩; rw [← hu]; have hXr : u57.heap[u56.heap.size]? = some (.cells #[.slice p53 Lx q53, .slice p56 Ly q56] 37 (0, 0)) := (by rw [hu]; exact heap_alloc_new u56 _); have HT57 : Hid (Tl W u57 P ds c K (N4 (a + 1) (a + 1) (b + 2) b) F56) := (by rw [hu]; exact HT56.out.below (al (Below.refl _ _) _)); have hc57 := HT57.out.cell1 3 (by decide) HV56.out; clear hu)
              refine run_at (i := 12) rfl (by kernel_rfl) (by rfl) (fun K hK => ?_)
              simp only [List.getElem_toArray, List.getElem_cons_zero, List.getElem_cons_succ]
              (refine wpo_tlList (N' := N4 (a + 1) (a + 1) (b + 2) (b + 2)) _ _ 3 31 rfl rfl HT57.out (by decide) (.slice a3 b cap9) HV56.out u56.heap.size 2 2 [.slice p53 Lx q53, .slice p56 Ly q56] (by rfl) (by rfl) rfl (by decide) (two_cell hXr) (two_us (F := F56) (k := 3) (n := b) (by rw [HA56.out]) (by rw [HB56.out])) (b + 2) rfl (by omega) (n4_3 (a + 1) b) (cnt_j HT57.out.n (by rw [HA56.out, HX56.out]) (by rw [HB56.out, HY56.out])) ?_; intro G6 cap6 w6 hk6 hz6 ht6; obtain ⟨xs6, ht6⟩ := ht6; have HT6 : Hid _ := ht6; clear ht6)
              refine hK.out _ _ (by exact trivial) ?_
              clear hK K
              intro hHeld2
              clear hHeld
              have hHeld := hHeld2
              clear hHeld2
              try simp only [Act.put, List.setIfInBounds_toArray, List.set_cons_zero, List.set_cons_succ]
              refine take_at (i := 13) 60 (v := ?_) rfl rfl (by kernel_rfl) (by kernel_rfl) (by kernel_rfl) (fun _ _ _ h => h) (by rfl) ?_ hHeld ?_
              rotate_left
              · (intro w hSw; (try dsimp only at hSw); go_simp; try with_reducible rfl)
              simp only [Act.put, List.setIfInBounds_toArray, List.set_cons_zero, List.set_cons_succ]
              refine take_at (i := 14) 61 (v := ?_) rfl rfl (by kernel_rfl) (by kernel_rfl) (by kernel_rfl) (fun _ _ _ h => h) (by rfl) ?_ hHeld ?_
              rotate_left
              · (intro w hSw; (try dsimp only at hSw); go_simp; try with_reducible rfl)
              simp only [Act.put, List.setIfInBounds_toArray, List.set_cons_zero, List.set_cons_succ]
              refine run_at (i := 15) rfl (by kernel_rfl) (by rfl) (fun K hK => ?_)
              simp only [List.getElem_toArray, List.getElem_cons_zero, List.getElem_cons_succ]
              go_simp
              go_wp2_with fail
              refine hK.out _ _ (by exact trivial) ?_
              clear hK K
              intro hHeld2
              clear hHeld
              have hHeld := hHeld2
              clear hHeld2
              try simp only [Act.put, List.setIfInBounds_toArray, List.set_cons_zero, List.set_cons_succ]
              refine wpAnyH_done (by kernel_rfl) ?_ _
              refine NoPanic.normal ?_
            rotate_left 1
            refine AllReadyH.cons (o := _) rfl (fun K hK => ?_) AllReadyH.nil
            focus
              rw [if_pos (by rfl)]
              simp only [List.getElem_toArray, List.getElem_cons_zero, List.getElem_cons_succ]
              go_simp
              go_wp2_with fail
              refine hK.out _ _ (by exact trivial) ?_
              clear hK K
              intro hHeld2
              clear hHeld
              have hHeld := hHeld2
              clear hHeld2
              try simp only [Act.put, List.setIfInBounds_toArray, List.set_cons_zero, List.set_cons_succ]
              (obtain ⟨u58, hu⟩ : ∃ X : World, X = u56.alloc (.cells #[.slice p53 Lx q53, .slice p56 Ly q56] 37) := ⟨_, rfl⟩; rw [← hu]; have hXr : u58.heap[u56.heap.size]? = some (.cells #[.slice p53 Lx q53, .slice p56 Ly q56] 37 (0, 0)) := (by rw [hu]; exact heap_alloc_new u56 _); have HT58 : Hid (Tl W u58 P ds c K (N4 (a + 1) (a + 1) (b + 2) b) F56) := (by rw [hu]; exact HT56.out.below (al (Below.refl _ _) _)); have hc58 := HT58.out.cell1 3 (by decide) HV56.out; clear hu)
              refine val_at (i := 4) 51 (v := ?_) rfl rfl (by kernel_rfl) (by rfl) ?_ ?_ ?_
              rotate_left
              · (go_simp; try with_reducible rfl)
              · (exact trivial)
              intro hHeld2
              clear hHeld
              have hHeld := hHeld2
              clear hHeld2
              simp only [Act.put, List.setIfInBounds_toArray, List.set_cons_zero, List.set_cons_succ]
              refine run_at (i := 12) rfl (by kernel_rfl) (by rfl) (fun K hK => ?_)
              simp only [List.getElem_toArray, List.getElem_cons_zero, List.getElem_cons_succ]
              (refine wpo_tlList (N' := N4 (a + 1) (a + 1) (b + 2) (b + 2)) _ _ 3 31 rfl rfl HT58.out (by decide) (.slice a3 b cap9) HV56.out u56.heap.size 2 2 [.slice p53 Lx q53, .slice p56 Ly q56] (by rfl) (by rfl) rfl (by decide) (two_cell hXr) (two_us (F := F56) (k := 3) (n := b) (by rw [HA56.out]) (by rw [HB56.out])) (b + 2) rfl (by omega) (n4_3 (a + 1) b) (cnt_j HT58.out.n (by rw [HA56.out, HX56.out]) (by rw [HB56.out, HY56.out])) ?_; intro G6 cap6 w6 hk6 hz6 ht6; obtain ⟨xs6, ht6⟩ := ht6; have HT6 : Hid _ := ht6; clear ht6)
              refine hK.out _ _ (by exact trivial) ?_
              clear hK K
              intro hHeld2
              clear hHeld
              have hHeld := hHeld2
              clear hHeld2
              try simp only [Act.put, List.setIfInBounds_toArray, List.set_cons_zero, List.set_cons_succ]
              refine take_at (i := 13) 60 (v := ?_) rfl rfl (by kernel_rfl) (by kernel_rfl) (by kernel_rfl) (fun _ _ _ h => h) (by rfl) ?_ hHeld ?_
              rotate_left
              · (intro w hSw; (try dsimp only at hSw); go_simp; try with_reducible rfl)
              simp only [Act.put, List.setIfInBounds_toArray, List.set_cons_zero, List.set_cons_succ]
              refine take_at (i := 14) 61 (v := ?_) rfl rfl (by kernel_rfl) (by kernel_rfl) (by kernel_rfl) (fun _ _ _ h => h) (by rfl) ?_ hHeld ?_
              rotate_left
              · (intro w hSw; (try dsimp only at hSw); go_simp; try with_reducible rfl)
              simp only [Act.put, List.setIfInBounds_toArray, List.set_cons_zero, List.set_cons_succ]
              refine run_at (i := 15) rfl (by kernel_rfl) (by rfl) (fun K hK => ?_)
              simp only [List.getElem_toArray, List.getElem_cons_zero, List.getElem_cons_succ]
              go_simp
              go_wp2_with fail
              refine hK.out _ _ (by exact trivial) ?_
              clear hK K
              intro hHeld2
              clear hHeld
              have hHeld := hHeld2
              clear hHeld2
              try simp only [Act.put, List.setIfInBounds_toArray, List.set_cons_zero, List.set_cons_succ]
              refine wpAnyH_done (by kernel_rfl) ?_ _
              refine NoPanic.normal ?_
    all_goals
      go_wp2
      refine bodyPost_end (v := .tuple #[]) (by simp [results, Try.results8, go_sem]) rfl ?_
      exact ⟨rfl, _, HT6.out⟩
end Go.Proofs.Ytekfolppahnpoaa
