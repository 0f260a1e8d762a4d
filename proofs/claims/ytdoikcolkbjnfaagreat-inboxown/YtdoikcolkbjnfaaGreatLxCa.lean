import Derived.Test.YtdoikcolkbjnfaaGreatLDe
import Derived.Test.YtdoikcolkbjnfaaGreatLDb
namespace Go.Proofs.YtdoikcolkbjnfaaGreat
set_option linter.unusedVariables false
set_option linter.unusedSimpArgs false
open Go.RowKit Go.Maps
theorem rise_not {J : Ib} {s : Ss} (h : s ∉ ks J.H) (e : Nat) : s ∉ ks (riseI J e).H := by
  unfold riseI
  split
  · simp [ks]
  · exact h
section
variable {w w' : World} {q : Nat} {vo vs : Value} {J : Ib} {E : List (Ss × Bg)}
set_option maxRecDepth 20000
set_option maxHeartbeats 6400000
theorem rdec_ok (h : Rv w q vo vs J E) (s1 s2 : Nat) (c : Int) (hg : (1 ≤ c ∧ c ≤ 7) ∧ (1 ≤ s1 ∧ s1 ≤ 281474976710655) ∧ (1 ≤ s2 ∧ s2 ≤ 281474976710655)) (ho : ¬ s1 < J.ep) (hin : (s1, s2) ∉ ks J.H) : Calls Tryz.prog 45 #[.pointer (some ⟨q, 0, none⟩), sv (s1, s2), .int .i64 c] w fun e w' => e = .returned (.int .i64 (decE J (s1, s2) c)) ∧ LfV w q vo vs E (decI J (s1, s2) c) w' := by
  have hd0 : decE J (s1, s2) c = 0 := by rw [decE_good hg, if_neg ho, if_neg hin]
  have HD : Hid (decE J (s1, s2) c = 0) := hd0
  obtain ⟨J3, hJ3⟩ : ∃ J3, J3 = dropI (riseI J s1) (s1, s2) := ⟨_, rfl⟩
  have HDI : Hid (decI J (s1, s2) c = { J3 with H := pt J3.ms J3.H (s1, s2) c }) := by unfold Hid decI; rw [if_pos hd0, hJ3]; rfl
  have HEP : Hid (((s1, s2) : Ss).1 = J3.ep) := by unfold Hid; rw [hJ3]; exact (riseI_ep (by omega)).symm
  have HNO : Hid ((s1, s2) ∉ ks J3.O) := by unfold Hid; rw [hJ3]; exact fun h9 => (mem_ks_rm.1 h9).2 rfl
  have HNH : Hid ((s1, s2) ∉ ks J3.H) := by unfold Hid; rw [hJ3]; exact rise_not hin s1
  have HJ3 : Hid _ := hJ3
  clear hd0 hJ3
  obtain ⟨w1, hw1⟩ : ∃ w1, w1 = w.alloc (.cells #[.int .u64 (s1 : Int), .int .u64 (s2 : Int)] tRs) := ⟨_, rfl⟩
  have hb1 : Below w.heap.size w w1 := by rw [hw1]; exact al (Below.refl _ _) _
  have hz1 : w1.heap.size = w.heap.size + 1 := by rw [hw1]; simp
  have hR1 := h.below hb1
  have hkb := rsBox w (s1, s2)
  have HBX : Hid (w1.heap[w.heap.size]? = some (.cells #[.int .u64 (s1 : Int), .int .u64 (s2 : Int)] tRs (0, 0))) := by unfold Hid; rw [hw1]; exact heap_alloc_new _ _
  have hk : ∀ u, Below w1.heap.size w1 u → u.cell? ⟨w.heap.size, 0, none⟩ = some (.int .u64 (s1 : Int)) ∧ u.cell? ⟨w.heap.size, 1, none⟩ = some (.int .u64 (s2 : Int)) ∧ u.cell? ⟨q, 2, none⟩ = some (.int .u64 (J.ep : Int)) := fun u hu => by
    have h9 := hkb u (by rw [← hw1, ← hz1]; exact hu)
    exact ⟨h9.1, h9.2, (hR1.below hu).m.cell.2.2.1⟩
  have HK : Hid _ := hk
  have HSH : Hid (∀ u, Below w1.heap.size w1 u → Calls _ _ _ u _) := fun u hu => rshut_t (hR1.below hu).m (s1, s2) (by have := h.lenH; omega)
  obtain ⟨en, hen⟩ : ∃ en, en = J.ep := ⟨_, rfl⟩
  rw [← hen] at hk
  have HEN : Hid _ := hen
  have HH : Hid _ := h
  have HR1 : Hid _ := hR1
  have HB1 : Hid _ := hb1
  have HW1 : Hid (w1 = _) := hw1
  have HZ1 : Hid _ := hz1
  have q1 : ¬ c < 1 := by omega
  have q2 : ¬ 7 < c := by omega
  have q3 : ¬ (s1 : Int) < 1 := by omega
  have q4 : ¬ 281474976710655 < (s1 : Int) := by omega
  have q5 : ¬ (s2 : Int) < 1 := by omega
  have q6 : ¬ 281474976710655 < (s2 : Int) := by omega
  have hlt : ¬ (s1 : Int) < (en : Int) := by omega
  have HIN : Hid _ := hin
  have HRI : Hid (∀ u, Below w1.heap.size w1 u → Calls _ _ _ u _) := fun u hu => rise_v (hR1.below hu) s1 (by omega)
  clear h hR1 hkb hb1 hw1 hz1 hen ho hg hin
  go_enter Tryz.func45, Tryz.ntmps45
  go_wp2_with fail
  rw [← HW1.out]
  refine wp_region_noPanic ?_
  refine wp_region_held_drew (S := (fun u => Below w1.heap.size w1 u)) (by kernel_rfl) (by first | exact (Below.refl _ _).drew | assumption) (fun hHeld => ?_)
  refine tz (i := 0) 34 rfl rfl hHeld ?_
  simp only [pS]
  refine tz (i := 1) 35 rfl rfl hHeld ?_
  simp only [pS]
  refine tz (i := 2) 36 rfl rfl hHeld ?_
  simp only [pS]
  refine tz (i := 3) 37 rfl rfl hHeld ?_
  simp only [pS]
  refine tz (i := 4) 38 rfl rfl hHeld ?_
  simp only [pS]
  refine tz (i := 5) 39 rfl rfl hHeld ?_
  simp only [pS]
  refine tz (i := 6) 40 rfl rfl hHeld ?_
  simp only [pS]
  refine wpAnyH_done (by kernel_rfl) ?_ _
  refine NoPanic.normal ?_
  have hk2 := hk w1.drew (Below.refl _ _).drew
  go_wp2_with fail
  refine Calls.mono (HSH.out _ (Below.refl _ _).drew) ?_
  rintro e2 w2 ⟨hfd, hb2'⟩
  have hb2 : Below w1.heap.size w1 w2 := below_next (Below.refl _ _).drew hb2'
  rcases hfd with ⟨i, hi, hix, rfl⟩ | ⟨-, rfl⟩
  · exact absurd (by rw [← hix]; exact mem_ks (List.getElem_mem _)) HIN.out
  · have hk3 := hk w2 hb2
    have HB2 : Hid _ := hb2
    clear hb2' hk2 hb2
    go_wp2_with fail
    refine Calls.mono (HRI.out _ HB2.out) ?_
    rintro e3 w3 ⟨rfl, vo3, vs3, E3, h3, hc3, hf3⟩
    have hP2 : w.heap.size < w2.heap.size := by have := HB2.out.size; have := HZ1.out; omega
    have hbx3 := (hc3.block w.heap.size hP2 (fun h9 => by have := HH.out.lt h9; omega)).trans ((HB2.out.block _ (by have := HZ1.out; omega)).trans HBX.out)
    have HR3 : Hid _ := h3
    have HC3 : Hid (Chg (footV q vo vs E) w w3) := (Chg.of_below (below_next HB1.out HB2.out)).trans hc3 (fun b hb => .inl hb)
    have HF3 : Hid (∀ b, footV q vo3 vs3 E3 b → footV q vo vs E b ∨ w.heap.size ≤ b) := fun b hb => (hf3 b hb).imp id (fun h9 => Nat.le_trans (below_next HB1.out HB2.out).size h9)
    have HBX3 : Hid _ := hbx3
    have hs0 : w3.cell? ⟨w.heap.size, 0, none⟩ = some (.int .u64 (s1 : Int)) := by rw [cell_of_row _ _ _ _ _ _ hbx3]; rfl
    have hs1 : w3.cell? ⟨w.heap.size, 1, none⟩ = some (.int .u64 (s2 : Int)) := by rw [cell_of_row _ _ _ _ _ _ hbx3]; rfl
    have HOP : Hid (Calls _ _ _ w3 _) := ropen_t h3.m (s1, s2) (by have := h3.lenO; omega)
    have HOU : Hid (∀ u, Below w3.heap.size w3 u → ∀ i, ∀ hi : i < (mp Bg.q E3).length, Calls _ _ _ u _) := fun u hu i hi => rout_t (h3.below hu).m i hi (by have := h3.lenO; omega)
    clear h3 hc3 hf3 hbx3 hk3 hk hP2
    go_wp2_with fail
    refine Calls.mono HOP.out ?_
    rintro e4 w4 ⟨hfd, hb4⟩
    have HBX4 : Hid (w4.heap[w.heap.size]? = some (.cells #[.int .u64 (s1 : Int), .int .u64 (s2 : Int)] tRs (0, 0))) := (hb4.block _ (Array.getElem?_eq_some_iff.1 HBX3.out).1).trans HBX3.out
    have HR4 : Hid _ := HR3.out.below hb4
    have HC4 : Hid (Chg (footV q vo vs E) w w4) := HC3.out.trans (Chg.of_below (F := footV q vo vs E) hb4) (fun b hb => .inl hb)
    have HB4 : Hid _ := hb4
    clear hs0 hs1 hb4
    rcases hfd with ⟨i, hi, hix, rfl⟩ | ⟨hno, rfl⟩
    · have hi0 : (0 : Int) ≤ (i : Int) := by omega
      have HOU2 : Hid (Calls _ _ _ w4 _) := HOU.out w4 HB4.out i hi
      have HIX : Hid (∃ hi : i < (mp Bg.q E3).length, (mp Bg.q E3)[i].1 = (s1, s2)) := ⟨hi, hix⟩
      clear hi hix
      go_wp2_with fail
      refine Calls.mono HOU2.out ?_
      rintro e5 w5 ⟨rfl, v5, hm5, hf5, hc5⟩
      obtain ⟨hi, hix⟩ := HIX.out
      have hR5 := Rv.outd HR4.out hi hix hm5 hf5 hc5
      rw [← HJ3.out] at hR5
      have HR5 : Hid _ := hR5
      have HC5 : Hid (Chg (footV q vo vs E) w w5) := HC4.out.trans hc5 (fun b hb => .inl (.inl hb))
      have HF5 : Hid (∀ b, footV q v5 vs3 (rm E3 (s1, s2)) b → footV q vo vs E b ∨ w.heap.size ≤ b) := fun b hb => (footV_rm (vo := vo3) hf5 hb).elim (HF3.out b) (fun h9 => .inr (Nat.le_trans HC4.out.size h9))
      have HBX5 : Hid (w5.heap[w.heap.size]? = some (.cells #[.int .u64 (s1 : Int), .int .u64 (s2 : Int)] tRs (0, 0))) := (hc5.block _ (Array.getElem?_eq_some_iff.1 HBX4.out).1 (fun h9 => by have := HH.out.lt (b := q) (.inl rfl); omega)).trans HBX4.out
      clear hm5 hf5 hc5 hi hix hR5
      go_wp2_with fail
      obtain ⟨a1, c1, hv1, -, -, -, -⟩ := OwnG.val HR5.out.m.rs
      subst hv1
      obtain ⟨H3, hH3⟩ : ∃ H3, H3 = J3.H := ⟨_, rfl⟩
      obtain ⟨n1, hn1⟩ : ∃ n1, n1 = H3.length := ⟨_, rfl⟩
      rw [← hH3, ← hn1] at HR5 HF5
      have hR5 := HR5.out
      have HM5 : Hid (RiM w5 q J3.mo J3.ms J3.ep v5 (.slice a1 n1 c1) (mp Bg.q (rm E3 (s1, s2))) H3) := by have h9 := hR5.m; rw [← hH3] at h9; exact h9
      have HLE : Hid _ := hn1
      have hnl : n1 ≤ 4096 := by rw [hn1, hH3]; exact hR5.lenH
      have HH3 : Hid _ := hH3
      have HOW : Hid (∀ u, Below w5.heap.size w5 u → OwnG KH u 0 (.slice a1 n1 c1) H3) := fun u hu => OwnG.below HM5.out.rs hu
      have HCQ : Hid (∀ u, Below w5.heap.size w5 u → u.cell? ⟨q, 4, none⟩ = some (.slice a1 n1 c1)) := fun u hu => (HM5.out.below hu).cell.2.2.2.2
      have HCS : Hid (∀ u, Below w5.heap.size w5 u → u.cell? ⟨w.heap.size, 0, none⟩ = some (.int .u64 (s1 : Int)) ∧ u.cell? ⟨w.heap.size, 1, none⟩ = some (.int .u64 (s2 : Int))) := fun u hu => by
        have h9 := (hu.block _ (Array.getElem?_eq_some_iff.1 HBX5.out).1).trans HBX5.out
        exact ⟨by rw [cell_of_row _ _ _ _ _ _ h9]; rfl, by rw [cell_of_row _ _ _ _ _ _ h9]; rfl⟩
      have HQ : Hid (∀ u u', Below w5.heap.size w5 u → u.grownBy u' (Value.slice a1 n1 c1).ownBlock → u'.cell? ⟨q, 4, none⟩ = some (.slice a1 n1 c1) ∧ u'.frozen? ⟨q, 4, none⟩ = false) := fun u u' hu hg => by
        have h9 := HM5.out.below hu
        have h8 : u'.heap[q]? = u.heap[q]? := hg.block q (Array.getElem?_eq_some_iff.1 h9.hp).1 (fun e => h9.sq e.symm)
        exact ⟨(World.cell?_of_block h8).trans h9.cell.2.2.2.2, (World.frozen?_of_block h8).trans (h9.fz 4)⟩
      obtain ⟨mS, hmS⟩ : ∃ mS, mS = J3.ms := ⟨_, rfl⟩
      have HMS : Hid _ := hmS
      clear hR5 hn1 hH3 hmS
      refine wp_region_noPanic ?_
      refine wp_region_late_drew (S := (fun u => Below w5.heap.size w5 u)) (X := [9, 10, 11, 12]) (by kernel_rfl) (by with_reducible first | exact (Below.refl _ _).drew | exact al (Below.refl _ _).drew _ | exact al hHeld _ | exact (al (Below.refl _ _) _).drew) (fun hHeld => ?_)
      refine take_atA (i := 0) 57 (v := ?_) rfl rfl (by kernel_rfl) (by kernel_rfl) (by kernel_rfl) (by decide) (fun _ _ _ h => h) (by rfl) ?_ hHeld ?_
      rotate_left
      · (intro w; go_simp; try with_reducible rfl)
      simp only [pS]
      refine take_atA (i := 1) 58 (v := ?_) rfl rfl (by kernel_rfl) (by kernel_rfl) (by kernel_rfl) (by decide) (fun _ _ _ h => h) (by rfl) ?_ hHeld ?_
      rotate_left
      · (intro w; go_simp; try with_reducible rfl)
      simp only [pS]
      refine take_atA (i := 2) 59 (v := ?_) rfl rfl (by kernel_rfl) (by kernel_rfl) (by kernel_rfl) (by decide) (fun _ _ _ h => h) (by rfl) ?_ hHeld ?_
      rotate_left
      · (intro w; go_simp; try with_reducible rfl)
      simp only [pS]
      refine take_atA (i := 3) 60 (v := ?_) rfl rfl (by kernel_rfl) (by kernel_rfl) (by kernel_rfl) (by decide) (fun _ _ _ h => h) (by rfl) ?_ hHeld ?_
      rotate_left
      · (intro w; go_simp; try with_reducible rfl)
      simp only [pS]
      refine take_atL (i := 4) 61 (v := .slice a1 n1 c1) rfl rfl (by kernel_rfl) (by kernel_rfl) (by kernel_rfl) (by kernel_rfl) (fun _ _ _ h => h) (by rfl) ?_ hHeld ?_
      · (intro w hSw; have hc9 := HCQ.out _ hSw; go_simp; try with_reducible rfl)
      simp only [pS]
      refine take_atL (i := 5) 62 (v := .agg #[.int .u64 (s1 : Int), .int .u64 (s2 : Int)]) rfl rfl (by kernel_rfl) (by kernel_rfl) (by kernel_rfl) (by kernel_rfl) (fun _ _ _ h => h) (by rfl) ?_ hHeld ?_
      · (intro w hSw; have hc9 := HCS.out _ hSw; go_simp; try with_reducible rfl)
      simp only [pS]
      refine take_atA (i := 6) 63 (v := ?_) rfl rfl (by kernel_rfl) (by kernel_rfl) (by kernel_rfl) (by decide) (fun _ _ _ h => h) (by rfl) ?_ hHeld ?_
      rotate_left
      · (intro w; go_simp; try with_reducible rfl)
      simp only [pS]
      refine take_atA (i := 7) 64 (v := ?_) rfl rfl (by kernel_rfl) (by kernel_rfl) (by kernel_rfl) (by decide) (fun _ _ _ h => h) (by rfl) ?_ hHeld ?_
      rotate_left
      · (intro w; go_simp; try with_reducible rfl)
      simp only [pS]
      refine run_atL (i := 8) rfl (by kernel_rfl) (by rfl) (fun K hK => ?_)
      simp only [List.getElem_toArray, List.getElem_cons_zero, List.getElem_cons_succ]
      go_simp
      go_wp2_with fail
      refine hK.out _ _ (by with_reducible first | exact (Below.refl _ _).drew | exact al (Below.refl _ _).drew _ | exact al hHeld _ | exact (al (Below.refl _ _) _).drew) ?_
      clear hK K
      intro hHeld2
      clear hHeld
      have hHeld := hHeld2
      clear hHeld2
      try simp only [pS]
      refine run_atLate (i := 9) rfl (by kernel_rfl) (by decide) (by rfl) (fun K hK => ?_)
      simp only [List.getElem_toArray, List.getElem_cons_zero, List.getElem_cons_succ]
      (refine wpo_appG1 (K := KH) _ _ rfl 0 (.slice a1 n1 c1) H3 ((s1, s2), c) n1 HLE.out ⟨w5.heap.size, 0, none⟩ 1 rfl (HOW.out _ (al (Below.refl _ _).drew _)) rfl (rdG_lit (K := KH) (heap_alloc_new _ _) rfl) (by show (n1 + 1) * 24 ≤ _; omega) (by simp only [maxLen]; omega) (Nat.zero_le _) ?_; intro g6 c6 w6 hown6 hg6 hat6; obtain ⟨hcq, hfq⟩ := HQ.out _ _ (al (Below.refl _ _).drew _) hg6; have HO6 : Hid _ := hown6; have HG6 : Hid _ := hg6; have HT6 : Hid _ := hat6; clear hown6 hg6 hat6)
      refine hK.out _ _ ?_
      clear hK K
      try simp only [pS]
      refine val_atLate (i := 10) 67 (v := ?_) rfl rfl (by kernel_rfl) (by decide) (by rfl) ?_ ?_
      rotate_left
      · (go_simp; try with_reducible rfl)
      simp only [pS]
      refine val_atLate (i := 11) 68 (v := ?_) rfl rfl (by kernel_rfl) (by decide) (by rfl) ?_ ?_
      rotate_left
      · (go_simp; try with_reducible rfl)
      simp only [pS]
      refine run_atLate (i := 12) rfl (by kernel_rfl) (by decide) (by rfl) (fun K hK => ?_)
      simp only [List.getElem_toArray, List.getElem_cons_zero, List.getElem_cons_succ]
      go_simp
      go_wp2_with fail
      refine hK.out _ _ ?_
      clear hK K
      try simp only [pS]
      refine doneL (by kernel_rfl) ?_ _
      refine NoPanic.normal ?_
      have HU6 : Hid (Below w5.heap.size w5 (w5.drew.alloc (.cells #[.int .u64 (s1 : Int), .int .u64 (s2 : Int), .int .i64 c] KH.t))) := al (Below.refl _ _).drew _
      have hm7 := RiM.push HM5.out HU6.out HO6.out HG6.out
      have hch : Chg (fun b => b = q ∨ (Value.slice a1 n1 c1).ownBlock = some b) w5 (w6.setCell ⟨q, 4, none⟩ (.slice (some ⟨g6, 0, none⟩) (n1 + 1) c6)) := ((Chg.of_below HU6.out).trans (Chg.of_grown HG6.out (F := fun b => (Value.slice a1 n1 c1).ownBlock = some b) (fun b e => e)) (fun b e => .inl (.inr e))).trans (Chg.of_grown (gset1 w6 q 4 _) (F := fun b => b = q) (fun b e => (Option.some.inj e).symm)) (fun b e => .inl (.inl e))
      obtain ⟨w7, hw7⟩ : ∃ w7, w7 = w6.setCell ⟨q, 4, none⟩ (.slice (some ⟨g6, 0, none⟩) (n1 + 1) c6) := ⟨_, rfl⟩
      rw [← hw7] at hm7 hch ⊢
      have HM7 : Hid _ := hm7
      have HC7 : Hid _ := hch
      have hk7 : ∀ u, Below w7.heap.size w7 u → u.cell? ⟨q, 4, none⟩ = some (.slice (some ⟨g6, 0, none⟩) (n1 + 1) c6) ∧ u.cell? ⟨q, 1, none⟩ = some (.int .i64 (mS : Int)) := fun u hu => by
        have h9 := (HM7.out.below hu).cell
        rw [← HMS.out] at h9
        exact ⟨h9.2.2.2.2, h9.2.1⟩
      have HF7 : Hid (∀ b, (Value.slice (some ⟨g6, 0, none⟩) (n1 + 1) c6).ownBlock = some b → (Value.slice a1 n1 c1).ownBlock = some b ∨ w5.heap.size ≤ b) := fun b e => by
        cases e
        exact HT6.out.imp id (fun h9 => Nat.le_trans HU6.out.size h9)
      have HPT : Hid (pt J3.ms J3.H (s1, s2) c = if mS < n1 + 1 then (H3 ++ [((s1, s2), c)]).eraseIdx 0 else H3 ++ [((s1, s2), c)]) := by
        unfold Hid
        rw [HMS.out, HLE.out, HH3.out]
        exact pt_push HNH.out HR5.out.ok.s0 HR5.out.ok.ls
      clear hm7 hch hw7 hcq hfq
      by_cases hms : mS < n1 + 1
      · have hmi : (mS : Int) < ((n1 + 1 : Nat) : Int) := by omega
        have hmj : (mS : Int) < (n1 : Int) + 1 := by omega
        have HFO : Hid (∀ u, Below w7.heap.size w7 u → Calls _ _ _ u _) := fun u hu => rforget_t (HM7.out.below hu) 0 (by simp) (by rw [List.length_append, ← HLE.out]; simp; omega)
        rw [if_pos hms] at HPT
        clear hms
        go_wp2_with fail
        refine wp_region_noPanic ?_
        refine wp_region_held_drew (S := (fun u => Below w7.heap.size w7 u)) (by kernel_rfl) (by first | exact (Below.refl _ _).drew | assumption) (fun hHeld => ?_)
        refine tz (i := 0) 69 rfl rfl hHeld ?_
        simp only [pS]
        refine tz (i := 1) 70 rfl rfl hHeld ?_
        simp only [pS]
        refine tz (i := 2) 71 rfl rfl hHeld ?_
        simp only [pS]
        refine tz (i := 3) 72 rfl rfl hHeld ?_
        simp only [pS]
        refine tz (i := 4) 73 rfl rfl hHeld ?_
        simp only [pS]
        refine tz (i := 5) 74 rfl rfl hHeld ?_
        simp only [pS]
        refine tz (i := 6) 75 rfl rfl hHeld ?_
        simp only [pS]
        refine tz (i := 7) 76 rfl rfl hHeld ?_
        simp only [pS]
        refine tz (i := 8) 77 rfl rfl hHeld ?_
        simp only [pS]
        refine tz (i := 9) 78 rfl rfl hHeld ?_
        simp only [pS]
        refine wpAnyH_done (by kernel_rfl) ?_ _
        refine NoPanic.normal ?_
        clear hk7
        go_wp2_with fail
        refine Calls.mono (HFO.out _ (Below.refl _ _).drew) ?_
        rintro e8 w8 ⟨rfl, v8, hm8, hf8, hc8⟩
        have HL8 : Hid (LfV w5 q v5 (.slice a1 n1 c1) (rm E3 (s1, s2)) { J3 with H := pt J3.ms J3.H (s1, s2) c } w8) := LfV.setH HR5.out (by rw [HPT.out]; exact hm8) (IbOk.dec HR5.out.ok HEP.out c HNO.out) (HC7.out.trans ((Chg.of_below (Below.refl _ _).drew).trans hc8 (fun b e => .inl e)) (fun b e => .inl (.inl e))) (fun b e => .inr (Nat.le_trans HC7.out.size (hf8 b e)))
        clear hm8 hf8 hc8
        go_wp2
        go_ret
        exact ⟨by rw [HD.out]; rfl, by rw [HDI.out]; exact LfV.trans HC5.out HF5.out HL8.out⟩
      · have hmi : ¬ (mS : Int) < ((n1 + 1 : Nat) : Int) := by omega
        have hmj : ¬ (mS : Int) < (n1 : Int) + 1 := by omega
        rw [if_neg hms] at HPT
        clear hms
        go_wp2_with fail
        refine wp_region_noPanic ?_
        refine wp_region_held_drew (S := (fun u => Below w7.heap.size w7 u)) (by kernel_rfl) (by first | exact (Below.refl _ _).drew | assumption) (fun hHeld => ?_)
        refine tz (i := 0) 69 rfl rfl hHeld ?_
        simp only [pS]
        refine tz (i := 1) 70 rfl rfl hHeld ?_
        simp only [pS]
        refine tz (i := 2) 71 rfl rfl hHeld ?_
        simp only [pS]
        refine tz (i := 3) 72 rfl rfl hHeld ?_
        simp only [pS]
        refine tz (i := 4) 73 rfl rfl hHeld ?_
        simp only [pS]
        refine tz (i := 5) 74 rfl rfl hHeld ?_
        simp only [pS]
        refine tz (i := 6) 75 rfl rfl hHeld ?_
        simp only [pS]
        refine tz (i := 7) 76 rfl rfl hHeld ?_
        simp only [pS]
        refine tz (i := 8) 77 rfl rfl hHeld ?_
        simp only [pS]
        refine tz (i := 9) 78 rfl rfl hHeld ?_
        simp only [pS]
        refine wpAnyH_done (by kernel_rfl) ?_ _
        refine NoPanic.normal ?_
        clear hk7
        go_wp2
        go_ret
        exact ⟨by rw [HD.out]; rfl, by rw [HDI.out]; exact LfV.trans HC5.out HF5.out (LfV.setH HR5.out (by rw [HPT.out]; exact HM7.out.below (Below.refl _ _).drew) (IbOk.dec HR5.out.ok HEP.out c HNO.out) (HC7.out.trans (Chg.of_below (F := fun b => b = q) (Below.refl _ _).drew) (fun b e => .inl (.inl e))) HF7.out)⟩
    · have hR5 := HR4.out
      have hJ : J3 = riseI J s1 := by
        rw [HJ3.out]
        unfold dropI
        rw [rm_not (by rw [HR4.out.ksO, ← ks_mp Bg.q]; exact hno)]
      rw [← hJ] at hR5
      obtain ⟨w5, hw5⟩ : ∃ w5, w5 = w4 := ⟨_, rfl⟩
      rw [← hw5] at hR5 HC4 HBX4 ⊢
      have HR5 : Hid _ := hR5
      have HC5 : Hid _ := HC4.out
      have HF5 : Hid _ := HF3.out
      have HBX5 : Hid _ := HBX4.out
      clear hno hR5 hJ hw5
      go_wp2_with fail
      obtain ⟨a1, c1, hv1, -, -, -, -⟩ := OwnG.val HR5.out.m.rs
      subst hv1
      obtain ⟨H3, hH3⟩ : ∃ H3, H3 = J3.H := ⟨_, rfl⟩
      obtain ⟨n1, hn1⟩ : ∃ n1, n1 = H3.length := ⟨_, rfl⟩
      rw [← hH3, ← hn1] at HR5 HF5
      have hR5 := HR5.out
      have HM5 : Hid (RiM w5 q J3.mo J3.ms J3.ep vo3 (.slice a1 n1 c1) (mp Bg.q E3) H3) := by have h9 := hR5.m; rw [← hH3] at h9; exact h9
      have HLE : Hid _ := hn1
      have hnl : n1 ≤ 4096 := by rw [hn1, hH3]; exact hR5.lenH
      have HH3 : Hid _ := hH3
      have HOW : Hid (∀ u, Below w5.heap.size w5 u → OwnG KH u 0 (.slice a1 n1 c1) H3) := fun u hu => OwnG.below HM5.out.rs hu
      have HCQ : Hid (∀ u, Below w5.heap.size w5 u → u.cell? ⟨q, 4, none⟩ = some (.slice a1 n1 c1)) := fun u hu => (HM5.out.below hu).cell.2.2.2.2
      have HCS : Hid (∀ u, Below w5.heap.size w5 u → u.cell? ⟨w.heap.size, 0, none⟩ = some (.int .u64 (s1 : Int)) ∧ u.cell? ⟨w.heap.size, 1, none⟩ = some (.int .u64 (s2 : Int))) := fun u hu => by
        have h9 := (hu.block _ (Array.getElem?_eq_some_iff.1 HBX5.out).1).trans HBX5.out
        exact ⟨by rw [cell_of_row _ _ _ _ _ _ h9]; rfl, by rw [cell_of_row _ _ _ _ _ _ h9]; rfl⟩
      have HQ : Hid (∀ u u', Below w5.heap.size w5 u → u.grownBy u' (Value.slice a1 n1 c1).ownBlock → u'.cell? ⟨q, 4, none⟩ = some (.slice a1 n1 c1) ∧ u'.frozen? ⟨q, 4, none⟩ = false) := fun u u' hu hg => by
        have h9 := HM5.out.below hu
        have h8 : u'.heap[q]? = u.heap[q]? := hg.block q (Array.getElem?_eq_some_iff.1 h9.hp).1 (fun e => h9.sq e.symm)
        exact ⟨(World.cell?_of_block h8).trans h9.cell.2.2.2.2, (World.frozen?_of_block h8).trans (h9.fz 4)⟩
      obtain ⟨mS, hmS⟩ : ∃ mS, mS = J3.ms := ⟨_, rfl⟩
      have HMS : Hid _ := hmS
      clear hR5 hn1 hH3 hmS
      refine wp_region_noPanic ?_
      refine wp_region_late_drew (S := (fun u => Below w5.heap.size w5 u)) (X := [9, 10, 11, 12]) (by kernel_rfl) (by with_reducible first | exact (Below.refl _ _).drew | exact al (Below.refl _ _).drew _ | exact al hHeld _ | exact (al (Below.refl _ _) _).drew) (fun hHeld => ?_)
      refine take_atA (i := 0) 57 (v := ?_) rfl rfl (by kernel_rfl) (by kernel_rfl) (by kernel_rfl) (by decide) (fun _ _ _ h => h) (by rfl) ?_ hHeld ?_
      rotate_left
      · (intro w; go_simp; try with_reducible rfl)
      simp only [pS]
      refine take_atA (i := 1) 58 (v := ?_) rfl rfl (by kernel_rfl) (by kernel_rfl) (by kernel_rfl) (by decide) (fun _ _ _ h => h) (by rfl) ?_ hHeld ?_
      rotate_left
      · (intro w; go_simp; try with_reducible rfl)
      simp only [pS]
      refine take_atA (i := 2) 59 (v := ?_) rfl rfl (by kernel_rfl) (by kernel_rfl) (by kernel_rfl) (by decide) (fun _ _ _ h => h) (by rfl) ?_ hHeld ?_
      rotate_left
      · (intro w; go_simp; try with_reducible rfl)
      simp only [pS]
      refine take_atA (i := 3) 60 (v := ?_) rfl rfl (by kernel_rfl) (by kernel_rfl) (by kernel_rfl) (by decide) (fun _ _ _ h => h) (by rfl) ?_ hHeld ?_
      rotate_left
      · (intro w; go_simp; try with_reducible rfl)
      simp only [pS]
      refine take_atL (i := 4) 61 (v := .slice a1 n1 c1) rfl rfl (by kernel_rfl) (by kernel_rfl) (by kernel_rfl) (by kernel_rfl) (fun _ _ _ h => h) (by rfl) ?_ hHeld ?_
      · (intro w hSw; have hc9 := HCQ.out _ hSw; go_simp; try with_reducible rfl)
      simp only [pS]
      refine take_atL (i := 5) 62 (v := .agg #[.int .u64 (s1 : Int), .int .u64 (s2 : Int)]) rfl rfl (by kernel_rfl) (by kernel_rfl) (by kernel_rfl) (by kernel_rfl) (fun _ _ _ h => h) (by rfl) ?_ hHeld ?_
      · (intro w hSw; have hc9 := HCS.out _ hSw; go_simp; try with_reducible rfl)
      simp only [pS]
      refine take_atA (i := 6) 63 (v := ?_) rfl rfl (by kernel_rfl) (by kernel_rfl) (by kernel_rfl) (by decide) (fun _ _ _ h => h) (by rfl) ?_ hHeld ?_
      rotate_left
      · (intro w; go_simp; try with_reducible rfl)
      simp only [pS]
      refine take_atA (i := 7) 64 (v := ?_) rfl rfl (by kernel_rfl) (by kernel_rfl) (by kernel_rfl) (by decide) (fun _ _ _ h => h) (by rfl) ?_ hHeld ?_
      rotate_left
      · (intro w; go_simp; try with_reducible rfl)
      simp only [pS]
      refine run_atL (i := 8) rfl (by kernel_rfl) (by rfl) (fun K hK => ?_)
      simp only [List.getElem_toArray, List.getElem_cons_zero, List.getElem_cons_succ]
      go_simp
      go_wp2_with fail
      refine hK.out _ _ (by with_reducible first | exact (Below.refl _ _).drew | exact al (Below.refl _ _).drew _ | exact al hHeld _ | exact (al (Below.refl _ _) _).drew) ?_
      clear hK K
      intro hHeld2
      clear hHeld
      have hHeld := hHeld2
      clear hHeld2
      try simp only [pS]
      refine run_atLate (i := 9) rfl (by kernel_rfl) (by decide) (by rfl) (fun K hK => ?_)
      simp only [List.getElem_toArray, List.getElem_cons_zero, List.getElem_cons_succ]
      (refine wpo_appG1 (K := KH) _ _ rfl 0 (.slice a1 n1 c1) H3 ((s1, s2), c) n1 HLE.out ⟨w5.heap.size, 0, none⟩ 1 rfl (HOW.out _ (al (Below.refl _ _).drew _)) rfl (rdG_lit (K := KH) (heap_alloc_new _ _) rfl) (by show (n1 + 1) * 24 ≤ _; omega) (by simp only [maxLen]; omega) (Nat.zero_le _) ?_; intro g6 c6 w6 hown6 hg6 hat6; obtain ⟨hcq, hfq⟩ := HQ.out _ _ (al (Below.refl _ _).drew _) hg6; have HO6 : Hid _ := hown6; have HG6 : Hid _ := hg6; have HT6 : Hid _ := hat6; clear hown6 hg6 hat6)
      refine hK.out _ _ ?_
      clear hK K
      try simp only [pS]
      refine val_atLate (i := 10) 67 (v := ?_) rfl rfl (by kernel_rfl) (by decide) (by rfl) ?_ ?_
      rotate_left
      · (go_simp; try with_reducible rfl)
      simp only [pS]
      refine val_atLate (i := 11) 68 (v := ?_) rfl rfl (by kernel_rfl) (by decide) (by rfl) ?_ ?_
      rotate_left
      · (go_simp; try with_reducible rfl)
      simp only [pS]
      refine run_atLate (i := 12) rfl (by kernel_rfl) (by decide) (by rfl) (fun K hK => ?_)
      simp only [List.getElem_toArray, List.getElem_cons_zero, List.getElem_cons_succ]
      go_simp
      go_wp2_with fail
      refine hK.out _ _ ?_
      clear hK K
      try simp only [pS]
      refine doneL (by kernel_rfl) ?_ _
      refine NoPanic.normal ?_
      have HU6 : Hid (Below w5.heap.size w5 (w5.drew.alloc (.cells #[.int .u64 (s1 : Int), .int .u64 (s2 : Int), .int .i64 c] KH.t))) := al (Below.refl _ _).drew _
      have hm7 := RiM.push HM5.out HU6.out HO6.out HG6.out
      have hch : Chg (fun b => b = q ∨ (Value.slice a1 n1 c1).ownBlock = some b) w5 (w6.setCell ⟨q, 4, none⟩ (.slice (some ⟨g6, 0, none⟩) (n1 + 1) c6)) := ((Chg.of_below HU6.out).trans (Chg.of_grown HG6.out (F := fun b => (Value.slice a1 n1 c1).ownBlock = some b) (fun b e => e)) (fun b e => .inl (.inr e))).trans (Chg.of_grown (gset1 w6 q 4 _) (F := fun b => b = q) (fun b e => (Option.some.inj e).symm)) (fun b e => .inl (.inl e))
      obtain ⟨w7, hw7⟩ : ∃ w7, w7 = w6.setCell ⟨q, 4, none⟩ (.slice (some ⟨g6, 0, none⟩) (n1 + 1) c6) := ⟨_, rfl⟩
      rw [← hw7] at hm7 hch ⊢
      have HM7 : Hid _ := hm7
      have HC7 : Hid _ := hch
      have hk7 : ∀ u, Below w7.heap.size w7 u → u.cell? ⟨q, 4, none⟩ = some (.slice (some ⟨g6, 0, none⟩) (n1 + 1) c6) ∧ u.cell? ⟨q, 1, none⟩ = some (.int .i64 (mS : Int)) := fun u hu => by
        have h9 := (HM7.out.below hu).cell
        rw [← HMS.out] at h9
        exact ⟨h9.2.2.2.2, h9.2.1⟩
      have HF7 : Hid (∀ b, (Value.slice (some ⟨g6, 0, none⟩) (n1 + 1) c6).ownBlock = some b → (Value.slice a1 n1 c1).ownBlock = some b ∨ w5.heap.size ≤ b) := fun b e => by
        cases e
        exact HT6.out.imp id (fun h9 => Nat.le_trans HU6.out.size h9)
      have HPT : Hid (pt J3.ms J3.H (s1, s2) c = if mS < n1 + 1 then (H3 ++ [((s1, s2), c)]).eraseIdx 0 else H3 ++ [((s1, s2), c)]) := by
        unfold Hid
        rw [HMS.out, HLE.out, HH3.out]
        exact pt_push HNH.out HR5.out.ok.s0 HR5.out.ok.ls
      clear hm7 hch hw7 hcq hfq
      by_cases hms : mS < n1 + 1
      · have hmi : (mS : Int) < ((n1 + 1 : Nat) : Int) := by omega
        have hmj : (mS : Int) < (n1 : Int) + 1 := by omega
        have HFO : Hid (∀ u, Below w7.heap.size w7 u → Calls _ _ _ u _) := fun u hu => rforget_t (HM7.out.below hu) 0 (by simp) (by rw [List.length_append, ← HLE.out]; simp; omega)
        rw [if_pos hms] at HPT
        clear hms
        go_wp2_with fail
        refine wp_region_noPanic ?_
        refine wp_region_held_drew (S := (fun u => Below w7.heap.size w7 u)) (by kernel_rfl) (by first | exact (Below.refl _ _).drew | assumption) (fun hHeld => ?_)
        refine tz (i := 0) 69 rfl rfl hHeld ?_
        simp only [pS]
        refine tz (i := 1) 70 rfl rfl hHeld ?_
        simp only [pS]
        refine tz (i := 2) 71 rfl rfl hHeld ?_
        simp only [pS]
        refine tz (i := 3) 72 rfl rfl hHeld ?_
        simp only [pS]
        refine tz (i := 4) 73 rfl rfl hHeld ?_
        simp only [pS]
        refine tz (i := 5) 74 rfl rfl hHeld ?_
        simp only [pS]
        refine tz (i := 6) 75 rfl rfl hHeld ?_
        simp only [pS]
        refine tz (i := 7) 76 rfl rfl hHeld ?_
        simp only [pS]
        refine tz (i := 8) 77 rfl rfl hHeld ?_
        simp only [pS]
        refine tz (i := 9) 78 rfl rfl hHeld ?_
        simp only [pS]
        refine wpAnyH_done (by kernel_rfl) ?_ _
        refine NoPanic.normal ?_
        clear hk7
        go_wp2_with fail
        refine Calls.mono (HFO.out _ (Below.refl _ _).drew) ?_
        rintro e8 w8 ⟨rfl, v8, hm8, hf8, hc8⟩
        have HL8 : Hid (LfV w5 q vo3 (.slice a1 n1 c1) E3 { J3 with H := pt J3.ms J3.H (s1, s2) c } w8) := LfV.setH HR5.out (by rw [HPT.out]; exact hm8) (IbOk.dec HR5.out.ok HEP.out c HNO.out) (HC7.out.trans ((Chg.of_below (Below.refl _ _).drew).trans hc8 (fun b e => .inl e)) (fun b e => .inl (.inl e))) (fun b e => .inr (Nat.le_trans HC7.out.size (hf8 b e)))
        clear hm8 hf8 hc8
        go_wp2
        go_ret
        exact ⟨by rw [HD.out]; rfl, by rw [HDI.out]; exact LfV.trans HC5.out HF5.out HL8.out⟩
      · have hmi : ¬ (mS : Int) < ((n1 + 1 : Nat) : Int) := by omega
        have hmj : ¬ (mS : Int) < (n1 : Int) + 1 := by omega
        rw [if_neg hms] at HPT
        clear hms
        go_wp2_with fail
        refine wp_region_noPanic ?_
        refine wp_region_held_drew (S := (fun u => Below w7.heap.size w7 u)) (by kernel_rfl) (by first | exact (Below.refl _ _).drew | assumption) (fun hHeld => ?_)
        refine tz (i := 0) 69 rfl rfl hHeld ?_
        simp only [pS]
        refine tz (i := 1) 70 rfl rfl hHeld ?_
        simp only [pS]
        refine tz (i := 2) 71 rfl rfl hHeld ?_
        simp only [pS]
        refine tz (i := 3) 72 rfl rfl hHeld ?_
        simp only [pS]
        refine tz (i := 4) 73 rfl rfl hHeld ?_
        simp only [pS]
        refine tz (i := 5) 74 rfl rfl hHeld ?_
        simp only [pS]
        refine tz (i := 6) 75 rfl rfl hHeld ?_
        simp only [pS]
        refine tz (i := 7) 76 rfl rfl hHeld ?_
        simp only [pS]
        refine tz (i := 8) 77 rfl rfl hHeld ?_
        simp only [pS]
        refine tz (i := 9) 78 rfl rfl hHeld ?_
        simp only [pS]
        refine wpAnyH_done (by kernel_rfl) ?_ _
        refine NoPanic.normal ?_
        clear hk7
        go_wp2
        go_ret
        exact ⟨by rw [HD.out]; rfl, by rw [HDI.out]; exact LfV.trans HC5.out HF5.out (LfV.setH HR5.out (by rw [HPT.out]; exact HM7.out.below (Below.refl _ _).drew) (IbOk.dec HR5.out.ok HEP.out c HNO.out) (HC7.out.trans (Chg.of_below (F := fun b => b = q) (Below.refl _ _).drew) (fun b e => .inl (.inl e))) HF7.out)⟩
end
end Go.Proofs.YtdoikcolkbjnfaaGreat
namespace Go.Proofs.YtdoikcolkbjnfaaGreat
set_option linter.unusedVariables false
set_option linter.unusedSimpArgs false
open Go.RowKit Go.Maps
/-- the rest behind a cell's row: a prefix can be read -/
theorem RdG.pre {α : Type} {K : Kd α} {w : World} {a : Option Addr} {xs : List α} (h : RdG K w a xs) (k : Nat) : RdG K w a (xs.take k) := fun j hj => by
  have hj' : j < xs.length := by rw [List.length_take] at hj; omega
  obtain ⟨b, o, h1, h2, h3⟩ := h j hj'
  exact ⟨b, o, h1, by rw [List.getElem_take]; exact h2, h3⟩
theorem IbOk.all {I : Ib} (h : IbOk I) : (ks I.O ++ ks I.H).Nodup ∧ (∀ s, s ∈ ks I.O ++ ks I.H → s.1 = I.ep) ∧ (ks I.O ++ ks I.H).length ≤ 4160 := by
  refine ⟨List.nodup_append.2 ⟨h.no, h.nh, fun a ha b hb e => h.ap a ha (e ▸ hb)⟩, fun s hs => (List.mem_append.1 hs).elim (h.eo s) (h.eh s), ?_⟩
  have := h.lo
  have := h.ls
  have := h.o1
  have := h.s1
  rw [List.length_append, len_ks, len_ks]
  omega
theorem opRange {u : World} {b o : Nat} {y : OpX} (h : u.rangeAt b o y.c.toList) : u.cell? ⟨b, o, none⟩ = some (.int .i64 y.kd) ∧ u.cell? ⟨b, o + 1, none⟩ = some (.int .i64 y.x.u.kind) ∧ u.cell? ⟨b, o + 2, none⟩ = some (.int .u64 y.x.u.ep) ∧ u.cell? ⟨b, o + 3, none⟩ = some (.int .u64 y.x.u.se) ∧ u.cell? ⟨b, o + 4, none⟩ = some (.int .i64 y.x.u.path) ∧ u.cell? ⟨b, o + 5, none⟩ = some (.int .i64 y.x.u.idx) ∧ u.cell? ⟨b, o + 6, none⟩ = some (.int .i64 y.x.u.cnt) ∧ u.cell? ⟨b, o + 7, none⟩ = some (.slice y.x.da y.x.dn y.x.dc) ∧ u.cell? ⟨b, o + 8, none⟩ = some (.int .i64 y.x.u.code) ∧ u.cell? ⟨b, o + 9, none⟩ = some (.slice y.x.ga y.x.gn y.x.gc) ∧ u.cell? ⟨b, o + 10, none⟩ = some (.int .u64 (y.e : Int)) ∧ u.cell? ⟨b, o + 11, none⟩ = some (.int .u64 (y.n : Int)) ∧ u.cell? ⟨b, o + 12, none⟩ = some (.int .i64 y.cd) :=
  ⟨h 0 _ rfl, h 1 _ rfl, h 2 _ rfl, h 3 _ rfl, h 4 _ rfl, h 5 _ rfl, h 6 _ rfl, h 7 _ rfl, h 8 _ rfl, h 9 _ rfl, h 10 _ rfl, h 11 _ rfl, h 12 _ rfl⟩
end Go.Proofs.YtdoikcolkbjnfaaGreat
namespace Go.Proofs.YtdoikcolkbjnfaaGreat
set_option linter.unusedVariables false
set_option linter.unusedSimpArgs false
open Go.RowKit Go.Maps
section
set_option maxRecDepth 20000
set_option maxHeartbeats 6400000
theorem refData_t (u : Un) (da : Option Addr) (dn dc : Nat) (ga : Option Addr) (gn gc : Nat) (hn : dn = u.data.length) (hg : gn = u.got.length) (w : World) : Calls Tryz.prog 48 #[unV u da dn dc ga gn gc] w fun r w' => r = .returned (.bool (dataB u)) ∧ Below w.heap.size w w' := by
  obtain ⟨k, e, se, pa, i, c, xs, cd, l⟩ := u
  simp only at hn hg
  by_cases h1 : k ≠ 1
  · have q1 : (k == 1) = false := by simp [h1]
    have HD : Hid (dataB ⟨k, e, se, pa, i, c, xs, cd, l⟩ = false) := by unfold Hid dataB; exact decide_eq_false (fun h9 => by simp only at h9; omega)
    clear hn hg
    go_enter Tryz.func48, Tryz.ntmps48
    go_wp2
    go_ret
    exact ⟨by rw [HD.out]; rfl, al (Below.refl _ _) _⟩
  · have hx1 := Classical.not_not.1 h1; subst hx1; clear h1
    by_cases h2 : e < 1
    · have HD : Hid (dataB ⟨1, e, se, pa, i, c, xs, cd, l⟩ = false) := by unfold Hid dataB; exact decide_eq_false (fun h9 => by simp only at h9; omega)
      clear hn hg
      go_enter Tryz.func48, Tryz.ntmps48
      go_wp2
      go_ret
      exact ⟨by rw [HD.out]; rfl, al (Below.refl _ _) _⟩
    · have hx2 := h2
      by_cases h3 : 281474976710655 < e
      · have HD : Hid (dataB ⟨1, e, se, pa, i, c, xs, cd, l⟩ = false) := by unfold Hid dataB; exact decide_eq_false (fun h9 => by simp only at h9; omega)
        clear hn hg
        go_enter Tryz.func48, Tryz.ntmps48
        go_wp2
        go_ret
        exact ⟨by rw [HD.out]; rfl, al (Below.refl _ _) _⟩
      · have hx3 := h3
        by_cases h4 : se < 1
        · have HD : Hid (dataB ⟨1, e, se, pa, i, c, xs, cd, l⟩ = false) := by unfold Hid dataB; exact decide_eq_false (fun h9 => by simp only at h9; omega)
          clear hn hg
          go_enter Tryz.func48, Tryz.ntmps48
          go_wp2
          go_ret
          exact ⟨by rw [HD.out]; rfl, al (Below.refl _ _) _⟩
        · have hx4 := h4
          by_cases h5 : 281474976710655 < se
          · have HD : Hid (dataB ⟨1, e, se, pa, i, c, xs, cd, l⟩ = false) := by unfold Hid dataB; exact decide_eq_false (fun h9 => by simp only at h9; omega)
            clear hn hg
            go_enter Tryz.func48, Tryz.ntmps48
            go_wp2
            go_ret
            exact ⟨by rw [HD.out]; rfl, al (Below.refl _ _) _⟩
          · have hx5 := h5
            by_cases h6 : pa < 1
            · have HD : Hid (dataB ⟨1, e, se, pa, i, c, xs, cd, l⟩ = false) := by unfold Hid dataB; exact decide_eq_false (fun h9 => by simp only at h9; omega)
              clear hn hg
              go_enter Tryz.func48, Tryz.ntmps48
              go_wp2
              go_ret
              exact ⟨by rw [HD.out]; rfl, al (Below.refl _ _) _⟩
            · have hx6 := h6
              by_cases h7 : 2 < pa
              · have HD : Hid (dataB ⟨1, e, se, pa, i, c, xs, cd, l⟩ = false) := by unfold Hid dataB; exact decide_eq_false (fun h9 => by simp only at h9; omega)
                clear hn hg
                go_enter Tryz.func48, Tryz.ntmps48
                go_wp2
                go_ret
                exact ⟨by rw [HD.out]; rfl, al (Below.refl _ _) _⟩
              · have hx7 := h7
                by_cases h8 : c < 1
                · have HD : Hid (dataB ⟨1, e, se, pa, i, c, xs, cd, l⟩ = false) := by unfold Hid dataB; exact decide_eq_false (fun h9 => by simp only at h9; omega)
                  clear hn hg
                  go_enter Tryz.func48, Tryz.ntmps48
                  go_wp2
                  go_ret
                  exact ⟨by rw [HD.out]; rfl, al (Below.refl _ _) _⟩
                · have hx8 := h8
                  by_cases h9 : 64 < c
                  · have HD : Hid (dataB ⟨1, e, se, pa, i, c, xs, cd, l⟩ = false) := by unfold Hid dataB; exact decide_eq_false (fun h9 => by simp only at h9; omega)
                    clear hn hg
                    go_enter Tryz.func48, Tryz.ntmps48
                    go_wp2
                    go_ret
                    exact ⟨by rw [HD.out]; rfl, al (Below.refl _ _) _⟩
                  · have hx9 := h9
                    by_cases h10 : i < 0
                    · have HD : Hid (dataB ⟨1, e, se, pa, i, c, xs, cd, l⟩ = false) := by unfold Hid dataB; exact decide_eq_false (fun h9 => by simp only at h9; omega)
                      clear hn hg
                      go_enter Tryz.func48, Tryz.ntmps48
                      go_wp2
                      go_ret
                      exact ⟨by rw [HD.out]; rfl, al (Below.refl _ _) _⟩
                    · have hx10 := h10
                      by_cases h11 : c ≤ i
                      · have HD : Hid (dataB ⟨1, e, se, pa, i, c, xs, cd, l⟩ = false) := by unfold Hid dataB; exact decide_eq_false (fun h9 => by simp only at h9; omega)
                        clear hn hg
                        go_enter Tryz.func48, Tryz.ntmps48
                        go_wp2
                        go_ret
                        exact ⟨by rw [HD.out]; rfl, al (Below.refl _ _) _⟩
                      · have hx11 := h11
                        by_cases h12 : (dn : Int) < 1
                        · have HD : Hid (dataB ⟨1, e, se, pa, i, c, xs, cd, l⟩ = false) := by unfold Hid dataB; exact decide_eq_false (fun h9 => by simp only at h9; omega)
                          clear hn hg
                          go_enter Tryz.func48, Tryz.ntmps48
                          go_wp2
                          go_ret
                          exact ⟨by rw [HD.out]; rfl, al (Below.refl _ _) _⟩
                        · have hx12 := h12
                          by_cases h13 : 1024 < (dn : Int)
                          · have HD : Hid (dataB ⟨1, e, se, pa, i, c, xs, cd, l⟩ = false) := by unfold Hid dataB; exact decide_eq_false (fun h9 => by simp only at h9; omega)
                            clear hn hg
                            go_enter Tryz.func48, Tryz.ntmps48
                            go_wp2
                            go_ret
                            exact ⟨by rw [HD.out]; rfl, al (Below.refl _ _) _⟩
                          · have hx13 := h13
                            by_cases h14 : cd ≠ 0
                            · have HD : Hid (dataB ⟨1, e, se, pa, i, c, xs, cd, l⟩ = false) := by unfold Hid dataB; exact decide_eq_false (fun h9 => by simp only at h9; omega)
                              clear hn hg
                              have q9 : (cd == 0) = false := by simp [h14]
                              go_enter Tryz.func48, Tryz.ntmps48
                              go_wp2
                              go_ret
                              exact ⟨by rw [HD.out]; rfl, al (Below.refl _ _) _⟩
                            · have hx14 := Classical.not_not.1 h14; subst hx14; clear h14
                              by_cases h15 : (gn : Int) ≠ 0
                              · have HD : Hid (dataB ⟨1, e, se, pa, i, c, xs, 0, l⟩ = false) := by unfold Hid dataB; exact decide_eq_false (fun h9 => by simp only at h9; omega)
                                clear hn hg
                                have q9 : ((gn : Int) == 0) = false := by simp; omega
                                go_enter Tryz.func48, Tryz.ntmps48
                                go_wp2
                                go_ret
                                exact ⟨by rw [HD.out]; rfl, al (Below.refl _ _) _⟩
                              · obtain rfl : gn = 0 := by omega
                                have hL2 : 1 ≤ e := by omega
                                have hL3 : e ≤ 281474976710655 := by omega
                                have hL4 : 1 ≤ se := by omega
                                have hL5 : se ≤ 281474976710655 := by omega
                                have hL6 : pa = 1 ∨ pa = 2 := by omega
                                have hL7 : 0 ≤ i := by omega
                                have hL8 : i < 64 := by omega
                                have hL9 : i < c := by omega
                                have hL10 : c ≤ 64 := by omega
                                have hL11 : 1 ≤ xs.length := by omega
                                have hL12 : xs.length ≤ 1024 := by omega
                                have hL13 : l.length = 0 := by omega
                                have HD : Hid (dataB ⟨1, e, se, pa, i, c, xs, 0, l⟩ = true) := by unfold Hid dataB; exact (dataB_iff _).2 (by unfold dataP nameOk; exact ⟨rfl, ⟨hL2, hL3⟩, ⟨hL4, hL5⟩, hL6, ⟨hL7, hL8⟩, ⟨hL9, hL10⟩, ⟨hL11, hL12⟩, rfl, hL13⟩)
                                clear hn hg hL2 hL3 hL4 hL5 hL6 hL7 hL8 hL9 hL10 hL11 hL12 hL13
                                go_enter Tryz.func48, Tryz.ntmps48
                                go_wp2
                                go_ret
                                exact ⟨by rw [HD.out]; rfl, al (Below.refl _ _) _⟩
end
end Go.Proofs.YtdoikcolkbjnfaaGreat
