import Derived.Test.YtdoikcolkbjnfaaGreatLLb
namespace Go.Proofs.YtdoikcolkbjnfaaGreat
set_option linter.unusedVariables false
set_option linter.unusedSimpArgs false
open Go.RowKit Go.Maps
section
set_option maxRecDepth 20000
set_option maxHeartbeats 6400000
theorem staysL_t (x : UnM) (w : World) (hx : UnOk w x) {B g c h d : Nat} (hL : LentAt B w x g c h d) : Calls Tryz.prog 44 #[.agg (lentC x g c h d), .agg x.c] w fun e w' => e = .returned (.bool true) ∧ Below w.heap.size w w' := by
  obtain ⟨⟨k, e, se, pa, i, cn, xs, cd, l⟩, da, dn, dc, ga, gn, gc⟩ := x
  obtain ⟨hn, hg, hrd, hdl, hdz, hdb, hrg, hgl, hgz, hgb, -, -⟩ := hx
  obtain ⟨hbs, hrs, hcc, hdd, -, -⟩ := hL
  simp only at hn hg hrd hdl hdz hdb hrg hgl hgz hgb hbs hrs hcc hdd
  obtain ⟨M, hM⟩ : ∃ M, M = dn + 8 := ⟨_, rfl⟩
  obtain ⟨K2, hK2⟩ : ∃ K2, K2 = gn + 1 := ⟨_, rfl⟩
  rw [← hM] at hbs hcc
  rw [← hK2] at hrs hdd
  have hMn : M = (xs ++ marksL).length := by rw [List.length_append, ← hn]; exact hM
  have hKn : K2 = (l ++ [((-7 : Int), (-7 : Int))]).length := by rw [List.length_append, ← hg]; exact hK2
  have hr1 : Rd w (some ⟨g, 0, none⟩) (xs ++ marksL) := by
    obtain ⟨a1, c1, hv1, -, -, -, hr1, -⟩ := Own.val hbs
    simp only [Value.slice.injEq] at hv1
    rw [hv1.1]; exact hr1
  have hr2 : RdR w (some ⟨h, 0, none⟩) (l ++ [((-7 : Int), (-7 : Int))]) := by
    obtain ⟨a1, c1, hv1, -, -, -, hr1, -⟩ := OwnR.val hrs
    simp only [Value.slice.injEq] at hv1
    rw [hv1.1]; exact hr1
  obtain ⟨w1, hw1⟩ : ∃ w1, w1 = (w.alloc (.cells (unC k e se pa i cn (some ⟨g, 0, none⟩) dn c cd (some ⟨h, 0, none⟩) gn d) tUn)).alloc (.cells (unC k e se pa i cn da dn dc cd ga gn gc) tUn) := ⟨_, rfl⟩
  have hb1 : Below w.heap.size w w1 := by rw [hw1]; exact al (al (Below.refl _ _) _) _
  have hP1 : w1.heap[w.heap.size]? = some (.cells (unC k e se pa i cn (some ⟨g, 0, none⟩) dn c cd (some ⟨h, 0, none⟩) gn d) tUn (0, 0)) := by
    rw [hw1]
    exact ((al (Below.refl _ (w.alloc (.cells (unC k e se pa i cn (some ⟨g, 0, none⟩) dn c cd (some ⟨h, 0, none⟩) gn d) tUn))) _).block _ (by simp)).trans (heap_alloc_new _ _)
  have hQ1 : w1.heap[w.heap.size + 1]? = some (.cells (unC k e se pa i cn da dn dc cd ga gn gc) tUn (0, 0)) := by
    rw [hw1]
    have h9 := heap_alloc_new (w.alloc (.cells (unC k e se pa i cn (some ⟨g, 0, none⟩) dn c cd (some ⟨h, 0, none⟩) gn d) tUn)) (.cells (unC k e se pa i cn da dn dc cd ga gn gc) tUn)
    rw [World.size_alloc] at h9
    exact h9
  obtain ⟨P, hP⟩ : ∃ P, P = w.heap.size := ⟨_, rfl⟩
  rw [← hP] at hP1 hQ1
  have hk : ∀ u, Below w1.heap.size w1 u → u.cell? ⟨P, 6, none⟩ = some (.slice (some ⟨g, 0, none⟩) dn c) ∧ u.cell? ⟨P, 8, none⟩ = some (.slice (some ⟨h, 0, none⟩) gn d) ∧ u.cell? ⟨P + 1, 6, none⟩ = some (.slice da dn dc) ∧ u.cell? ⟨P + 1, 8, none⟩ = some (.slice ga gn gc) := fun u hu => by
    have h1 := unBox ((hu.block _ (Array.getElem?_eq_some_iff.1 hP1).1).trans hP1)
    have h2 := unBox ((hu.block _ (Array.getElem?_eq_some_iff.1 hQ1).1).trans hQ1)
    exact ⟨h1.2.2.2.2.2.2.1, h1.2.2.2.2.2.2.2.2, h2.2.2.2.2.2.2.1, h2.2.2.2.2.2.2.2.2⟩
  have hk1 := hk w1 (Below.refl _ _)
  have hv1 : ∀ u, Below w1.heap.size w1 u → (convert 34 9 (.slice (some ⟨g, 0, none⟩) M c)).run Tryz.prog u = .ok (.string ⟨(xs ++ marksL).toArray⟩) u := fun u hu => conv_rd' (Rd.below hr1 (below_next hb1 hu)) M c hMn
  have hv2 : ∀ u, Below w1.heap.size w1 u → (convert 34 9 (.slice da dn dc)).run Tryz.prog u = .ok (.string ⟨xs.toArray⟩) u := fun u hu => conv_rd' (Rd.below hrd (below_next hb1 hu)) dn dc hn
  have h9s : ¬ 9223372036854775807 < xs.length + 8 := by omega
  have hcE : ((⟨xs.toArray⟩ : ByteArray) ++ (⟨#[11, 12, 13, 14, 15, 16, 17, 18]⟩ : ByteArray)) = ⟨(xs ++ marksL).toArray⟩ := by
    apply ByteArray.ext
    simp [marksL]
  have hne : ∀ u, (binOp .neq 9 (.string ⟨(xs ++ marksL).toArray⟩) (.string ⟨(xs ++ marksL).toArray⟩)).run Tryz.prog u = .ok (.bool false) u := fun u => neq_str _ u
  have hl7 : ∀ u, Below w1.heap.size w1 u → u.cell? ⟨h, gn * 2, none⟩ = some (.int .i64 (-7)) ∧ u.cell? ⟨h, gn * 2 + 1, none⟩ = some (.int .i64 (-7)) := fun u hu => by
    obtain ⟨b9, o9, h8, h9, h10⟩ := (hr2.below (below_next hb1 hu)) gn (by rw [List.length_append, ← hg]; simp)
    have e9 : (l ++ [((-7 : Int), (-7 : Int))])[gn]'(by rw [List.length_append, ← hg]; simp) = (-7, -7) := by
      subst hg
      simp
    cases h8
    rw [e9, Nat.zero_add] at h9 h10
    exact ⟨h9, h10⟩
  have hn7 : ∀ u, (binOp .neq 71 (.agg #[.int .i64 (-7), .int .i64 (-7)]) (.agg #[.int .i64 (-7), .int .i64 (-7)])).run Tryz.prog u = .ok (.bool false) u := fun u => by rw [neq_rgc]; simp
  have hMw : IntKind.i64.wrap ((dn : Int) + 8) = (M : Int) := by rw [IntKind.wrap_i64]; omega
  have hKw : IntKind.i64.wrap ((gn : Int) + 1) = (K2 : Int) := by rw [IntKind.wrap_i64]; omega
  have hM0 : (0 : Int) ≤ (M : Int) := by omega
  have hM1 : (M : Int) ≤ (c : Int) := by omega
  have hM2 : M ≤ c := by omega
  have hK0 : (0 : Int) ≤ (K2 : Int) := by omega
  have hK1 : (K2 : Int) ≤ (d : Int) := by omega
  have hK3 : K2 ≤ d := by omega
  have hg0 : (0 : Int) ≤ (gn : Int) := by omega
  have hgK : (gn : Int) < (K2 : Int) := by omega
  have hdd1 : ((dn : Int) != (dn : Int)) = false := by simp
  have hgg1 : ((gn : Int) != (gn : Int)) = false := by simp
  have HR2 : Hid (RdR w1 (some ⟨h, 0, none⟩) (l ++ [((-7 : Int), (-7 : Int))])) := hr2.below hb1
  have HRG : Hid (RdR w1 ga l) := hrg.below hb1
  have HGN : Hid (gn = l.length) := hg
  have HGB : Hid (gn ≤ 8796093022208) := by unfold Hid; omega
  have HB1 : Hid _ := hb1
  have HW1 : Hid (w1 = _) := hw1
  have HP : Hid (P = w.heap.size) := hP
  clear hn hg hrd hdl hdz hdb hrg hgl hgz hgb hbs hrs hcc hdd hM hK2 hMn hKn hr1 hr2 hb1 hP1 hQ1 hw1 hP
  go_enter Tryz.func44, Tryz.ntmps44
  go_upto_region 1 with fail
  rw [← HW1.out, ← HP.out]
  go_wp2_with fail
  refine wp_region_noPanic ?_
  refine wp_region_held_drew (S := (fun u => Below w1.heap.size w1 u)) (by kernel_rfl) (by first | exact (Below.refl _ _).drew | assumption) (fun hHeld => ?_)
  refine tz (i := 0) 22 rfl rfl hHeld ?_
  simp only [pS]
  refine tz (i := 1) 23 rfl rfl hHeld ?_
  simp only [pS]
  refine tz (i := 2) 24 rfl rfl hHeld ?_
  simp only [pS]
  refine tz (i := 3) 25 rfl rfl hHeld ?_
  simp only [pS]
  refine tz (i := 4) 26 rfl rfl hHeld ?_
  simp only [pS]
  refine tz (i := 5) 27 rfl rfl hHeld ?_
  simp only [pS]
  refine tz (i := 6) 28 rfl rfl hHeld ?_
  simp only [pS]
  refine tz (i := 7) 29 rfl rfl hHeld ?_
  simp only [pS]
  refine tz (i := 8) 30 rfl rfl hHeld ?_
  simp only [pS]
  refine tz (i := 9) 31 rfl rfl hHeld ?_
  simp only [pS]
  refine tz (i := 10) 32 rfl rfl hHeld ?_
  simp only [pS]
  refine tk (i := 11) 33 (v := .string ⟨(xs ++ marksL).toArray⟩) rfl rfl ?_ hHeld ?_
  · (intro w hSw; (try dsimp only at hSw); go_simp; try simp [h9s, hcE])
  simp only [pS]
  refine tk (i := 12) 34 (v := .bool false) rfl rfl ?_ hHeld ?_
  · (intro w hSw; (try dsimp only at hSw); go_simp; try simp [neq_str])
  simp only [pS]
  refine tz (i := 13) 35 rfl rfl hHeld ?_
  simp only [pS]
  refine tz (i := 14) 36 rfl rfl hHeld ?_
  simp only [pS]
  refine tz (i := 15) 37 rfl rfl hHeld ?_
  simp only [pS]
  refine tz (i := 16) 38 rfl rfl hHeld ?_
  simp only [pS]
  refine tz (i := 17) 39 rfl rfl hHeld ?_
  simp only [pS]
  refine tz (i := 18) 40 rfl rfl hHeld ?_
  simp only [pS]
  refine tz (i := 19) 41 rfl rfl hHeld ?_
  simp only [pS]
  refine tz (i := 20) 42 rfl rfl hHeld ?_
  simp only [pS]
  refine tz (i := 21) 43 rfl rfl hHeld ?_
  simp only [pS]
  refine tz (i := 22) 44 rfl rfl hHeld ?_
  simp only [pS]
  refine tz (i := 23) 45 rfl rfl hHeld ?_
  simp only [pS]
  refine tz (i := 24) 46 rfl rfl hHeld ?_
  simp only [pS]
  refine tz (i := 25) 47 rfl rfl hHeld ?_
  simp only [pS]
  refine tz (i := 26) 48 rfl rfl hHeld ?_
  simp only [pS]
  refine tz (i := 27) 49 rfl rfl hHeld ?_
  simp only [pS]
  refine tz (i := 28) 50 rfl rfl hHeld ?_
  simp only [pS]
  refine wpAnyH_done (by kernel_rfl) ?_ _
  refine NoPanic.normal ?_
  go_wp2
  go_loopw [5] (fun j wr => ∃ k : Nat, k ≤ gn ∧ j = .int .i64 (k : Int) ∧ Below w1.heap.size w1 wr) (fun j _ => gn - (intOf j).toNat)
  case atStart => exact ⟨0, Nat.zero_le _, rfl, (Below.refl _ _).drew⟩
  case round =>
    obtain ⟨k9, hk9, rfl, hbw⟩ := hrel
    have hkw : IntKind.i64.wrap ((k9 : Int) + 1) = ((k9 + 1 : Nat) : Int) := by rw [IntKind.wrap_i64]; have := HGB.out; omega
    have hkr := hk wr hbw
    by_cases hlt : k9 < gn
    · have hlti : (k9 : Int) < (gn : Int) := by omega
      have hk0 : (0 : Int) ≤ (k9 : Int) := by omega
      have hkl : k9 < l.length := by rw [← HGN.out]; exact hlt
      obtain ⟨b2, o2, rfl, -, -⟩ := HRG.out k9 hkl
      have hk2 : k9 < (l ++ [((-7 : Int), (-7 : Int))]).length := by rw [List.length_append]; omega
      have e9 : (l ++ [((-7 : Int), (-7 : Int))])[k9] = l[k9] := List.getElem_append_left hkl
      obtain ⟨y, hy⟩ : ∃ y : Rg, y = l[k9] := ⟨_, rfl⟩
      have hr1 : ∀ u, Below w1.heap.size w1 u → u.rangeAt h (k9 * 2) (rv y) := fun u hu => by
        have h9 := (HR2.out.below hu).range k9 hk2
        rw [e9, ← hy, Nat.zero_add] at h9
        exact h9
      have hr2 : ∀ u, Below w1.heap.size w1 u → u.rangeAt b2 (o2 + k9 * 2) (rv y) := fun u hu => by
        have h9 := (HRG.out.below hu).range k9 hkl
        rw [← hy] at h9
        exact h9
      obtain ⟨y1, y2⟩ := y
      have hl1 : ∀ u, Below w1.heap.size w1 u → (Instr.loadAt 71 (.pointer (some ⟨h, k9 * 2, none⟩))).run Tryz.prog u = .ok (.agg #[.int .i64 y1, .int .i64 y2]) u := fun u hu => load_rgc u _ _ y1 y2 (hr1 u hu)
      have hl2 : ∀ u, Below w1.heap.size w1 u → (Instr.loadAt 71 (.pointer (some ⟨b2, o2 + k9 * 2, none⟩))).run Tryz.prog u = .ok (.agg #[.int .i64 y1, .int .i64 y2]) u := fun u hu => load_rgc u _ _ y1 y2 (hr2 u hu)
      have hne1 : ∀ u, (binOp .neq 71 (.agg #[.int .i64 y1, .int .i64 y2]) (.agg #[.int .i64 y1, .int .i64 y2])).run Tryz.prog u = .ok (.bool false) u := fun u => by rw [neq_rgc]; simp
      have HBW : Hid _ := hbw
      clear hy hr1 hr2 e9
      go_wp2_with fail
      refine wp_region_noPanic ?_
      refine wp_region_held_drew (S := (fun u => Below w1.heap.size w1 u)) (by kernel_rfl) (by first | exact hbw.drew | assumption) (fun hHeld => ?_)
      refine tz (i := 0) 58 rfl rfl hHeld ?_
      simp only [pS]
      refine tz (i := 1) 59 rfl rfl hHeld ?_
      simp only [pS]
      refine tz (i := 2) 60 rfl rfl hHeld ?_
      simp only [pS]
      refine tz (i := 3) 61 rfl rfl hHeld ?_
      simp only [pS]
      refine tk (i := 4) 62 (v := .agg #[.int .i64 y1, .int .i64 y2]) rfl rfl ?_ hHeld ?_
      · (intro w hSw; refine exec_load (by rfl) ?_; exact hl1 w hSw)
      simp only [pS]
      refine tz (i := 5) 63 rfl rfl hHeld ?_
      simp only [pS]
      refine tz (i := 6) 64 rfl rfl hHeld ?_
      simp only [pS]
      refine tz (i := 7) 65 rfl rfl hHeld ?_
      simp only [pS]
      refine tz (i := 8) 66 rfl rfl hHeld ?_
      simp only [pS]
      refine tk (i := 9) 67 (v := .agg #[.int .i64 y1, .int .i64 y2]) rfl rfl ?_ hHeld ?_
      · (intro w hSw; refine exec_load (by rfl) ?_; exact hl2 w hSw)
      simp only [pS]
      refine tz (i := 10) 68 rfl rfl hHeld ?_
      simp only [pS]
      refine wpAnyH_done (by kernel_rfl) ?_ _
      refine NoPanic.normal ?_
      go_wp2
      go_roundw
      case rel => exact ⟨k9 + 1, by omega, by go_num, HBW.out.drew⟩
      case measure => simp [intOf]; omega
    · have hlti : ¬ (k9 : Int) < (gn : Int) := by omega
      have HBW : Hid _ := hbw
      go_wp2
      go_ret
      exact ⟨rfl, below_next HB1.out HBW.out⟩
end
end Go.Proofs.YtdoikcolkbjnfaaGreat
namespace Go.Proofs.YtdoikcolkbjnfaaGreat
set_option linter.unusedVariables false
set_option linter.unusedSimpArgs false
open Go.RowKit Go.Maps
/-- the program's inbox and the document's beside it, in one state; w0: the world that the script lies in -/
structure Pl (w0 w : World) (p q N : Nat) (I : Ib) (F G : Nat → Prop) : Prop where
  a : IbA w p N I F
  r : ∃ vo vs E, Rv w q vo vs I E ∧ ∀ b, footV q vo vs E b → G b
  ap : ∀ b, F b → ¬ G b
  oF : ∀ b, F b → w0.heap.size ≤ b
  oG : ∀ b, G b → w0.heap.size ≤ b ∧ b < w.heap.size
  bl : Below w0.heap.size w0 w
abbrev lentM (x : UnM) (g c h d : Nat) : UnM := ⟨x.u, some ⟨g, 0, none⟩, x.dn, c, some ⟨h, 0, none⟩, x.gn, d⟩
section
variable {w0 w w' : World} {p q N : Nat} {I : Ib} {F G : Nat → Prop}
theorem Pl.lt (h : Pl w0 w p q N I F G) {b : Nat} (hb : F b ∨ G b) : b < w.heap.size := hb.elim (h.a.lt b) (fun h9 => (h.oG b h9).2)
theorem Pl.kept (h : Pl w0 w p q N I F G) (hb0 : Below w0.heap.size w0 w') (hs : w.heap.size ≤ w'.heap.size) (hk : ∀ b, F b ∨ G b → w'.heap[b]? = w.heap[b]?) : Pl w0 w' p q N I F G := by
  obtain ⟨vo, vs, E, hr, hf⟩ := h.r
  exact ⟨h.a.kept hs (fun b hb => hk b (.inl hb)), ⟨vo, vs, E, hr.kept hs (fun b hb => hk b (.inr (hf b hb))), hf⟩, h.ap, h.oF, fun b hb => ⟨(h.oG b hb).1, Nat.lt_of_lt_of_le (h.oG b hb).2 hs⟩, hb0⟩
theorem Pl.below (h : Pl w0 w p q N I F G) (hb : Below w.heap.size w w') : Pl w0 w' p q N I F G := h.kept (h.bl.trans (hb.mono h.bl.size)) hb.size (fun b hf => hb.block b (h.lt hf))
/-- a change of blocks that are not theirs, all from w0's end on -/
theorem Pl.chg (h : Pl w0 w p q N I F G) {D : Nat → Prop} (hc : Chg D w w') (hD : ∀ b, D b → w.heap.size ≤ b ∨ (w0.heap.size ≤ b ∧ ¬ (F b ∨ G b))) : Pl w0 w' p q N I F G := by
  have z := h.bl.size
  refine h.kept (h.bl.trans (hc.below (fun b hb => ?_) z)) hc.size (fun b hf => hc.block b (h.lt hf) (fun h9 => ?_))
  · rcases hD b hb with h8 | h8
    · omega
    · exact h8.1
  · rcases hD b h9 with h8 | h8
    · have := h.lt hf; omega
    · exact h8.2 hf
theorem Pl.of_chg (h : Pl w0 w p q N I F G) {D : Nat → Prop} (hc : Chg D w w') (hD : ∀ b, D b → w0.heap.size ≤ b) : Below w0.heap.size w0 w' := h.bl.trans (hc.below hD h.bl.size)
/-- what a step leaves -/
def PlOut (w0 w : World) (p q N : Nat) (I' : Ib) (F G : Nat → Prop) (w' : World) : Prop := ∃ F' G', Pl w0 w' p q N I' F' G' ∧ Chg (fun b => F b ∨ G b) w w' ∧ ∀ b, F' b ∨ G' b → (F b ∨ G b) ∨ w.heap.size ≤ b
/-- both Takes, and that they answer alike -/
theorem Pl.duo (h : Pl w0 w p q N I F G) (x : UnM) (hx : UnOk w0 x) {g c h2 d B : Nat} (hl : LentAt B w x g c h2 d) (hg : ¬ F g) (hN : N < 4611686018427387904) :
    Calls Tryz.prog 15 #[.pointer (some ⟨p, 0, none⟩), .agg (lentM x g c h2 d).c] w fun e w5 => ∃ v1, e = .returned v1 ∧ Chg (fun b => F b ∨ G b) w w5 ∧
      Calls Tryz.prog 22 #[.pointer (some ⟨q, 0, none⟩), .agg x.c] w5 fun e w6 => ∃ v2, e = .returned v2 ∧ Chg (fun b => F b ∨ G b) w w6 ∧
        Calls Tryz.prog 23 #[v1, v2] w6 fun e w7 => e = .returned (.bool true) ∧ PlOut w0 w p q (N + 1) (takeI I x.u) F G w7 := by
  have hxw := hx.below h.bl
  have hrl : Rd w (some ⟨g, 0, none⟩) x.u.data := by
    obtain ⟨a1, c1, hv1, -, -, -, hr1, -⟩ := Own.val hl.bs
    simp only [Value.slice.injEq] at hv1
    rw [← hv1.1] at hr1
    have h9 := hr1.take x.u.data.length
    rw [List.take_left'] at h9
    · exact h9
    · rfl
  refine Calls.mono (take_a h.a x.u (some ⟨g, 0, none⟩) x.dn c (some ⟨h2, 0, none⟩) x.gn d hx.hn hx.hg hrl (fun _ b hb a ha e => by cases ha; subst e; exact hg hb) (fun h9 => by cases h9) hN) ?_
  rintro e w5 ⟨F', B1, ga, ba, gn, gc, bn, bc, rs, xs, rfl, hA, hI, hc, hf, hB⟩
  obtain ⟨vo, vs, E, hr, hfv⟩ := h.r
  have z0 := h.bl.size
  have zc := hc.size
  have hrt5 : ∀ b, footV q vo vs E b → b < w.heap.size := fun b hb => hr.lt hb
  have hr5 : Rv w5 q vo vs I E := hr.kept hc.size (fun b hb => hc.block b (hr.lt hb) (fun h9 => h.ap b h9 (hfv b hb)))
  have hb5 : Below w0.heap.size w0 w5 := h.of_chg hc h.oF
  have hx5 := hx.below hb5
  have hfar : 0 < x.u.data.length → ∀ b, footV q vo vs E b → ∀ a, x.da = some a → a.block ≠ b := hx.far (fun b hb => (h.oG b (hfv b hb)).1)
  refine ⟨_, rfl, hc.mono (fun b hb => .inl hb), ?_⟩
  obtain ⟨ne, hne, -⟩ := hx.ee
  obtain ⟨nse, hns, -⟩ := hx.es
  refine Calls.mono (rtake_t hr5 x.u x.da x.dn x.dc x.ga x.gn x.gc hx.hn hx.hg hx5.rd hx.dz hfar (by omega) (by omega)) ?_
  rintro e w6 ⟨vo', vs', E', B2, ga2, ba2, gn2, gc2, bn2, bc2, rs2, xs2, rfl, hA2, hR, hc2, hf2, hB2⟩
  have zc2 := hc2.size
  have hcc : Chg (fun b => F b ∨ G b) w w6 := (hc.mono (fun b hb => .inl hb)).trans hc2 (fun b hb => .inl (.inr (hfv b hb)))
  have hA6 : AnsAt w6 B1 (takeA I x.u) ga ba gn gc bn bc rs xs := hA.chg hc2 (fun b hb => by have := hrt5 b hb; omega)
  have hI6 : IbA w6 p (N + 1) (takeI I x.u) F' := hI.chg hc2 (fun b hb h9 => by
    rcases (hf b hb).1 with h8 | h8
    · exact h.ap b h8 (hfv b h9)
    · have := hrt5 b h9; omega)
  refine ⟨_, rfl, hcc, ?_⟩
  refine Calls.mono (alike_t hA6 hA2) ?_
  rintro e w7 ⟨rfl, hb7⟩
  refine ⟨rfl, F', footV q vo' vs' E', ⟨hI6.below hb7, ⟨vo', vs', E', hR.below hb7, fun b hb => hb⟩, fun b hb h9 => ?_, fun b hb => ?_, fun b hb => ⟨?_, (hR.below hb7).lt hb⟩, ?_⟩, hcc.trans (Chg.of_below (F := fun _ => False) hb7) (fun _ h9 => h9.elim), fun b hb => ?_⟩
  · have hlt := hI.lt b hb
    rcases (hf2 b h9).1 with h8 | h8
    · rcases (hf b hb).1 with h7 | h7
      · exact h.ap b h7 (hfv b h8)
      · have := hrt5 b h8; omega
    · omega
  · rcases (hf b hb).1 with h7 | h7
    · exact h.oF b h7
    · omega
  · rcases (hf2 b hb).1 with h7 | h7
    · exact (h.oG b (hfv b h7)).1
    · omega
  · exact (h.of_chg hcc (fun b hb => hb.elim (h.oF b) (fun h9 => (h.oG b h9).1))).trans (hb7.mono (by omega))
  · rcases hb with hb | hb
    · exact (hf b hb).1.imp .inl id
    · rcases (hf2 b hb).1 with h7 | h7
      · exact .inl (.inr (hfv b h7))
      · exact .inr (by omega)
theorem Pl.dec (h : Pl w0 w p q N I F G) (s : Ss) (cd : Int) (hN : N < 4611686018427387904) :
    Calls Tryz.prog 29 #[.pointer (some ⟨p, 0, none⟩), sv s, .int .i64 cd] w fun e w5 => e = .returned (.int .i64 (decE I s cd)) ∧ Chg (fun b => F b ∨ G b) w w5 ∧
      Calls Tryz.prog 45 #[.pointer (some ⟨q, 0, none⟩), sv s, .int .i64 cd] w5 fun e w6 => e = .returned (.int .i64 (decE I s cd)) ∧ PlOut w0 w p q (N + 1) (decI I s cd) F G w6 := by
  refine Calls.mono (dec_a h.a s cd hN) ?_
  rintro e w5 ⟨rfl, F', hI, hc, hf⟩
  obtain ⟨vo, vs, E, hr, hfv⟩ := h.r
  have zc := hc.size
  have z0 := h.bl.size
  have hr5 : Rv w5 q vo vs I E := hr.kept hc.size (fun b hb => hc.block b (hr.lt hb) (fun h9 => h.ap b h9 (hfv b hb)))
  refine ⟨rfl, hc.mono (fun b hb => .inl hb), ?_⟩
  refine Calls.mono (rdec_t hr5 s cd) ?_
  rintro e w6 ⟨rfl, vo', vs', E', hR, hc2, hf2⟩
  have hcc : Chg (fun b => F b ∨ G b) w w6 := (hc.mono (fun b hb => .inl hb)).trans hc2 (fun b hb => .inl (.inr (hfv b hb)))
  have hI6 : IbA w6 p (N + 1) (decI I s cd) F' := hI.chg hc2 (fun b hb h9 => by
    rcases hf b hb with h8 | h8
    · exact h.ap b h8 (hfv b h9)
    · have := hr.lt h9; omega)
  refine ⟨rfl, F', footV q vo' vs' E', ⟨hI6, ⟨vo', vs', E', hR, fun b hb => hb⟩, fun b hb h9 => ?_, fun b hb => ?_, fun b hb => ⟨?_, hR.lt hb⟩, h.of_chg hcc (fun b hb => hb.elim (h.oF b) (fun h9 => (h.oG b h9).1))⟩, hcc, fun b hb => ?_⟩
  · have hlt := hI.lt b hb
    rcases hf2 b h9 with h8 | h8
    · rcases hf b hb with h7 | h7
      · exact h.ap b h7 (hfv b h8)
      · have := hr.lt h8; omega
    · omega
  · rcases hf b hb with h7 | h7
    · exact h.oF b h7
    · omega
  · rcases hf2 b hb with h7 | h7
    · exact (h.oG b (hfv b h7)).1
    · omega
  · rcases hb with hb | hb
    · exact (hf b hb).imp .inl id
    · rcases hf2 b hb with h7 | h7
      · exact .inl (.inr (hfv b h7))
      · exact .inr (by omega)
theorem Pl.drop (h : Pl w0 w p q N I F G) (s : Ss) (hs : inS s) :
    Calls Tryz.prog 46 #[.pointer (some ⟨p, 0, none⟩), sv s] w fun e w5 => e = .returned (.bool (decide (s ∈ ks I.O))) ∧ Chg (fun b => F b ∨ G b) w w5 ∧
      Calls Tryz.prog 47 #[.pointer (some ⟨q, 0, none⟩), sv s] w5 fun e w6 => e = .returned (.bool (decide (s ∈ ks I.O))) ∧ PlOut w0 w p q (N + 1) (dropI I s) F G w6 := by
  refine Calls.mono (drop_a h.a s hs) ?_
  rintro e w5 ⟨rfl, F', hI, hc, hf⟩
  obtain ⟨vo, vs, E, hr, hfv⟩ := h.r
  have zc := hc.size
  have z0 := h.bl.size
  have hr5 : Rv w5 q vo vs I E := hr.kept hc.size (fun b hb => hc.block b (hr.lt hb) (fun h9 => h.ap b h9 (hfv b hb)))
  refine ⟨rfl, hc.mono (fun b hb => .inl hb), ?_⟩
  refine Calls.mono (rdrop_t hr5 s) ?_
  rintro e w6 ⟨rfl, vo', vs', E', hR, hc2, hf2⟩
  have hcc : Chg (fun b => F b ∨ G b) w w6 := (hc.mono (fun b hb => .inl hb)).trans hc2 (fun b hb => .inl (.inr (hfv b hb)))
  have hI6 : IbA w6 p (N + 1) (dropI I s) F' := hI.chg hc2 (fun b hb h9 => by
    rcases hf b hb with h8 | h8
    · exact h.ap b h8 (hfv b h9)
    · have := hr.lt h9; omega)
  refine ⟨rfl, F', footV q vo' vs' E', ⟨hI6, ⟨vo', vs', E', hR, fun b hb => hb⟩, fun b hb h9 => ?_, fun b hb => ?_, fun b hb => ⟨?_, hR.lt hb⟩, h.of_chg hcc (fun b hb => hb.elim (h.oF b) (fun h9 => (h.oG b h9).1))⟩, hcc, fun b hb => ?_⟩
  · have hlt := hI.lt b hb
    rcases hf2 b h9 with h8 | h8
    · rcases hf b hb with h7 | h7
      · exact h.ap b h7 (hfv b h8)
      · have := hr.lt h8; omega
    · omega
  · rcases hf b hb with h7 | h7
    · exact h.oF b h7
    · omega
  · rcases hf2 b hb with h7 | h7
    · exact (h.oG b (hfv b h7)).1
    · omega
  · rcases hb with hb | hb
    · exact (hf b hb).imp .inl id
    · rcases hf2 b hb with h7 | h7
      · exact .inl (.inr (hfv b h7))
      · exact .inr (by omega)
/-- what both show is the same -/
theorem Pl.shows (h : Pl w0 w p q N I F G) : Calls Tryz.prog 20 #[.pointer (some ⟨p, 0, none⟩), .pointer (some ⟨q, 0, none⟩)] w fun e w' => e = .returned (.bool true) ∧ Below w.heap.size w w' := by
  obtain ⟨vo, vs, E, hr, -⟩ := h.r
  obtain ⟨a1, c1, hv1, -, -, -, -⟩ := OwnG.val hr.m.ro
  obtain ⟨a2, c2, hv2, -, -, -, -⟩ := OwnG.val hr.m.rs
  subst hv1 hv2
  exact shows_t h.a (q := q) (oa := a1) (on := (mp Bg.q E).length) (oc := c1) (sa := a2) (sn := I.H.length) (sc := c2) (E := E) ⟨hr.m.hp, hr.m.ro, hr.m.rs, fun x hx _ => hr.bx x hx, hr.ap.imp (fun h1 _ _ => h1), fun x hx _ => hr.nf x hx, hr.eO, hr.ok⟩
end
end Go.Proofs.YtdoikcolkbjnfaaGreat
namespace Go.Proofs.YtdoikcolkbjnfaaGreat
set_option linter.unusedVariables false
set_option linter.unusedSimpArgs false
open Go.RowKit Go.Maps
section
variable {w0 w w' : World} {p q N : Nat} {I I' : Ib} {F G : Nat → Prop}
theorem PlOut.fin {w4 w7 wr : World} {D : Nat → Prop} (h0 : w0.heap.size ≤ w.heap.size) (hb : Below w.heap.size w w4) (hFG : ∀ b, F b ∨ G b → b < w.heap.size) (ho : PlOut w0 w4 p q N I' F G w7) (hc : Chg D w7 wr) (hD : ∀ b, D b → (w.heap.size ≤ b ∧ b < w4.heap.size) ∨ w7.heap.size ≤ b) : PlOut w0 w p q N I' F G wr := by
  obtain ⟨F', G', hp, hch, hf⟩ := ho
  have z4 := hb.size
  have z7 := hch.size
  refine ⟨F', G', hp.chg hc (fun b hb' => ?_), ((Chg.of_below hb).trans hch (fun b hb' => .inl hb')).trans hc (fun b hb' => .inr ?_), fun b hb' => (hf b hb').imp id (fun h9 => by omega)⟩
  · rcases hD b hb' with h9 | h9
    · refine .inr ⟨by omega, fun h8 => ?_⟩
      rcases hf b h8 with h7 | h7
      · have := hFG b h7; omega
      · omega
    · exact .inl h9
  · rcases hD b hb' with h9 | h9
    · exact h9.1
    · omega
theorem PlOut.pre {w4 w7 : World} (h0 : w0.heap.size ≤ w.heap.size) (hb : Below w.heap.size w w4) (hFG : ∀ b, F b ∨ G b → b < w.heap.size) (ho : PlOut w0 w4 p q N I' F G w7) : PlOut w0 w p q N I' F G w7 := PlOut.fin h0 hb hFG ho (Chg.refl (fun _ => False) _) (fun _ h9 => h9.elim)
theorem LentAt.kept {B : Nat} {x : UnM} {g c h d : Nat} {D : Nat → Prop} (hl : LentAt B w x g c h d) (hc : Chg D w w') (hg : ¬ D g) (hh : ¬ D h) : LentAt B w' x g c h d :=
  ⟨Own.keptb hl.bs (fun b hb => by have e : g = b := Option.some.inj hb; subst e; exact hc.block g hl.B1.2 hg), OwnR.keptb hl.rg (fun b hb => by have e : h = b := Option.some.inj hb; subst e; exact hc.block h hl.B2.2 hh), hl.cc, hl.dd, ⟨hl.B1.1, Nat.lt_of_lt_of_le hl.B1.2 hc.size⟩, ⟨hl.B2.1, Nat.lt_of_lt_of_le hl.B2.2 hc.size⟩⟩
set_option maxRecDepth 20000
set_option maxHeartbeats 6400000
theorem plays_o (h : Pl w0 w p q N I F G) (kd : Int) (h1 : kd ≠ 1) (h2 : kd ≠ 2) (h3 : kd ≠ 3) (x : UnM) (ye yn : Nat) (ycd : Int) : Calls Tryz.prog 19 #[.pointer (some ⟨p, 0, none⟩), .pointer (some ⟨q, 0, none⟩), .agg (OpX.mk kd x ye yn ycd).c] w fun e w' => e = .returned (.bool true) ∧ PlOut w0 w p q (N + 1) I F G w' := by
  have q1 : (kd == 1) = false := by simp [h1]
  have q2 : (kd == 2) = false := by simp [h2]
  have q3 : (kd == 3) = false := by simp [h3]
  have HH : Hid _ := h
  obtain ⟨w1, hw1⟩ : ∃ w1, w1 = ((w.alloc (.cells (OpX.mk kd x ye yn ycd).c tOpX)).alloc (.cells #[.int .u64 (ye : Int), .int .u64 (yn : Int)] tSs)).alloc (.cells #[.int .u64 (ye : Int), .int .u64 (yn : Int)] tRs) := ⟨_, rfl⟩
  have hb1 : Below w.heap.size w w1 := by rw [hw1]; exact al (al (al (Below.refl _ _) _) _) _
  have hz1 : w1.heap.size = w.heap.size + 3 := by rw [hw1]; simp
  have hP1 : w1.heap[w.heap.size]? = some (.cells (OpX.mk kd x ye yn ycd).c tOpX (0, 0)) := by
    rw [hw1]
    exact ((al (al (Below.refl _ (w.alloc (.cells (OpX.mk kd x ye yn ycd).c tOpX))) _) _).block _ (by simp)).trans (heap_alloc_new _ _)
  have hS1 : w1.heap[w.heap.size + 1]? = some (.cells #[.int .u64 (ye : Int), .int .u64 (yn : Int)] tSs (0, 0)) := by
    rw [hw1]
    have h9 := heap_alloc_new (w.alloc (.cells (OpX.mk kd x ye yn ycd).c tOpX)) (.cells #[.int .u64 (ye : Int), .int .u64 (yn : Int)] tSs)
    rw [World.size_alloc] at h9
    exact ((al (Below.refl _ ((w.alloc (.cells (OpX.mk kd x ye yn ycd).c tOpX)).alloc (.cells #[.int .u64 (ye : Int), .int .u64 (yn : Int)] tSs))) _).block _ (by simp)).trans h9
  have hT1 : w1.heap[w.heap.size + 2]? = some (.cells #[.int .u64 (ye : Int), .int .u64 (yn : Int)] tRs (0, 0)) := by
    rw [hw1]
    have h9 := heap_alloc_new ((w.alloc (.cells (OpX.mk kd x ye yn ycd).c tOpX)).alloc (.cells #[.int .u64 (ye : Int), .int .u64 (yn : Int)] tSs)) (.cells #[.int .u64 (ye : Int), .int .u64 (yn : Int)] tRs)
    rw [World.size_alloc, World.size_alloc] at h9
    exact h9
  have HB1 : Hid _ := hb1
  rw [hw1] at HB1
  obtain ⟨⟨k, e, se, pa, i, cn, xs, ucd, l⟩, da, dn, dc, ga, gn, gc⟩ := x
  clear h h1 h2 h3 hb1 hz1 hP1 hS1 hT1 hw1
  go_enter Tryz.func19, Tryz.ntmps19
  go_wp2
  go_ret
  exact ⟨rfl, F, G, ⟨(HH.out.below HB1.out).a.more (Nat.le_succ _), (HH.out.below HB1.out).r, HH.out.ap, HH.out.oF, (HH.out.below HB1.out).oG, (HH.out.below HB1.out).bl⟩, Chg.of_below HB1.out, fun b hb => .inl hb⟩
theorem plays_2 (h : Pl w0 w p q N I F G) (x : UnM) (ye yn : Nat) (ycd : Int) (hs : inS (ye, yn)) (hN : N < 4611686018427387904) : Calls Tryz.prog 19 #[.pointer (some ⟨p, 0, none⟩), .pointer (some ⟨q, 0, none⟩), .agg (OpX.mk 2 x ye yn ycd).c] w fun e w' => e = .returned (.bool true) ∧ PlOut w0 w p q (N + 1) (decI I (ye, yn) ycd) F G w' := by
  obtain ⟨w1, hw1⟩ : ∃ w1, w1 = ((w.alloc (.cells (OpX.mk 2 x ye yn ycd).c tOpX)).alloc (.cells #[.int .u64 (ye : Int), .int .u64 (yn : Int)] tSs)).alloc (.cells #[.int .u64 (ye : Int), .int .u64 (yn : Int)] tRs) := ⟨_, rfl⟩
  have hb1 : Below w.heap.size w w1 := by rw [hw1]; exact al (al (al (Below.refl _ _) _) _) _
  have hz1 : w1.heap.size = w.heap.size + 3 := by rw [hw1]; simp
  have hP1 : w1.heap[w.heap.size]? = some (.cells (OpX.mk 2 x ye yn ycd).c tOpX (0, 0)) := by
    rw [hw1]
    exact ((al (al (Below.refl _ (w.alloc (.cells (OpX.mk 2 x ye yn ycd).c tOpX))) _) _).block _ (by simp)).trans (heap_alloc_new _ _)
  have hS1 : w1.heap[w.heap.size + 1]? = some (.cells #[.int .u64 (ye : Int), .int .u64 (yn : Int)] tSs (0, 0)) := by
    rw [hw1]
    have h9 := heap_alloc_new (w.alloc (.cells (OpX.mk 2 x ye yn ycd).c tOpX)) (.cells #[.int .u64 (ye : Int), .int .u64 (yn : Int)] tSs)
    rw [World.size_alloc] at h9
    exact ((al (Below.refl _ ((w.alloc (.cells (OpX.mk 2 x ye yn ycd).c tOpX)).alloc (.cells #[.int .u64 (ye : Int), .int .u64 (yn : Int)] tSs))) _).block _ (by simp)).trans h9
  have hT1 : w1.heap[w.heap.size + 2]? = some (.cells #[.int .u64 (ye : Int), .int .u64 (yn : Int)] tRs (0, 0)) := by
    rw [hw1]
    have h9 := heap_alloc_new ((w.alloc (.cells (OpX.mk 2 x ye yn ycd).c tOpX)).alloc (.cells #[.int .u64 (ye : Int), .int .u64 (yn : Int)] tSs)) (.cells #[.int .u64 (ye : Int), .int .u64 (yn : Int)] tRs)
    rw [World.size_alloc, World.size_alloc] at h9
    exact h9
  obtain ⟨w2, hw2⟩ : ∃ w2, w2 = w1.drew := ⟨_, rfl⟩
  have hb2 : Below w1.heap.size w1 w2 := by rw [hw2]; exact (Below.refl _ _).drew
  have HBW : Hid (Below w.heap.size w w2) := below_next hb1 hb2
  have HC2 : Hid (Calls _ _ _ w2 _) := (h.below HBW.out).dec (ye, yn) ycd hN
  obtain ⟨P, hP⟩ : ∃ P, P = w.heap.size := ⟨_, rfl⟩
  rw [← hP] at hP1 hS1 hT1
  have HFG : Hid (∀ b, F b ∨ G b → b < w.heap.size) := fun b hb => h.lt hb
  have H0 : Hid (w0.heap.size ≤ w.heap.size) := h.bl.size
  have HK : Hid (∀ u, Chg (fun b => F b ∨ G b) w2 u → u.cell? ⟨P + 1, 0, none⟩ = some (.int .u64 (ye : Int)) ∧ u.cell? ⟨P + 1, 1, none⟩ = some (.int .u64 (yn : Int)) ∧ u.cell? ⟨P + 2, 0, none⟩ = some (.int .u64 (ye : Int)) ∧ u.cell? ⟨P + 2, 1, none⟩ = some (.int .u64 (yn : Int)) ∧ u.cell? ⟨P, 12, none⟩ = some (.int .i64 ycd)) := fun u hu => by
    have hno : ∀ j, j < 3 → ¬ (F (P + j) ∨ G (P + j)) := fun j _ h9 => by have := h.lt h9; omega
    have z2 := hb2.size
    have s9 := (hu.block (P + 1) (by omega) (hno 1 (by omega))).trans ((hb2.block (P + 1) (by omega)).trans hS1)
    have t9 := (hu.block (P + 2) (by omega) (hno 2 (by omega))).trans ((hb2.block (P + 2) (by omega)).trans hT1)
    have p9 := (hu.block P (by omega) (hno 0 (by omega))).trans ((hb2.block P (by omega)).trans hP1)
    exact ⟨by rw [cell_of_row _ _ _ _ _ _ s9]; rfl, by rw [cell_of_row _ _ _ _ _ _ s9]; rfl, by rw [cell_of_row _ _ _ _ _ _ t9]; rfl, by rw [cell_of_row _ _ _ _ _ _ t9]; rfl, by rw [cell_of_row _ _ _ _ _ _ p9]; rfl⟩
  have hS2 := HK.out w2 (Chg.refl _ _)
  have HW1 : Hid (w1 = _) := hw1
  have HW2 : Hid (w2 = w1.drew) := hw2
  have HP : Hid (P = w.heap.size) := hP
  obtain ⟨er, her⟩ : ∃ er, er = decE I (ye, yn) ycd := ⟨_, rfl⟩
  rw [← her] at HC2
  have heq : (er == er) = true := by simp
  obtain ⟨⟨k, e, se, pa, i, cn, xs, ucd, l⟩, da, dn, dc, ga, gn, gc⟩ := x
  clear h hs hN hb1 hz1 hP1 hS1 hT1 hb2 hw1 hw2 hP her
  go_enter Tryz.func19, Tryz.ntmps19
  go_upto_region 13 with fail
  rw [← HW1.out, ← HP.out]
  rw [HW2.out] at hS2 HC2
  refine wp_region_held_drew (S := (fun u => u.cell? ⟨P + 1, 0, none⟩ = some (.int .u64 (ye : Int)) ∧ u.cell? ⟨P + 1, 1, none⟩ = some (.int .u64 (yn : Int)) ∧ u.cell? ⟨P + 2, 0, none⟩ = some (.int .u64 (ye : Int)) ∧ u.cell? ⟨P + 2, 1, none⟩ = some (.int .u64 (yn : Int)) ∧ u.cell? ⟨P, 12, none⟩ = some (.int .i64 ycd))) (by kernel_rfl) (by first | exact hS2 | exact hS5 | exact hS6 | assumption) (fun hHeld => ?_)
  refine tz (i := 0) 63 rfl rfl hHeld ?_
  simp only [pS]
  refine tz (i := 1) 64 rfl rfl hHeld ?_
  simp only [pS]
  refine tz (i := 2) 65 rfl rfl hHeld ?_
  simp only [pS]
  refine tz (i := 3) 66 rfl rfl hHeld ?_
  simp only [pS]
  refine tz (i := 5) 68 rfl rfl hHeld ?_
  simp only [pS]
  refine tz (i := 6) 69 rfl rfl hHeld ?_
  simp only [pS]
  refine tz (i := 7) 70 rfl rfl hHeld ?_
  simp only [pS]
  refine tz (i := 8) 71 rfl rfl hHeld ?_
  simp only [pS]
  refine run_at (i := 4) rfl (by kernel_rfl) (by rfl) (fun K hK => ?_)
  simp only [List.getElem_toArray, List.getElem_cons_zero, List.getElem_cons_succ]
  go_simp
  first | (go_at_call 29; refine Calls.mono HC2.out ?_; rintro e5 w5 ⟨rfl, hc5, hd5⟩; have hS5 := HK.out w5 (by rw [HW2.out]; exact hc5); have HD5 : Hid _ := hd5; clear hc5 hd5) | (go_at_call 45; refine Calls.mono HD5.out ?_; rintro e6 w6 ⟨rfl, hp6⟩; have hS6 := HK.out w6 (by rw [HW2.out]; exact hp6.choose_spec.choose_spec.2.1); have HP6 : Hid _ := hp6; clear hp6)
  go_wp2_with fail
  refine hK.out _ _ (by first | exact hS2 | exact hS5 | exact hS6 | assumption) ?_
  clear hK K
  intro hHeld2
  clear hHeld
  have hHeld := hHeld2
  clear hHeld2
  try simp only [pS]
  refine run_at (i := 9) rfl (by kernel_rfl) (by rfl) (fun K hK => ?_)
  simp only [List.getElem_toArray, List.getElem_cons_zero, List.getElem_cons_succ]
  go_simp
  first | (go_at_call 29; refine Calls.mono HC2.out ?_; rintro e5 w5 ⟨rfl, hc5, hd5⟩; have hS5 := HK.out w5 (by rw [HW2.out]; exact hc5); have HD5 : Hid _ := hd5; clear hc5 hd5) | (go_at_call 45; refine Calls.mono HD5.out ?_; rintro e6 w6 ⟨rfl, hp6⟩; have hS6 := HK.out w6 (by rw [HW2.out]; exact hp6.choose_spec.choose_spec.2.1); have HP6 : Hid _ := hp6; clear hp6)
  go_wp2_with fail
  refine hK.out _ _ (by first | exact hS2 | exact hS5 | exact hS6 | assumption) ?_
  clear hK K
  intro hHeld2
  clear hHeld
  have hHeld := hHeld2
  clear hHeld2
  try simp only [pS]
  refine tz (i := 10) 73 rfl rfl hHeld ?_
  simp only [pS]
  refine tz (i := 11) 6 rfl rfl hHeld ?_
  simp only [pS]
  refine wpAnyH_done (by kernel_rfl) ?_ _
  go_wp2
  go_ret
  exact ⟨by simp, PlOut.pre H0.out HBW.out HFG.out (by rw [HW2.out]; exact HP6.out)⟩
theorem plays_3 (h : Pl w0 w p q N I F G) (x : UnM) (ye yn : Nat) (ycd : Int) (hs : inS (ye, yn)) (hN : N < 4611686018427387904) : Calls Tryz.prog 19 #[.pointer (some ⟨p, 0, none⟩), .pointer (some ⟨q, 0, none⟩), .agg (OpX.mk 3 x ye yn ycd).c] w fun e w' => e = .returned (.bool true) ∧ PlOut w0 w p q (N + 1) (dropI I (ye, yn)) F G w' := by
  obtain ⟨w1, hw1⟩ : ∃ w1, w1 = ((w.alloc (.cells (OpX.mk 3 x ye yn ycd).c tOpX)).alloc (.cells #[.int .u64 (ye : Int), .int .u64 (yn : Int)] tSs)).alloc (.cells #[.int .u64 (ye : Int), .int .u64 (yn : Int)] tRs) := ⟨_, rfl⟩
  have hb1 : Below w.heap.size w w1 := by rw [hw1]; exact al (al (al (Below.refl _ _) _) _) _
  have hz1 : w1.heap.size = w.heap.size + 3 := by rw [hw1]; simp
  have hP1 : w1.heap[w.heap.size]? = some (.cells (OpX.mk 3 x ye yn ycd).c tOpX (0, 0)) := by
    rw [hw1]
    exact ((al (al (Below.refl _ (w.alloc (.cells (OpX.mk 3 x ye yn ycd).c tOpX))) _) _).block _ (by simp)).trans (heap_alloc_new _ _)
  have hS1 : w1.heap[w.heap.size + 1]? = some (.cells #[.int .u64 (ye : Int), .int .u64 (yn : Int)] tSs (0, 0)) := by
    rw [hw1]
    have h9 := heap_alloc_new (w.alloc (.cells (OpX.mk 3 x ye yn ycd).c tOpX)) (.cells #[.int .u64 (ye : Int), .int .u64 (yn : Int)] tSs)
    rw [World.size_alloc] at h9
    exact ((al (Below.refl _ ((w.alloc (.cells (OpX.mk 3 x ye yn ycd).c tOpX)).alloc (.cells #[.int .u64 (ye : Int), .int .u64 (yn : Int)] tSs))) _).block _ (by simp)).trans h9
  have hT1 : w1.heap[w.heap.size + 2]? = some (.cells #[.int .u64 (ye : Int), .int .u64 (yn : Int)] tRs (0, 0)) := by
    rw [hw1]
    have h9 := heap_alloc_new ((w.alloc (.cells (OpX.mk 3 x ye yn ycd).c tOpX)).alloc (.cells #[.int .u64 (ye : Int), .int .u64 (yn : Int)] tSs)) (.cells #[.int .u64 (ye : Int), .int .u64 (yn : Int)] tRs)
    rw [World.size_alloc, World.size_alloc] at h9
    exact h9
  obtain ⟨w2, hw2⟩ : ∃ w2, w2 = w1.drew := ⟨_, rfl⟩
  have hb2 : Below w1.heap.size w1 w2 := by rw [hw2]; exact (Below.refl _ _).drew
  have HBW : Hid (Below w.heap.size w w2) := below_next hb1 hb2
  have HC2 : Hid (Calls _ _ _ w2 _) := (h.below HBW.out).drop (ye, yn) hs
  obtain ⟨P, hP⟩ : ∃ P, P = w.heap.size := ⟨_, rfl⟩
  rw [← hP] at hP1 hS1 hT1
  have HFG : Hid (∀ b, F b ∨ G b → b < w.heap.size) := fun b hb => h.lt hb
  have H0 : Hid (w0.heap.size ≤ w.heap.size) := h.bl.size
  have HK : Hid (∀ u, Chg (fun b => F b ∨ G b) w2 u → u.cell? ⟨P + 1, 0, none⟩ = some (.int .u64 (ye : Int)) ∧ u.cell? ⟨P + 1, 1, none⟩ = some (.int .u64 (yn : Int)) ∧ u.cell? ⟨P + 2, 0, none⟩ = some (.int .u64 (ye : Int)) ∧ u.cell? ⟨P + 2, 1, none⟩ = some (.int .u64 (yn : Int)) ∧ u.cell? ⟨P, 12, none⟩ = some (.int .i64 ycd)) := fun u hu => by
    have hno : ∀ j, j < 3 → ¬ (F (P + j) ∨ G (P + j)) := fun j _ h9 => by have := h.lt h9; omega
    have z2 := hb2.size
    have s9 := (hu.block (P + 1) (by omega) (hno 1 (by omega))).trans ((hb2.block (P + 1) (by omega)).trans hS1)
    have t9 := (hu.block (P + 2) (by omega) (hno 2 (by omega))).trans ((hb2.block (P + 2) (by omega)).trans hT1)
    have p9 := (hu.block P (by omega) (hno 0 (by omega))).trans ((hb2.block P (by omega)).trans hP1)
    exact ⟨by rw [cell_of_row _ _ _ _ _ _ s9]; rfl, by rw [cell_of_row _ _ _ _ _ _ s9]; rfl, by rw [cell_of_row _ _ _ _ _ _ t9]; rfl, by rw [cell_of_row _ _ _ _ _ _ t9]; rfl, by rw [cell_of_row _ _ _ _ _ _ p9]; rfl⟩
  have hS2 := HK.out w2 (Chg.refl _ _)
  have HW1 : Hid (w1 = _) := hw1
  have HW2 : Hid (w2 = w1.drew) := hw2
  have HP : Hid (P = w.heap.size) := hP
  obtain ⟨er, her⟩ : ∃ er, er = decide ((ye, yn) ∈ ks I.O) := ⟨_, rfl⟩
  rw [← her] at HC2
  have heq : (er == er) = true := by simp
  obtain ⟨⟨k, e, se, pa, i, cn, xs, ucd, l⟩, da, dn, dc, ga, gn, gc⟩ := x
  clear h hs hN hb1 hz1 hP1 hS1 hT1 hb2 hw1 hw2 hP her
  go_enter Tryz.func19, Tryz.ntmps19
  go_upto_region 15 with fail
  rw [← HW1.out, ← HP.out]
  rw [HW2.out] at hS2 HC2
  refine wp_region_held_drew (S := (fun u => u.cell? ⟨P + 1, 0, none⟩ = some (.int .u64 (ye : Int)) ∧ u.cell? ⟨P + 1, 1, none⟩ = some (.int .u64 (yn : Int)) ∧ u.cell? ⟨P + 2, 0, none⟩ = some (.int .u64 (ye : Int)) ∧ u.cell? ⟨P + 2, 1, none⟩ = some (.int .u64 (yn : Int)) ∧ u.cell? ⟨P, 12, none⟩ = some (.int .i64 ycd))) (by kernel_rfl) (by first | exact hS2 | exact hS5 | exact hS6 | assumption) (fun hHeld => ?_)
  refine tz (i := 0) 76 rfl rfl hHeld ?_
  simp only [pS]
  refine tz (i := 1) 77 rfl rfl hHeld ?_
  simp only [pS]
  refine tz (i := 3) 79 rfl rfl hHeld ?_
  simp only [pS]
  refine tz (i := 4) 80 rfl rfl hHeld ?_
  simp only [pS]
  refine run_at (i := 2) rfl (by kernel_rfl) (by rfl) (fun K hK => ?_)
  simp only [List.getElem_toArray, List.getElem_cons_zero, List.getElem_cons_succ]
  go_simp
  first | (go_at_call 46; refine Calls.mono HC2.out ?_; rintro e5 w5 ⟨rfl, hc5, hd5⟩; have hS5 := HK.out w5 (by rw [HW2.out]; exact hc5); have HD5 : Hid _ := hd5; clear hc5 hd5) | (go_at_call 47; refine Calls.mono HD5.out ?_; rintro e6 w6 ⟨rfl, hp6⟩; have hS6 := HK.out w6 (by rw [HW2.out]; exact hp6.choose_spec.choose_spec.2.1); have HP6 : Hid _ := hp6; clear hp6)
  go_wp2_with fail
  refine hK.out _ _ (by first | exact hS2 | exact hS5 | exact hS6 | assumption) ?_
  clear hK K
  intro hHeld2
  clear hHeld
  have hHeld := hHeld2
  clear hHeld2
  try simp only [pS]
  refine run_at (i := 5) rfl (by kernel_rfl) (by rfl) (fun K hK => ?_)
  simp only [List.getElem_toArray, List.getElem_cons_zero, List.getElem_cons_succ]
  go_simp
  first | (go_at_call 46; refine Calls.mono HC2.out ?_; rintro e5 w5 ⟨rfl, hc5, hd5⟩; have hS5 := HK.out w5 (by rw [HW2.out]; exact hc5); have HD5 : Hid _ := hd5; clear hc5 hd5) | (go_at_call 47; refine Calls.mono HD5.out ?_; rintro e6 w6 ⟨rfl, hp6⟩; have hS6 := HK.out w6 (by rw [HW2.out]; exact hp6.choose_spec.choose_spec.2.1); have HP6 : Hid _ := hp6; clear hp6)
  go_wp2_with fail
  refine hK.out _ _ (by first | exact hS2 | exact hS5 | exact hS6 | assumption) ?_
  clear hK K
  intro hHeld2
  clear hHeld
  have hHeld := hHeld2
  clear hHeld2
  try simp only [pS]
  refine tz (i := 6) 82 rfl rfl hHeld ?_
  simp only [pS]
  refine tz (i := 7) 6 rfl rfl hHeld ?_
  simp only [pS]
  refine wpAnyH_done (by kernel_rfl) ?_ _
  go_wp2
  go_ret
  exact ⟨by simp, PlOut.pre H0.out HBW.out HFG.out (by rw [HW2.out]; exact HP6.out)⟩
theorem plays_1 (h : Pl w0 w p q N I F G) (x : UnM) (ye yn : Nat) (ycd : Int) (hx : UnOk w0 x) (hN : N < 4611686018427387904) : Calls Tryz.prog 19 #[.pointer (some ⟨p, 0, none⟩), .pointer (some ⟨q, 0, none⟩), .agg (OpX.mk 1 x ye yn ycd).c] w fun e w' => e = .returned (.bool true) ∧ PlOut w0 w p q (N + 1) (takeI I x.u) F G w' := by
  obtain ⟨w1, hw1⟩ : ∃ w1, w1 = ((w.alloc (.cells (OpX.mk 1 x ye yn ycd).c tOpX)).alloc (.cells #[.int .u64 (ye : Int), .int .u64 (yn : Int)] tSs)).alloc (.cells #[.int .u64 (ye : Int), .int .u64 (yn : Int)] tRs) := ⟨_, rfl⟩
  have hb1 : Below w.heap.size w w1 := by rw [hw1]; exact al (al (al (Below.refl _ _) _) _) _
  have hz1 : w1.heap.size = w.heap.size + 3 := by rw [hw1]; simp
  have hP1 : w1.heap[w.heap.size]? = some (.cells (OpX.mk 1 x ye yn ycd).c tOpX (0, 0)) := by
    rw [hw1]
    exact ((al (al (Below.refl _ (w.alloc (.cells (OpX.mk 1 x ye yn ycd).c tOpX))) _) _).block _ (by simp)).trans (heap_alloc_new _ _)
  have hS1 : w1.heap[w.heap.size + 1]? = some (.cells #[.int .u64 (ye : Int), .int .u64 (yn : Int)] tSs (0, 0)) := by
    rw [hw1]
    have h9 := heap_alloc_new (w.alloc (.cells (OpX.mk 1 x ye yn ycd).c tOpX)) (.cells #[.int .u64 (ye : Int), .int .u64 (yn : Int)] tSs)
    rw [World.size_alloc] at h9
    exact ((al (Below.refl _ ((w.alloc (.cells (OpX.mk 1 x ye yn ycd).c tOpX)).alloc (.cells #[.int .u64 (ye : Int), .int .u64 (yn : Int)] tSs))) _).block _ (by simp)).trans h9
  have hT1 : w1.heap[w.heap.size + 2]? = some (.cells #[.int .u64 (ye : Int), .int .u64 (yn : Int)] tRs (0, 0)) := by
    rw [hw1]
    have h9 := heap_alloc_new ((w.alloc (.cells (OpX.mk 1 x ye yn ycd).c tOpX)).alloc (.cells #[.int .u64 (ye : Int), .int .u64 (yn : Int)] tSs)) (.cells #[.int .u64 (ye : Int), .int .u64 (yn : Int)] tRs)
    rw [World.size_alloc, World.size_alloc] at h9
    exact h9
  have HLN : Hid (Calls _ _ _ w1 _) := lent_t x w1 (hx.below (h.bl.trans (hb1.mono h.bl.size)))
  obtain ⟨P, hP⟩ : ∃ P, P = w.heap.size := ⟨_, rfl⟩
  rw [← hP] at hP1
  have HFG : Hid (∀ b, F b ∨ G b → b < w.heap.size) := fun b hb => h.lt hb
  have H0 : Hid (w0.heap.size ≤ w.heap.size) := h.bl.size
  have HH : Hid _ := h
  have HX : Hid _ := hx
  have HN : Hid (N < 4611686018427387904) := hN
  have HB1 : Hid _ := hb1
  have HZ1 : Hid _ := hz1
  have HP1 : Hid _ := hP1
  have HW1 : Hid (w1 = _) := hw1
  have HP : Hid (P = w.heap.size) := hP
  obtain ⟨⟨k, e, se, pa, i, cn, xs, ucd, l⟩, da, dn, dc, ga, gn, gc⟩ := x
  clear h hx hN hb1 hz1 hP1 hS1 hT1 hw1 hP
  go_enter Tryz.func19, Tryz.ntmps19
  go_wp2_with fail
  rw [← HW1.out]
  refine Calls.mono HLN.out ?_
  rintro e2 w2 ⟨g, c, h2, d, rfl, hl2, hb2⟩
  obtain ⟨Q, hQ⟩ : ∃ Q, Q = w2.heap.size := ⟨_, rfl⟩
  obtain ⟨w3, hw3⟩ : ∃ w3, w3 = w2.alloc (.cells (lentM (UnM.mk (Un.mk k e se pa i cn xs ucd l) da dn dc ga gn gc) g c h2 d).c tUn) := ⟨_, rfl⟩
  obtain ⟨w4, hw4⟩ : ∃ w4, w4 = w3.drew := ⟨_, rfl⟩
  have hb23 : Below w2.heap.size w2 w3 := by rw [hw3]; exact al (Below.refl _ _) _
  have hb34 : Below w3.heap.size w3 w4 := by rw [hw4]; exact (Below.refl _ _).drew
  have hb24 : Below w2.heap.size w2 w4 := below_next hb23 hb34
  have HB4 : Hid (Below w.heap.size w w4) := below_next (below_next HB1.out hb2) hb24
  have hQ3 : w3.heap[Q]? = some (.cells (lentM (UnM.mk (Un.mk k e se pa i cn xs ucd l) da dn dc ga gn gc) g c h2 d).c tUn (0, 0)) := by rw [hw3, hQ]; exact heap_alloc_new _ _
  have z1 := HZ1.out
  have z2 := hb2.size
  have z3 := hb23.size
  have z4 := hb34.size
  have hQl : Q < w3.heap.size := (Array.getElem?_eq_some_iff.1 hQ3).1
  have hgb := hl2.B1
  have hhb := hl2.B2
  have hPw := HP.out
  have hl4 : LentAt (w1.heap.size + 2) w4 (UnM.mk (Un.mk k e se pa i cn xs ucd l) da dn dc ga gn gc) g c h2 d := hl2.kept (Chg.of_below (F := fun _ => False) hb24) (fun h9 => h9) (fun h9 => h9)
  have hnFG : ∀ b, w.heap.size ≤ b → ¬ (F b ∨ G b) := fun b hb h9 => by have := HFG.out b h9; omega
  have HDU : Hid (Calls _ _ _ w4 _) := (HH.out.below HB4.out).duo (UnM.mk (Un.mk k e se pa i cn xs ucd l) da dn dc ga gn gc) HX.out hl4 (fun h9 => hnFG g (by omega) (.inl h9)) HN.out
  have hS4 : w4.heap[Q]? = some (.cells (lentM (UnM.mk (Un.mk k e se pa i cn xs ucd l) da dn dc ga gn gc) g c h2 d).c tUn (0, 0)) ∧ w4.heap[P]? = some (.cells (OpX.mk 1 (UnM.mk (Un.mk k e se pa i cn xs ucd l) da dn dc ga gn gc) ye yn ycd).c tOpX (0, 0)) := ⟨(hb34.block Q hQl).trans hQ3, (hb24.block P (by omega)).trans ((hb2.block P (by omega)).trans HP1.out)⟩
  have HK : Hid (∀ u, Chg (fun b => F b ∨ G b) w4 u → u.heap[Q]? = some (.cells (lentM (UnM.mk (Un.mk k e se pa i cn xs ucd l) da dn dc ga gn gc) g c h2 d).c tUn (0, 0)) ∧ u.heap[P]? = some (.cells (OpX.mk 1 (UnM.mk (Un.mk k e se pa i cn xs ucd l) da dn dc ga gn gc) ye yn ycd).c tOpX (0, 0))) := fun u hu => ⟨(hu.block Q (by omega) (hnFG Q (by omega))).trans hS4.1, (hu.block P (by omega) (hnFG P (by omega))).trans hS4.2⟩
  have HKB : Hid (∀ u v : World, (u.heap[Q]? = some (.cells (lentM (UnM.mk (Un.mk k e se pa i cn xs ucd l) da dn dc ga gn gc) g c h2 d).c tUn (0, 0)) ∧ u.heap[P]? = some (.cells (OpX.mk 1 (UnM.mk (Un.mk k e se pa i cn xs ucd l) da dn dc ga gn gc) ye yn ycd).c tOpX (0, 0))) → Below u.heap.size u v → (v.heap[Q]? = some (.cells (lentM (UnM.mk (Un.mk k e se pa i cn xs ucd l) da dn dc ga gn gc) g c h2 d).c tUn (0, 0)) ∧ v.heap[P]? = some (.cells (OpX.mk 1 (UnM.mk (Un.mk k e se pa i cn xs ucd l) da dn dc ga gn gc) ye yn ycd).c tOpX (0, 0)))) := fun u v hu hv => ⟨(hv.block Q (Array.getElem?_eq_some_iff.1 hu.1).1).trans hu.1, (hv.block P (Array.getElem?_eq_some_iff.1 hu.2).1).trans hu.2⟩
  have HLK : Hid (∀ u, Chg (fun b => F b ∨ G b) w4 u → LentAt (w1.heap.size + 2) u (UnM.mk (Un.mk k e se pa i cn xs ucd l) da dn dc ga gn gc) g c h2 d) := fun u hu => hl4.kept hu (hnFG g (by omega)) (hnFG h2 (by omega))
  have HSY : Hid (∀ u, Chg (fun b => F b ∨ G b) w4 u → Calls _ _ _ u _) := fun u hu => staysL_t (UnM.mk (Un.mk k e se pa i cn xs ucd l) da dn dc ga gn gc) u (HX.out.below ((HH.out.below HB4.out).of_chg hu (fun b hb => hb.elim (HH.out.oF b) (fun h9 => (HH.out.oG b h9).1)))) (HLK.out u hu)
  have HGE : Hid (w.heap.size ≤ g ∧ g < w4.heap.size ∧ g ≠ Q) := ⟨by omega, by omega, by omega⟩
  have HDN : Hid (dn = xs.length) := HX.out.hn
  have HDB : Hid (dn ≤ 140737488351232) := Nat.le_trans (by have h9 := HX.out.dl; rw [HDN.out]; exact h9) HX.out.db
  have HCC : Hid (dn + 8 ≤ c) := hl2.cc
  have HW3 : Hid (w3 = _) := hw3
  have HW4 : Hid (w4 = w3.drew) := hw4
  have HQ : Hid (Q = w2.heap.size) := hQ
  clear hl2 hb2 hQ hw3 hw4 hb23 hb34 hb24 hQ3 z1 z2 z3 z4 hQl hgb hhb hPw hl4 hnFG
  go_upto_region 6 with fail
  rw [← HW3.out, ← HP.out, ← HQ.out]
  rw [HW4.out] at hS4 HDU HK HSY HLK
  refine wp_region_held_drew (S := (fun u => u.heap[Q]? = some (.cells (lentM (UnM.mk (Un.mk k e se pa i cn xs ucd l) da dn dc ga gn gc) g c h2 d).c tUn (0, 0)) ∧ u.heap[P]? = some (.cells (OpX.mk 1 (UnM.mk (Un.mk k e se pa i cn xs ucd l) da dn dc ga gn gc) ye yn ycd).c tOpX (0, 0)))) (by kernel_rfl) (by first | exact hS4 | exact hS5 | exact hS6 | exact hS7 | exact hS8 | assumption) (fun hHeld => ?_)
  refine tz (i := 0) 29 rfl rfl hHeld ?_
  simp only [pS]
  refine tk (i := 1) 30 (v := .agg (lentM (UnM.mk (Un.mk k e se pa i cn xs ucd l) da dn dc ga gn gc) g c h2 d).c) rfl rfl ?_ hHeld ?_
  · (intro w hSw; refine exec_load (by rfl) ?_; exact load_unX w _ _ (lentM (UnM.mk (Un.mk k e se pa i cn xs ucd l) da dn dc ga gn gc) g c h2 d) (box_range hSw.1))
  simp only [pS]
  refine tz (i := 3) 32 rfl rfl hHeld ?_
  simp only [pS]
  refine tz (i := 4) 33 rfl rfl hHeld ?_
  simp only [pS]
  refine tk (i := 5) 34 (v := .agg (UnM.mk (Un.mk k e se pa i cn xs ucd l) da dn dc ga gn gc).c) rfl rfl ?_ hHeld ?_
  · (intro w hSw; refine exec_load (by rfl) ?_; exact load_unX w _ _ (UnM.mk (Un.mk k e se pa i cn xs ucd l) da dn dc ga gn gc) (opCell hSw.2).2.2.2.2)
  simp only [pS]
  refine run_at (i := 2) rfl (by kernel_rfl) (by rfl) (fun K hK => ?_)
  simp only [List.getElem_toArray, List.getElem_cons_zero, List.getElem_cons_succ]
  go_simp
  first | (go_at_call 15; refine Calls.mono HDU.out ?_; rintro e5 w5 ⟨v1, rfl, hc5, hd5⟩; have hS5 := HK.out w5 hc5; have HD5 : Hid _ := hd5; clear hc5 hd5) | (go_at_call 22; refine Calls.mono HD5.out ?_; rintro e6 w6 ⟨v2, rfl, hc6, hd6⟩; have hS6 := HK.out w6 hc6; have HD6 : Hid _ := hd6; clear hc6 hd6) | (go_at_call 23; refine Calls.mono HD6.out ?_; rintro e7 w7 ⟨rfl, hp7⟩; have hS7 := HK.out w7 hp7.choose_spec.choose_spec.2.1; have HST : Hid (Calls _ _ _ w7 _) := HSY.out w7 hp7.choose_spec.choose_spec.2.1; have HP7 : Hid _ := hp7; clear hp7) | (go_at_call 44; refine Calls.mono HST.out ?_; rintro e8 w8 ⟨rfl, hb8⟩; have hS8 := HKB.out w7 w8 hS7 hb8; have HB8 : Hid (Below w7.heap.size w7 w8) := hb8; clear hb8)
  go_wp2_with fail
  refine hK.out _ _ (by first | exact hS4 | exact hS5 | exact hS6 | exact hS7 | exact hS8 | assumption) ?_
  clear hK K
  intro hHeld2
  clear hHeld
  have hHeld := hHeld2
  clear hHeld2
  try simp only [pS]
  refine run_at (i := 6) rfl (by kernel_rfl) (by rfl) (fun K hK => ?_)
  simp only [List.getElem_toArray, List.getElem_cons_zero, List.getElem_cons_succ]
  go_simp
  first | (go_at_call 15; refine Calls.mono HDU.out ?_; rintro e5 w5 ⟨v1, rfl, hc5, hd5⟩; have hS5 := HK.out w5 hc5; have HD5 : Hid _ := hd5; clear hc5 hd5) | (go_at_call 22; refine Calls.mono HD5.out ?_; rintro e6 w6 ⟨v2, rfl, hc6, hd6⟩; have hS6 := HK.out w6 hc6; have HD6 : Hid _ := hd6; clear hc6 hd6) | (go_at_call 23; refine Calls.mono HD6.out ?_; rintro e7 w7 ⟨rfl, hp7⟩; have hS7 := HK.out w7 hp7.choose_spec.choose_spec.2.1; have HST : Hid (Calls _ _ _ w7 _) := HSY.out w7 hp7.choose_spec.choose_spec.2.1; have HP7 : Hid _ := hp7; clear hp7) | (go_at_call 44; refine Calls.mono HST.out ?_; rintro e8 w8 ⟨rfl, hb8⟩; have hS8 := HKB.out w7 w8 hS7 hb8; have HB8 : Hid (Below w7.heap.size w7 w8) := hb8; clear hb8)
  go_wp2_with fail
  refine hK.out _ _ (by first | exact hS4 | exact hS5 | exact hS6 | exact hS7 | exact hS8 | assumption) ?_
  clear hK K
  intro hHeld2
  clear hHeld
  have hHeld := hHeld2
  clear hHeld2
  try simp only [pS]
  refine run_at (i := 7) rfl (by kernel_rfl) (by rfl) (fun K hK => ?_)
  simp only [List.getElem_toArray, List.getElem_cons_zero, List.getElem_cons_succ]
  go_simp
  first | (go_at_call 15; refine Calls.mono HDU.out ?_; rintro e5 w5 ⟨v1, rfl, hc5, hd5⟩; have hS5 := HK.out w5 hc5; have HD5 : Hid _ := hd5; clear hc5 hd5) | (go_at_call 22; refine Calls.mono HD5.out ?_; rintro e6 w6 ⟨v2, rfl, hc6, hd6⟩; have hS6 := HK.out w6 hc6; have HD6 : Hid _ := hd6; clear hc6 hd6) | (go_at_call 23; refine Calls.mono HD6.out ?_; rintro e7 w7 ⟨rfl, hp7⟩; have hS7 := HK.out w7 hp7.choose_spec.choose_spec.2.1; have HST : Hid (Calls _ _ _ w7 _) := HSY.out w7 hp7.choose_spec.choose_spec.2.1; have HP7 : Hid _ := hp7; clear hp7) | (go_at_call 44; refine Calls.mono HST.out ?_; rintro e8 w8 ⟨rfl, hb8⟩; have hS8 := HKB.out w7 w8 hS7 hb8; have HB8 : Hid (Below w7.heap.size w7 w8) := hb8; clear hb8)
  go_wp2_with fail
  refine hK.out _ _ (by first | exact hS4 | exact hS5 | exact hS6 | exact hS7 | exact hS8 | assumption) ?_
  clear hK K
  intro hHeld2
  clear hHeld
  have hHeld := hHeld2
  clear hHeld2
  try simp only [pS]
  refine tz (i := 8) 37 rfl rfl hHeld ?_
  simp only [pS]
  refine tk (i := 9) 38 (v := .agg (lentM (UnM.mk (Un.mk k e se pa i cn xs ucd l) da dn dc ga gn gc) g c h2 d).c) rfl rfl ?_ hHeld ?_
  · (intro w hSw; refine exec_load (by rfl) ?_; exact load_unX w _ _ (lentM (UnM.mk (Un.mk k e se pa i cn xs ucd l) da dn dc ga gn gc) g c h2 d) (box_range hSw.1))
  simp only [pS]
  refine tz (i := 10) 39 rfl rfl hHeld ?_
  simp only [pS]
  refine tk (i := 11) 40 (v := .agg (UnM.mk (Un.mk k e se pa i cn xs ucd l) da dn dc ga gn gc).c) rfl rfl ?_ hHeld ?_
  · (intro w hSw; refine exec_load (by rfl) ?_; exact load_unX w _ _ (UnM.mk (Un.mk k e se pa i cn xs ucd l) da dn dc ga gn gc) (opCell hSw.2).2.2.2.2)
  simp only [pS]
  refine run_at (i := 12) rfl (by kernel_rfl) (by rfl) (fun K hK => ?_)
  simp only [List.getElem_toArray, List.getElem_cons_zero, List.getElem_cons_succ]
  go_simp
  first | (go_at_call 15; refine Calls.mono HDU.out ?_; rintro e5 w5 ⟨v1, rfl, hc5, hd5⟩; have hS5 := HK.out w5 hc5; have HD5 : Hid _ := hd5; clear hc5 hd5) | (go_at_call 22; refine Calls.mono HD5.out ?_; rintro e6 w6 ⟨v2, rfl, hc6, hd6⟩; have hS6 := HK.out w6 hc6; have HD6 : Hid _ := hd6; clear hc6 hd6) | (go_at_call 23; refine Calls.mono HD6.out ?_; rintro e7 w7 ⟨rfl, hp7⟩; have hS7 := HK.out w7 hp7.choose_spec.choose_spec.2.1; have HST : Hid (Calls _ _ _ w7 _) := HSY.out w7 hp7.choose_spec.choose_spec.2.1; have HP7 : Hid _ := hp7; clear hp7) | (go_at_call 44; refine Calls.mono HST.out ?_; rintro e8 w8 ⟨rfl, hb8⟩; have hS8 := HKB.out w7 w8 hS7 hb8; have HB8 : Hid (Below w7.heap.size w7 w8) := hb8; clear hb8)
  go_wp2_with fail
  refine hK.out _ _ (by first | exact hS4 | exact hS5 | exact hS6 | exact hS7 | exact hS8 | assumption) ?_
  clear hK K
  intro hHeld2
  clear hHeld
  have hHeld := hHeld2
  clear hHeld2
  try simp only [pS]
  refine tz (i := 13) 42 rfl rfl hHeld ?_
  simp only [pS]
  refine tz (i := 14) 10 rfl rfl hHeld ?_
  simp only [pS]
  refine wpAnyH_done (by kernel_rfl) ?_ _
  have HB8c : Hid (LentAt (w1.heap.size + 2) w7 (UnM.mk (Un.mk k e se pa i cn xs ucd l) da dn dc ga gn gc) g c h2 d) := HLK.out w7 HP7.out.choose_spec.choose_spec.2.1
  have HO8 : Hid (Own w8 0 (.slice (some ⟨g, 0, none⟩) (dn + 8) c) (xs ++ marksL)) := Own.base (Own.below HB8c.out.bs HB8.out) (Nat.zero_le _)
  have HQ8 : Hid _ := hS8.1
  clear hS4 hS5 hS6 hS7 hS8 hHeld
  go_upto_region 8 with fail
  go_loopw [11] (fun j wr => ∃ k9 : Nat, k9 ≤ dn ∧ j = .int .i64 (k9 : Int) ∧ Own wr 0 (.slice (some ⟨g, 0, none⟩) (dn + 8) c) (xorL 90 (xs.take k9) ++ (xs.drop k9 ++ marksL)) ∧ Chg (fun b => b = g) w8 wr) (fun j _ => dn - (intOf j).toNat)
  case atStart => exact ⟨0, Nat.zero_le _, rfl, by simpa [xorL] using HO8.out, Chg.refl _ _⟩
  case round =>
    obtain ⟨k9, hk9, rfl, hok, hcr⟩ := hrel
    have hQr := (hcr.block Q (Array.getElem?_eq_some_iff.1 HQ8.out).1 (fun e9 => HGE.out.2.2 e9.symm)).trans HQ8.out
    have HCQ : Hid (∀ u, Below wr.heap.size wr u → u.cell? ⟨Q, 6, none⟩ = some (.slice (some ⟨g, 0, none⟩) dn c)) := fun u hu => (unBox ((hu.block Q (Array.getElem?_eq_some_iff.1 hQr).1).trans hQr)).2.2.2.2.2.2.1
    have hcq := HCQ.out wr (Below.refl _ _)
    have hkw : IntKind.i64.wrap ((k9 : Int) + 1) = ((k9 + 1 : Nat) : Int) := by rw [IntKind.wrap_i64]; have := HDB.out; omega
    have HCR : Hid _ := hcr
    by_cases hlt : k9 < dn
    · have hltI : (k9 : Int) < (dn : Int) := by omega
      have hk0 : (0 : Int) ≤ (k9 : Int) := by omega
      have hkx : k9 < xs.length := by rw [← HDN.out]; exact hlt
      have hlen : (xorL 90 (xs.take k9) ++ (xs.drop k9 ++ marksL)).length = dn + 8 := by have := HDN.out; simp [xorL_len, marksL]; omega
      have hok' := Own.below hok (Below.refl wr.heap.size wr).drew
      rw [← hlen] at hok'
      obtain ⟨y, hy⟩ : ∃ y, y = xs[k9] := ⟨_, rfl⟩
      have hcell : ∀ u, Below wr.heap.size wr u → u.cell? ⟨g, k9, none⟩ = some (.int .u8 (y.toNat : Int)) := fun u hu => by
        have h9 := Own.below hok hu
        rw [← hlen] at h9
        rw [World.ownsRow.cellAt h9 k9 (by omega), bv_get _ k9 (by omega), xorL_at 90 xs k9 hkx marksL (by omega), hy]
      have hfz := World.ownsRow.frozenAt hok' k9
      have hst := own_set hok' k9 (xs[k9] ^^^ 90) (bits .xor .u8 (y.toNat : Int) 90) (by rw [hy, show (90 : Int) = (((90 : UInt8).toNat : Nat) : Int) from rfl, u8_xor_ints])
      rw [hlen, xorL_snoc 90 xs k9 hkx] at hst
      have HST9 : Hid _ := hst
      have HCY : Hid _ := hcell
      have hcy := hcell wr.drew (Below.refl _ _).drew
      clear hlen hok' hst hok hcell hcr hQr hy hkx
      go_wp2_with fail
      refine wp_region_noPanic ?_
      refine wp_region_late_drew (S := (fun u => Below wr.heap.size wr u)) (X := [10]) (by kernel_rfl) (by with_reducible first | exact (Below.refl _ _).drew | assumption) (fun hHeld => ?_)
      refine take_atA (i := 0) 50 (v := ?_) rfl rfl (by kernel_rfl) (by kernel_rfl) (by kernel_rfl) (by decide) (fun _ _ _ h => h) (by rfl) ?_ hHeld ?_
      rotate_left
      · (intro w; go_simp; try with_reducible rfl)
      simp only [pS]
      refine take_atL (i := 1) 51 (v := .slice (some ⟨g, 0, none⟩) dn c) rfl rfl (by kernel_rfl) (by kernel_rfl) (by kernel_rfl) (by kernel_rfl) (fun _ _ _ h => h) (by rfl) ?_ hHeld ?_
      · (intro w hSw; have hc9 := HCQ.out _ hSw; go_simp; try with_reducible rfl)
      simp only [pS]
      refine take_atA (i := 2) 52 (v := ?_) rfl rfl (by kernel_rfl) (by kernel_rfl) (by kernel_rfl) (by decide) (fun _ _ _ h => h) (by rfl) ?_ hHeld ?_
      rotate_left
      · (intro w; go_simp; try with_reducible rfl)
      simp only [pS]
      refine take_atA (i := 3) 53 (v := ?_) rfl rfl (by kernel_rfl) (by kernel_rfl) (by kernel_rfl) (by decide) (fun _ _ _ h => h) (by rfl) ?_ hHeld ?_
      rotate_left
      · (intro w; go_simp; try with_reducible rfl)
      simp only [pS]
      refine take_atL (i := 4) 54 (v := .slice (some ⟨g, 0, none⟩) dn c) rfl rfl (by kernel_rfl) (by kernel_rfl) (by kernel_rfl) (by kernel_rfl) (fun _ _ _ h => h) (by rfl) ?_ hHeld ?_
      · (intro w hSw; have hc9 := HCQ.out _ hSw; go_simp; try with_reducible rfl)
      simp only [pS]
      refine take_atA (i := 5) 55 (v := ?_) rfl rfl (by kernel_rfl) (by kernel_rfl) (by kernel_rfl) (by decide) (fun _ _ _ h => h) (by rfl) ?_ hHeld ?_
      rotate_left
      · (intro w; go_simp; try with_reducible rfl)
      simp only [pS]
      refine take_atA (i := 6) 56 (v := ?_) rfl rfl (by kernel_rfl) (by kernel_rfl) (by kernel_rfl) (by decide) (fun _ _ _ h => h) (by rfl) ?_ hHeld ?_
      rotate_left
      · (intro w; go_simp; try with_reducible rfl)
      simp only [pS]
      refine take_atL (i := 7) 57 (v := .int .u8 (y.toNat : Int)) rfl rfl (by kernel_rfl) (by kernel_rfl) (by kernel_rfl) (by kernel_rfl) (fun _ _ _ h => h) (by rfl) ?_ hHeld ?_
      · (intro w hSw; have hc9 := HCY.out _ hSw; go_simp; try with_reducible rfl)
      simp only [pS]
      refine take_atA (i := 8) 58 (v := ?_) rfl rfl (by kernel_rfl) (by kernel_rfl) (by kernel_rfl) (by decide) (fun _ _ _ h => h) (by rfl) ?_ hHeld ?_
      rotate_left
      · (intro w; go_simp; try with_reducible rfl)
      simp only [pS]
      refine take_atA (i := 9) 59 (v := ?_) rfl rfl (by kernel_rfl) (by kernel_rfl) (by kernel_rfl) (by decide) (fun _ _ _ h => h) (by rfl) ?_ hHeld ?_
      rotate_left
      · (intro w; go_simp; try with_reducible rfl)
      simp only [pS]
      refine run_atLate (i := 10) rfl (by kernel_rfl) (by decide) (by rfl) (fun K hK => ?_)
      simp only [List.getElem_toArray, List.getElem_cons_zero, List.getElem_cons_succ]
      go_simp
      go_wp2_with fail
      refine hK.out _ _ ?_
      clear hK K
      try simp only [pS]
      refine doneL (by kernel_rfl) ?_ _
      refine NoPanic.normal ?_
      go_wp2
      go_roundw
      case rel => exact ⟨k9 + 1, by omega, by go_num, HST9.out.1, HCR.out.trans (Chg.trans (F := fun b => b = g) (Chg.refl _ wr).drew (Chg.of_grown HST9.out.2 (F := fun b => b = g) (fun b e9 => (Option.some.inj e9).symm)) (fun b e9 => .inl e9)) (fun b e9 => .inl e9)⟩
      case measure => simp [intOf]; omega
    · have hltI : ¬ (k9 : Int) < (dn : Int) := by omega
      clear hok hcr hQr
      go_wp2
      go_ret
      refine ⟨rfl, PlOut.fin H0.out HB4.out HFG.out (by rw [HW4.out]; exact HP7.out) (D := fun b => b = g) ((Chg.of_below HB8.out).trans HCR.out (fun b e9 => .inl e9)) (fun b e9 => .inl ⟨by rw [e9]; exact HGE.out.1, by rw [e9]; exact HGE.out.2.1⟩)⟩
theorem plays_t (h : Pl w0 w p q N I F G) (y : OpX) (hy : OpOk w0 y) (hN : N < 4611686018427387904) : Calls Tryz.prog 19 #[.pointer (some ⟨p, 0, none⟩), .pointer (some ⟨q, 0, none⟩), .agg y.c] w fun e w' => e = .returned (.bool true) ∧ PlOut w0 w p q (N + 1) (doI I y) F G w' := by
  obtain ⟨kd, x, ye, yn, ycd⟩ := y
  unfold doI
  simp only
  by_cases h1 : kd = 1
  · subst h1
    rw [if_pos rfl]
    exact plays_1 h x ye yn ycd hy.un hN
  · rw [if_neg h1]
    by_cases h2 : kd = 2
    · subst h2
      rw [if_pos rfl]
      exact plays_2 h x ye yn ycd hy.s hN
    · rw [if_neg h2]
      by_cases h3 : kd = 3
      · subst h3
        rw [if_pos rfl]
        exact plays_3 h x ye yn ycd hy.s hN
      · rw [if_neg h3]
        exact plays_o h kd h1 h2 h3 x ye yn ycd
end
end Go.Proofs.YtdoikcolkbjnfaaGreat
