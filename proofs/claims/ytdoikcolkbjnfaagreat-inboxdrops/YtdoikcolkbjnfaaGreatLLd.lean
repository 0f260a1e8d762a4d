import Derived.Test.YtdoikcolkbjnfaaGreatLLa
import Derived.Test.YtdoikcolkbjnfaaGreatUG
namespace Go.Proofs.YtdoikcolkbjnfaaGreat
set_option linter.unusedVariables false
set_option linter.unusedSimpArgs false
open Go.RowKit Go.Maps
theorem neq_str (s : ByteArray) (u : World) : (binOp .neq 9 (.string s) (.string s)).run Tryz.prog u = .ok (.bool false) u := by
  go_simp
section
set_option maxRecDepth 20000
set_option maxHeartbeats 6400000
theorem alike_t {w : World} {B B2 : Nat} {a : Ans} {ga ba : Option Addr} {gn gc bn bc : Nat} {rs : List Rg} {xs : List UInt8} {ga2 ba2 : Option Addr} {gn2 gc2 bn2 bc2 : Nat} {rs2 : List Rg} {xs2 : List UInt8} (h1 : AnsAt w B a ga ba gn gc bn bc rs xs) (h2 : AnsAt w B2 a ga2 ba2 gn2 gc2 bn2 bc2 rs2 xs2) : Calls Tryz.prog 23 #[ansV a ga ba gn gc bn bc, ansV a ga2 ba2 gn2 gc2 bn2 bc2] w fun e w' => e = .returned (.bool true) ∧ Below w.heap.size w w' := by
  obtain ⟨e1, e2⟩ := AnsR.uniq h1.is_ h2.is_
  subst e1 e2
  obtain ⟨a1, c1, hv1, -, -, -, hr1, -⟩ := OwnR.val h1.gr
  obtain ⟨a2, c2, hv2, -, -, -, hr2, -⟩ := OwnR.val h2.gr
  obtain ⟨a3, c3, hv3, -, -, -, hr3, -⟩ := Own.val h1.bl
  obtain ⟨a4, c4, hv4, -, -, -, hr4, -⟩ := Own.val h2.bl
  simp only [Value.slice.injEq] at hv1 hv2 hv3 hv4
  obtain ⟨rfl, hg1, rfl⟩ := hv1
  obtain ⟨rfl, hg2, rfl⟩ := hv2
  obtain ⟨rfl, hb1, rfl⟩ := hv3
  obtain ⟨rfl, hb2, rfl⟩ := hv4
  have hl := h1.g64
  obtain ⟨sa, hsa⟩ : ∃ sa, sa = a.st := ⟨_, rfl⟩
  obtain ⟨ca, hca⟩ : ∃ ca, ca = a.cd := ⟨_, rfl⟩
  unfold ansV
  rw [← hsa, ← hca]
  obtain ⟨w1, hw1⟩ : ∃ w1, w1 = (w.alloc (.cells #[.int .i64 sa, .int .i64 ca, .slice ga gn gc, .slice ba bn bc] 44)).alloc (.cells #[.int .i64 sa, .int .i64 ca, .slice ga2 gn2 gc2, .slice ba2 bn2 bc2] tRa) := ⟨_, rfl⟩
  have hbl1 : Below w.heap.size w w1 := by rw [hw1]; exact al (al (Below.refl _ _) _) _
  have hP1 : w1.heap[w.heap.size]? = some (.cells #[.int .i64 sa, .int .i64 ca, .slice ga gn gc, .slice ba bn bc] 44 (0, 0)) := by
    rw [hw1]
    exact ((al (Below.refl _ (w.alloc (.cells #[.int .i64 sa, .int .i64 ca, .slice ga gn gc, .slice ba bn bc] 44))) _).block _ (by simp)).trans (heap_alloc_new _ _)
  have hQ1 : w1.heap[w.heap.size + 1]? = some (.cells #[.int .i64 sa, .int .i64 ca, .slice ga2 gn2 gc2, .slice ba2 bn2 bc2] tRa (0, 0)) := by
    rw [hw1]
    have h9 := heap_alloc_new (w.alloc (.cells #[.int .i64 sa, .int .i64 ca, .slice ga gn gc, .slice ba bn bc] 44)) (.cells #[.int .i64 sa, .int .i64 ca, .slice ga2 gn2 gc2, .slice ba2 bn2 bc2] tRa)
    rw [World.size_alloc] at h9
    exact h9
  have HRG : Hid (Calls _ _ _ w1 _) := rangesI_t ga ga2 gn gn2 gc gc2 rs rs w1 hg1 hg2 (hr1.below hbl1) (hr2.below hbl1) (by omega) rfl
  have HV3 : Hid (∀ u, Below w1.heap.size w1 u → _) := fun u hu => conv_rd' (Rd.below hr3 (below_next hbl1 hu)) bn bc hb1
  have HV4 : Hid (∀ u, Below w1.heap.size w1 u → _) := fun u hu => conv_rd' (Rd.below hr4 (below_next hbl1 hu)) bn2 bc2 hb2
  have hp1 := ansCell hP1
  have hq1 := ansCellR hQ1
  have hse : (sa == sa) = true := by simp
  have hce : (ca == ca) = true := by simp
  have HB1 : Hid _ := hbl1
  have HP1 : Hid _ := hP1
  have HQ1 : Hid _ := hQ1
  have HW1 : Hid (w1 = _) := hw1
  clear h1 h2 hr1 hr2 hr3 hr4 hbl1 hP1 hQ1 hw1 hg1 hg2 hb1 hb2 hl hsa hca
  go_enter Tryz.func23, Tryz.ntmps23
  go_wp2_with fail
  rw [← HW1.out]
  refine Calls.mono HRG.out ?_
  rintro e w2 ⟨rfl, hb2⟩
  have hp2 := ansCell ((hb2.block _ (Array.getElem?_eq_some_iff.1 HP1.out).1).trans HP1.out)
  have hq2 := ansCellR ((hb2.block _ (Array.getElem?_eq_some_iff.1 HQ1.out).1).trans HQ1.out)
  have hv3 := HV3.out w2 hb2
  have hv4 := HV4.out w2 hb2
  have HB2 : Hid (Below w.heap.size w w2) := below_next HB1.out hb2
  clear hp1 hq1 hb2
  go_wp2
  go_ret
  exact ⟨by simp, HB2.out⟩
end
end Go.Proofs.YtdoikcolkbjnfaaGreat
namespace Go.Proofs.YtdoikcolkbjnfaaGreat
set_option linter.unusedVariables false
set_option linter.unusedSimpArgs false
open Go.RowKit Go.Maps
section
set_option maxRecDepth 20000
set_option maxHeartbeats 6400000
theorem staysL_t (x : UnM) (w : World) (hx : UnOk w x) {B g c h d : Nat} (hL : LentAt B w x g c h d) : Calls Tryz.prog 44 #[.agg (lentC x g c h d), .agg x.c] w fun e w' => e = .returned (.bool true) ∧ Below w.heap.size w w' := by
  obtain ⟨⟨k, e, se, pa, i, cn, xs, cd, l⟩, da, dn, dc, ga, gn, gc⟩ := x
  obtain ⟨hn, hg, hrd, hdl, hdz, hdb, hrg, hgl, hgz, hgb, -, -⟩ := hx
  obtain ⟨hbs, hrs, hcc, hdd, -, -⟩ := hL
  simp only at hn hg hrd hdl hdz hdb hrg hgl hgz hgb hbs hrs hcc hdd
  obtain ⟨M, hM⟩ : ∃ M, M = dn + 8 := ⟨_, rfl⟩
  obtain ⟨K2, hK2⟩ : ∃ K2, K2 = gn + 1 := ⟨_, rfl⟩
  rw [← hM] at hbs hcc
  rw [← hK2] at hrs hdd
  have hMn : M = (xs ++ marksL).length := by rw [List.length_append, ← hn]; exact hM
  have hKn : K2 = (l ++ [((-7 : Int), (-7 : Int))]).length := by rw [List.length_append, ← hg]; exact hK2
  have hr1 : Rd w (some ⟨g, 0, none⟩) (xs ++ marksL) := by
    obtain ⟨a1, c1, hv1, -, -, -, hr1, -⟩ := Own.val hbs
    simp only [Value.slice.injEq] at hv1
    rw [hv1.1]; exact hr1
  have hr2 : RdR w (some ⟨h, 0, none⟩) (l ++ [((-7 : Int), (-7 : Int))]) := by
    obtain ⟨a1, c1, hv1, -, -, -, hr1, -⟩ := OwnR.val hrs
    simp only [Value.slice.injEq] at hv1
    rw [hv1.1]; exact hr1
  obtain ⟨w1, hw1⟩ : ∃ w1, w1 = (w.alloc (.cells (unC k e se pa i cn (some ⟨g, 0, none⟩) dn c cd (some ⟨h, 0, none⟩) gn d) tUn)).alloc (.cells (unC k e se pa i cn da dn dc cd ga gn gc) tUn) := ⟨_, rfl⟩
  have hb1 : Below w.heap.size w w1 := by rw [hw1]; exact al (al (Below.refl _ _) _) _
  have hP1 : w1.heap[w.heap.size]? = some (.cells (unC k e se pa i cn (some ⟨g, 0, none⟩) dn c cd (some ⟨h, 0, none⟩) gn d) tUn (0, 0)) := by
    rw [hw1]
    exact ((al (Below.refl _ (w.alloc (.cells (unC k e se pa i cn (some ⟨g, 0, none⟩) dn c cd (some ⟨h, 0, none⟩) gn d) tUn))) _).block _ (by simp)).trans (heap_alloc_new _ _)
  have hQ1 : w1.heap[w.heap.size + 1]? = some (.cells (unC k e se pa i cn da dn dc cd ga gn gc) tUn (0, 0)) := by
    rw [hw1]
    have h9 := heap_alloc_new (w.alloc (.cells (unC k e se pa i cn (some ⟨g, 0, none⟩) dn c cd (some ⟨h, 0, none⟩) gn d) tUn)) (.cells (unC k e se pa i cn da dn dc cd ga gn gc) tUn)
    rw [World.size_alloc] at h9
    exact h9
  obtain ⟨P, hP⟩ : ∃ P, P = w.heap.size := ⟨_, rfl⟩
  rw [← hP] at hP1 hQ1
  have hk : ∀ u, Below w1.heap.size w1 u → u.cell? ⟨P, 6, none⟩ = some (.slice (some ⟨g, 0, none⟩) dn c) ∧ u.cell? ⟨P, 8, none⟩ = some (.slice (some ⟨h, 0, none⟩) gn d) ∧ u.cell? ⟨P + 1, 6, none⟩ = some (.slice da dn dc) ∧ u.cell? ⟨P + 1, 8, none⟩ = some (.slice ga gn gc) := fun u hu => by
    have h1 := unBox ((hu.block _ (Array.getElem?_eq_some_iff.1 hP1).1).trans hP1)
    have h2 := unBox ((hu.block _ (Array.getElem?_eq_some_iff.1 hQ1).1).trans hQ1)
    exact ⟨h1.2.2.2.2.2.2.1, h1.2.2.2.2.2.2.2.2, h2.2.2.2.2.2.2.1, h2.2.2.2.2.2.2.2.2⟩
  have hk1 := hk w1 (Below.refl _ _)
  have hv1 : ∀ u, Below w1.heap.size w1 u → (convert 34 9 (.slice (some ⟨g, 0, none⟩) M c)).run Tryz.prog u = .ok (.string ⟨(xs ++ marksL).toArray⟩) u := fun u hu => conv_rd' (Rd.below hr1 (below_next hb1 hu)) M c hMn
  have hv2 : ∀ u, Below w1.heap.size w1 u → (convert 34 9 (.slice da dn dc)).run Tryz.prog u = .ok (.string ⟨xs.toArray⟩) u := fun u hu => conv_rd' (Rd.below hrd (below_next hb1 hu)) dn dc hn
  have h9s : ¬ 9223372036854775807 < xs.length + 8 := by omega
  have hcE : ((⟨xs.toArray⟩ : ByteArray) ++ (⟨#[11, 12, 13, 14, 15, 16, 17, 18]⟩ : ByteArray)) = ⟨(xs ++ marksL).toArray⟩ := by
    apply ByteArray.ext
    simp [marksL]
  have hne : ∀ u, (binOp .neq 9 (.string ⟨(xs ++ marksL).toArray⟩) (.string ⟨(xs ++ marksL).toArray⟩)).run Tryz.prog u = .ok (.bool false) u := fun u => neq_str _ u
  have hl7 : ∀ u, Below w1.heap.size w1 u → u.cell? ⟨h, gn * 2, none⟩ = some (.int .i64 (-7)) ∧ u.cell? ⟨h, gn * 2 + 1, none⟩ = some (.int .i64 (-7)) := fun u hu => by
    obtain ⟨b9, o9, h8, h9, h10⟩ := (hr2.below (below_next hb1 hu)) gn (by rw [List.length_append, ← hg]; simp)
    have e9 : (l ++ [((-7 : Int), (-7 : Int))])[gn]'(by rw [List.length_append, ← hg]; simp) = (-7, -7) := by
      subst hg
      simp
    cases h8
    rw [e9, Nat.zero_add] at h9 h10
    exact ⟨h9, h10⟩
  have hn7 : ∀ u, (binOp .neq 71 (.agg #[.int .i64 (-7), .int .i64 (-7)]) (.agg #[.int .i64 (-7), .int .i64 (-7)])).run Tryz.prog u = .ok (.bool false) u := fun u => by rw [neq_rgc]; simp
  have hMw : IntKind.i64.wrap ((dn : Int) + 8) = (M : Int) := by rw [IntKind.wrap_i64]; omega
  have hKw : IntKind.i64.wrap ((gn : Int) + 1) = (K2 : Int) := by rw [IntKind.wrap_i64]; omega
  have hM0 : (0 : Int) ≤ (M : Int) := by omega
  have hM1 : (M : Int) ≤ (c : Int) := by omega
  have hM2 : M ≤ c := by omega
  have hK0 : (0 : Int) ≤ (K2 : Int) := by omega
  have hK1 : (K2 : Int) ≤ (d : Int) := by omega
  have hK3 : K2 ≤ d := by omega
  have hg0 : (0 : Int) ≤ (gn : Int) := by omega
  have hgK : (gn : Int) < (K2 : Int) := by omega
  have hdd1 : ((dn : Int) != (dn : Int)) = false := by simp
  have hgg1 : ((gn : Int) != (gn : Int)) = false := by simp
  have HR2 : Hid (RdR w1 (some ⟨h, 0, none⟩) (l ++ [((-7 : Int), (-7 : Int))])) := hr2.below hb1
  have HRG : Hid (RdR w1 ga l) := hrg.below hb1
  have HGN : Hid (gn = l.length) := hg
  have HGB : Hid (gn ≤ 8796093022208) := by unfold Hid; omega
  have HB1 : Hid _ := hb1
  have HW1 : Hid (w1 = _) := hw1
  have HP : Hid (P = w.heap.size) := hP
  clear hn hg hrd hdl hdz hdb hrg hgl hgz hgb hbs hrs hcc hdd hM hK2 hMn hKn hr1 hr2 hb1 hP1 hQ1 hw1 hP
  go_enter Tryz.func44, Tryz.ntmps44
  go_upto_region 1 with fail
  rw [← HW1.out, ← HP.out]
  go_wp2_with fail
  refine wp_region_noPanic ?_
  refine wp_region_held_drew (S := (fun u => Below w1.heap.size w1 u)) (by kernel_rfl) (by first | exact (Below.refl _ _).drew | assumption) (fun hHeld => ?_)
  refine take_at (i := 0) 22 (v := ?_) rfl rfl (by kernel_rfl) (by kernel_rfl) (by kernel_rfl) (fun _ _ _ h => h) (by rfl) ?_ hHeld ?_
  rotate_left
  · (intro w hSw; (try dsimp only at hSw); go_simp; try with_reducible rfl)
  simp only [Act.put, List.setIfInBounds_toArray, List.set_cons_zero, List.set_cons_succ]
  refine take_at (i := 1) 23 (v := ?_) rfl rfl (by kernel_rfl) (by kernel_rfl) (by kernel_rfl) (fun _ _ _ h => h) (by rfl) ?_ hHeld ?_
  rotate_left
  · (intro w hSw; (try dsimp only at hSw); go_simp; try with_reducible rfl)
  simp only [Act.put, List.setIfInBounds_toArray, List.set_cons_zero, List.set_cons_succ]
  refine take_at (i := 2) 24 (v := ?_) rfl rfl (by kernel_rfl) (by kernel_rfl) (by kernel_rfl) (fun _ _ _ h => h) (by rfl) ?_ hHeld ?_
  rotate_left
  · (intro w hSw; (try dsimp only at hSw); go_simp; try with_reducible rfl)
  simp only [Act.put, List.setIfInBounds_toArray, List.set_cons_zero, List.set_cons_succ]
  refine take_at (i := 3) 25 (v := ?_) rfl rfl (by kernel_rfl) (by kernel_rfl) (by kernel_rfl) (fun _ _ _ h => h) (by rfl) ?_ hHeld ?_
  rotate_left
  · (intro w hSw; (try dsimp only at hSw); go_simp; try with_reducible rfl)
  simp only [Act.put, List.setIfInBounds_toArray, List.set_cons_zero, List.set_cons_succ]
  refine take_at (i := 4) 26 (v := ?_) rfl rfl (by kernel_rfl) (by kernel_rfl) (by kernel_rfl) (fun _ _ _ h => h) (by rfl) ?_ hHeld ?_
  rotate_left
  · (intro w hSw; (try dsimp only at hSw); go_simp; try with_reducible rfl)
  simp only [Act.put, List.setIfInBounds_toArray, List.set_cons_zero, List.set_cons_succ]
  refine take_at (i := 5) 27 (v := ?_) rfl rfl (by kernel_rfl) (by kernel_rfl) (by kernel_rfl) (fun _ _ _ h => h) (by rfl) ?_ hHeld ?_
  rotate_left
  · (intro w hSw; (try dsimp only at hSw); go_simp; try with_reducible rfl)
  simp only [Act.put, List.setIfInBounds_toArray, List.set_cons_zero, List.set_cons_succ]
  refine take_at (i := 6) 28 (v := ?_) rfl rfl (by kernel_rfl) (by kernel_rfl) (by kernel_rfl) (fun _ _ _ h => h) (by rfl) ?_ hHeld ?_
  rotate_left
  · (intro w hSw; (try dsimp only at hSw); go_simp; try with_reducible rfl)
  simp only [Act.put, List.setIfInBounds_toArray, List.set_cons_zero, List.set_cons_succ]
  refine take_at (i := 7) 29 (v := ?_) rfl rfl (by kernel_rfl) (by kernel_rfl) (by kernel_rfl) (fun _ _ _ h => h) (by rfl) ?_ hHeld ?_
  rotate_left
  · (intro w hSw; (try dsimp only at hSw); go_simp; try with_reducible rfl)
  simp only [Act.put, List.setIfInBounds_toArray, List.set_cons_zero, List.set_cons_succ]
  refine take_at (i := 8) 30 (v := ?_) rfl rfl (by kernel_rfl) (by kernel_rfl) (by kernel_rfl) (fun _ _ _ h => h) (by rfl) ?_ hHeld ?_
  rotate_left
  · (intro w hSw; (try dsimp only at hSw); go_simp; try with_reducible rfl)
  simp only [Act.put, List.setIfInBounds_toArray, List.set_cons_zero, List.set_cons_succ]
  refine take_at (i := 9) 31 (v := ?_) rfl rfl (by kernel_rfl) (by kernel_rfl) (by kernel_rfl) (fun _ _ _ h => h) (by rfl) ?_ hHeld ?_
  rotate_left
  · (intro w hSw; (try dsimp only at hSw); go_simp; try with_reducible rfl)
  simp only [Act.put, List.setIfInBounds_toArray, List.set_cons_zero, List.set_cons_succ]
  refine take_at (i := 10) 32 (v := ?_) rfl rfl (by kernel_rfl) (by kernel_rfl) (by kernel_rfl) (fun _ _ _ h => h) (by rfl) ?_ hHeld ?_
  rotate_left
  · (intro w hSw; (try dsimp only at hSw); go_simp; try with_reducible rfl)
  simp only [Act.put, List.setIfInBounds_toArray, List.set_cons_zero, List.set_cons_succ]
  refine take_at (i := 11) 33 (v := .string ⟨(xs ++ marksL).toArray⟩) rfl rfl (by kernel_rfl) (by kernel_rfl) (by kernel_rfl) (fun _ _ _ h => h) (by rfl) ?_ hHeld ?_
  · (intro w hSw; (try dsimp only at hSw); go_simp; try simp [h9s, hcE])
  simp only [Act.put, List.setIfInBounds_toArray, List.set_cons_zero, List.set_cons_succ]
  refine take_at (i := 12) 34 (v := .bool false) rfl rfl (by kernel_rfl) (by kernel_rfl) (by kernel_rfl) (fun _ _ _ h => h) (by rfl) ?_ hHeld ?_
  · (intro w hSw; (try dsimp only at hSw); go_simp; try simp [neq_str])
  simp only [Act.put, List.setIfInBounds_toArray, List.set_cons_zero, List.set_cons_succ]
  refine take_at (i := 13) 35 (v := ?_) rfl rfl (by kernel_rfl) (by kernel_rfl) (by kernel_rfl) (fun _ _ _ h => h) (by rfl) ?_ hHeld ?_
  rotate_left
  · (intro w hSw; (try dsimp only at hSw); go_simp; try with_reducible rfl)
  simp only [Act.put, List.setIfInBounds_toArray, List.set_cons_zero, List.set_cons_succ]
  refine take_at (i := 14) 36 (v := ?_) rfl rfl (by kernel_rfl) (by kernel_rfl) (by kernel_rfl) (fun _ _ _ h => h) (by rfl) ?_ hHeld ?_
  rotate_left
  · (intro w hSw; (try dsimp only at hSw); go_simp; try with_reducible rfl)
  simp only [Act.put, List.setIfInBounds_toArray, List.set_cons_zero, List.set_cons_succ]
  refine take_at (i := 15) 37 (v := ?_) rfl rfl (by kernel_rfl) (by kernel_rfl) (by kernel_rfl) (fun _ _ _ h => h) (by rfl) ?_ hHeld ?_
  rotate_left
  · (intro w hSw; (try dsimp only at hSw); go_simp; try with_reducible rfl)
  simp only [Act.put, List.setIfInBounds_toArray, List.set_cons_zero, List.set_cons_succ]
  refine take_at (i := 16) 38 (v := ?_) rfl rfl (by kernel_rfl) (by kernel_rfl) (by kernel_rfl) (fun _ _ _ h => h) (by rfl) ?_ hHeld ?_
  rotate_left
  · (intro w hSw; (try dsimp only at hSw); go_simp; try with_reducible rfl)
  simp only [Act.put, List.setIfInBounds_toArray, List.set_cons_zero, List.set_cons_succ]
  refine take_at (i := 17) 39 (v := ?_) rfl rfl (by kernel_rfl) (by kernel_rfl) (by kernel_rfl) (fun _ _ _ h => h) (by rfl) ?_ hHeld ?_
  rotate_left
  · (intro w hSw; (try dsimp only at hSw); go_simp; try with_reducible rfl)
  simp only [Act.put, List.setIfInBounds_toArray, List.set_cons_zero, List.set_cons_succ]
  refine take_at (i := 18) 40 (v := ?_) rfl rfl (by kernel_rfl) (by kernel_rfl) (by kernel_rfl) (fun _ _ _ h => h) (by rfl) ?_ hHeld ?_
  rotate_left
  · (intro w hSw; (try dsimp only at hSw); go_simp; try with_reducible rfl)
  simp only [Act.put, List.setIfInBounds_toArray, List.set_cons_zero, List.set_cons_succ]
  refine take_at (i := 19) 41 (v := ?_) rfl rfl (by kernel_rfl) (by kernel_rfl) (by kernel_rfl) (fun _ _ _ h => h) (by rfl) ?_ hHeld ?_
  rotate_left
  · (intro w hSw; (try dsimp only at hSw); go_simp; try with_reducible rfl)
  simp only [Act.put, List.setIfInBounds_toArray, List.set_cons_zero, List.set_cons_succ]
  refine take_at (i := 20) 42 (v := ?_) rfl rfl (by kernel_rfl) (by kernel_rfl) (by kernel_rfl) (fun _ _ _ h => h) (by rfl) ?_ hHeld ?_
  rotate_left
  · (intro w hSw; (try dsimp only at hSw); go_simp; try with_reducible rfl)
  simp only [Act.put, List.setIfInBounds_toArray, List.set_cons_zero, List.set_cons_succ]
  refine take_at (i := 21) 43 (v := ?_) rfl rfl (by kernel_rfl) (by kernel_rfl) (by kernel_rfl) (fun _ _ _ h => h) (by rfl) ?_ hHeld ?_
  rotate_left
  · (intro w hSw; (try dsimp only at hSw); go_simp; try with_reducible rfl)
  simp only [Act.put, List.setIfInBounds_toArray, List.set_cons_zero, List.set_cons_succ]
  refine take_at (i := 22) 44 (v := ?_) rfl rfl (by kernel_rfl) (by kernel_rfl) (by kernel_rfl) (fun _ _ _ h => h) (by rfl) ?_ hHeld ?_
  rotate_left
  · (intro w hSw; (try dsimp only at hSw); go_simp; try with_reducible rfl)
  simp only [Act.put, List.setIfInBounds_toArray, List.set_cons_zero, List.set_cons_succ]
  refine take_at (i := 23) 45 (v := ?_) rfl rfl (by kernel_rfl) (by kernel_rfl) (by kernel_rfl) (fun _ _ _ h => h) (by rfl) ?_ hHeld ?_
  rotate_left
  · (intro w hSw; (try dsimp only at hSw); go_simp; try with_reducible rfl)
  simp only [Act.put, List.setIfInBounds_toArray, List.set_cons_zero, List.set_cons_succ]
  refine take_at (i := 24) 46 (v := ?_) rfl rfl (by kernel_rfl) (by kernel_rfl) (by kernel_rfl) (fun _ _ _ h => h) (by rfl) ?_ hHeld ?_
  rotate_left
  · (intro w hSw; (try dsimp only at hSw); go_simp; try with_reducible rfl)
  simp only [Act.put, List.setIfInBounds_toArray, List.set_cons_zero, List.set_cons_succ]
  refine take_at (i := 25) 47 (v := ?_) rfl rfl (by kernel_rfl) (by kernel_rfl) (by kernel_rfl) (fun _ _ _ h => h) (by rfl) ?_ hHeld ?_
  rotate_left
  · (intro w hSw; (try dsimp only at hSw); go_simp; try with_reducible rfl)
  simp only [Act.put, List.setIfInBounds_toArray, List.set_cons_zero, List.set_cons_succ]
  refine take_at (i := 26) 48 (v := ?_) rfl rfl (by kernel_rfl) (by kernel_rfl) (by kernel_rfl) (fun _ _ _ h => h) (by rfl) ?_ hHeld ?_
  rotate_left
  · (intro w hSw; (try dsimp only at hSw); go_simp; try with_reducible rfl)
  simp only [Act.put, List.setIfInBounds_toArray, List.set_cons_zero, List.set_cons_succ]
  refine take_at (i := 27) 49 (v := ?_) rfl rfl (by kernel_rfl) (by kernel_rfl) (by kernel_rfl) (fun _ _ _ h => h) (by rfl) ?_ hHeld ?_
  rotate_left
  · (intro w hSw; (try dsimp only at hSw); go_simp; try with_reducible rfl)
  simp only [Act.put, List.setIfInBounds_toArray, List.set_cons_zero, List.set_cons_succ]
  refine take_at (i := 28) 50 (v := ?_) rfl rfl (by kernel_rfl) (by kernel_rfl) (by kernel_rfl) (fun _ _ _ h => h) (by rfl) ?_ hHeld ?_
  rotate_left
  · (intro w hSw; (try dsimp only at hSw); go_simp; try with_reducible rfl)
  simp only [Act.put, List.setIfInBounds_toArray, List.set_cons_zero, List.set_cons_succ]
  refine wpAnyH_done (by kernel_rfl) ?_ _
  refine NoPanic.normal ?_
  go_wp2
  go_loopw [5] (fun j wr => ∃ k : Nat, k ≤ gn ∧ j = .int .i64 (k : Int) ∧ Below w1.heap.size w1 wr) (fun j _ => gn - (intOf j).toNat)
  case atStart => exact ⟨0, Nat.zero_le _, rfl, (Below.refl _ _).drew⟩
  case round =>
    obtain ⟨k9, hk9, rfl, hbw⟩ := hrel
    have hkw : IntKind.i64.wrap ((k9 : Int) + 1) = ((k9 + 1 : Nat) : Int) := by rw [IntKind.wrap_i64]; have := HGB.out; omega
    have hkr := hk wr hbw
    by_cases hlt : k9 < gn
    · have hlti : (k9 : Int) < (gn : Int) := by omega
      have hk0 : (0 : Int) ≤ (k9 : Int) := by omega
      have hkl : k9 < l.length := by rw [← HGN.out]; exact hlt
      obtain ⟨b2, o2, rfl, -, -⟩ := HRG.out k9 hkl
      have hk2 : k9 < (l ++ [((-7 : Int), (-7 : Int))]).length := by rw [List.length_append]; omega
      have e9 : (l ++ [((-7 : Int), (-7 : Int))])[k9] = l[k9] := List.getElem_append_left hkl
      obtain ⟨y, hy⟩ : ∃ y : Rg, y = l[k9] := ⟨_, rfl⟩
      have hr1 : ∀ u, Below w1.heap.size w1 u → u.rangeAt h (k9 * 2) (rv y) := fun u hu => by
        have h9 := (HR2.out.below hu).range k9 hk2
        rw [e9, ← hy, Nat.zero_add] at h9
        exact h9
      have hr2 : ∀ u, Below w1.heap.size w1 u → u.rangeAt b2 (o2 + k9 * 2) (rv y) := fun u hu => by
        have h9 := (HRG.out.below hu).range k9 hkl
        rw [← hy] at h9
        exact h9
      obtain ⟨y1, y2⟩ := y
      have hl1 : ∀ u, Below w1.heap.size w1 u → (Instr.loadAt 71 (.pointer (some ⟨h, k9 * 2, none⟩))).run Tryz.prog u = .ok (.agg #[.int .i64 y1, .int .i64 y2]) u := fun u hu => load_rgc u _ _ y1 y2 (hr1 u hu)
      have hl2 : ∀ u, Below w1.heap.size w1 u → (Instr.loadAt 71 (.pointer (some ⟨b2, o2 + k9 * 2, none⟩))).run Tryz.prog u = .ok (.agg #[.int .i64 y1, .int .i64 y2]) u := fun u hu => load_rgc u _ _ y1 y2 (hr2 u hu)
      have hne1 : ∀ u, (binOp .neq 71 (.agg #[.int .i64 y1, .int .i64 y2]) (.agg #[.int .i64 y1, .int .i64 y2])).run Tryz.prog u = .ok (.bool false) u := fun u => by rw [neq_rgc]; simp
      have HBW : Hid _ := hbw
      clear hy hr1 hr2 e9
      go_wp2_with fail
      refine wp_region_noPanic ?_
      refine wp_region_held_drew (S := (fun u => Below w1.heap.size w1 u)) (by kernel_rfl) (by first | exact hbw.drew | assumption) (fun hHeld => ?_)
      refine take_at (i := 0) 58 (v := ?_) rfl rfl (by kernel_rfl) (by kernel_rfl) (by kernel_rfl) (fun _ _ _ h => h) (by rfl) ?_ hHeld ?_
      rotate_left
      · (intro w hSw; (try dsimp only at hSw); go_simp; try with_reducible rfl)
      simp only [Act.put, List.setIfInBounds_toArray, List.set_cons_zero, List.set_cons_succ]
      refine take_at (i := 1) 59 (v := ?_) rfl rfl (by kernel_rfl) (by kernel_rfl) (by kernel_rfl) (fun _ _ _ h => h) (by rfl) ?_ hHeld ?_
      rotate_left
      · (intro w hSw; (try dsimp only at hSw); go_simp; try with_reducible rfl)
      simp only [Act.put, List.setIfInBounds_toArray, List.set_cons_zero, List.set_cons_succ]
      refine take_at (i := 2) 60 (v := ?_) rfl rfl (by kernel_rfl) (by kernel_rfl) (by kernel_rfl) (fun _ _ _ h => h) (by rfl) ?_ hHeld ?_
      rotate_left
      · (intro w hSw; (try dsimp only at hSw); go_simp; try with_reducible rfl)
      simp only [Act.put, List.setIfInBounds_toArray, List.set_cons_zero, List.set_cons_succ]
      refine take_at (i := 3) 61 (v := ?_) rfl rfl (by kernel_rfl) (by kernel_rfl) (by kernel_rfl) (fun _ _ _ h => h) (by rfl) ?_ hHeld ?_
      rotate_left
      · (intro w hSw; (try dsimp only at hSw); go_simp; try with_reducible rfl)
      simp only [Act.put, List.setIfInBounds_toArray, List.set_cons_zero, List.set_cons_succ]
      refine take_at (i := 4) 62 (v := .agg #[.int .i64 y1, .int .i64 y2]) rfl rfl (by kernel_rfl) (by kernel_rfl) (by kernel_rfl) (fun _ _ _ h => h) (by rfl) ?_ hHeld ?_
      · (intro w hSw; refine exec_load (by rfl) ?_; exact hl1 w hSw)
      simp only [Act.put, List.setIfInBounds_toArray, List.set_cons_zero, List.set_cons_succ]
      refine take_at (i := 5) 63 (v := ?_) rfl rfl (by kernel_rfl) (by kernel_rfl) (by kernel_rfl) (fun _ _ _ h => h) (by rfl) ?_ hHeld ?_
      rotate_left
      · (intro w hSw; (try dsimp only at hSw); go_simp; try with_reducible rfl)
      simp only [Act.put, List.setIfInBounds_toArray, List.set_cons_zero, List.set_cons_succ]
      refine take_at (i := 6) 64 (v := ?_) rfl rfl (by kernel_rfl) (by kernel_rfl) (by kernel_rfl) (fun _ _ _ h => h) (by rfl) ?_ hHeld ?_
      rotate_left
      · (intro w hSw; (try dsimp only at hSw); go_simp; try with_reducible rfl)
      simp only [Act.put, List.setIfInBounds_toArray, List.set_cons_zero, List.set_cons_succ]
      refine take_at (i := 7) 65 (v := ?_) rfl rfl (by kernel_rfl) (by kernel_rfl) (by kernel_rfl) (fun _ _ _ h => h) (by rfl) ?_ hHeld ?_
      rotate_left
      · (intro w hSw; (try dsimp only at hSw); go_simp; try with_reducible rfl)
      simp only [Act.put, List.setIfInBounds_toArray, List.set_cons_zero, List.set_cons_succ]
      refine take_at (i := 8) 66 (v := ?_) rfl rfl (by kernel_rfl) (by kernel_rfl) (by kernel_rfl) (fun _ _ _ h => h) (by rfl) ?_ hHeld ?_
      rotate_left
      · (intro w hSw; (try dsimp only at hSw); go_simp; try with_reducible rfl)
      simp only [Act.put, List.setIfInBounds_toArray, List.set_cons_zero, List.set_cons_succ]
      refine take_at (i := 9) 67 (v := .agg #[.int .i64 y1, .int .i64 y2]) rfl rfl (by kernel_rfl) (by kernel_rfl) (by kernel_rfl) (fun _ _ _ h => h) (by rfl) ?_ hHeld ?_
      · (intro w hSw; refine exec_load (by rfl) ?_; exact hl2 w hSw)
      simp only [Act.put, List.setIfInBounds_toArray, List.set_cons_zero, List.set_cons_succ]
      refine take_at (i := 10) 68 (v := ?_) rfl rfl (by kernel_rfl) (by kernel_rfl) (by kernel_rfl) (fun _ _ _ h => h) (by rfl) ?_ hHeld ?_
      rotate_left
      · (intro w hSw; (try dsimp only at hSw); go_simp; try with_reducible rfl)
      simp only [Act.put, List.setIfInBounds_toArray, List.set_cons_zero, List.set_cons_succ]
      refine wpAnyH_done (by kernel_rfl) ?_ _
      refine NoPanic.normal ?_
      go_wp2
      go_roundw
      case rel => exact ⟨k9 + 1, by omega, by go_num, HBW.out.drew⟩
      case measure => simp [intOf]; omega
    · have hlti : ¬ (k9 : Int) < (gn : Int) := by omega
      have HBW : Hid _ := hbw
      go_wp2
      go_ret
      exact ⟨rfl, below_next HB1.out HBW.out⟩
end
end Go.Proofs.YtdoikcolkbjnfaaGreat
namespace Go.Proofs.YtdoikcolkbjnfaaGreat
set_option linter.unusedVariables false
set_option linter.unusedSimpArgs false
open Go.RowKit Go.Maps
/-- the program's inbox and the document's beside it, in one state; w0: the world that the script lies in -/
structure Pl (w0 w : World) (p q N : Nat) (I : Ib) (F G : Nat → Prop) : Prop where
  a : IbA w p N I F
  r : ∃ vo vs E, Rv w q vo vs I E ∧ ∀ b, footV q vo vs E b → G b
  ap : ∀ b, F b → ¬ G b
  oF : ∀ b, F b → w0.heap.size ≤ b
  oG : ∀ b, G b → w0.heap.size ≤ b ∧ b < w.heap.size
  bl : Below w0.heap.size w0 w
abbrev lentM (x : UnM) (g c h d : Nat) : UnM := ⟨x.u, some ⟨g, 0, none⟩, x.dn, c, some ⟨h, 0, none⟩, x.gn, d⟩
section
variable {w0 w w' : World} {p q N : Nat} {I : Ib} {F G : Nat → Prop}
theorem Pl.lt (h : Pl w0 w p q N I F G) {b : Nat} (hb : F b ∨ G b) : b < w.heap.size := hb.elim (h.a.lt b) (fun h9 => (h.oG b h9).2)
theorem Pl.kept (h : Pl w0 w p q N I F G) (hb0 : Below w0.heap.size w0 w') (hs : w.heap.size ≤ w'.heap.size) (hk : ∀ b, F b ∨ G b → w'.heap[b]? = w.heap[b]?) : Pl w0 w' p q N I F G := by
  obtain ⟨vo, vs, E, hr, hf⟩ := h.r
  exact ⟨h.a.kept hs (fun b hb => hk b (.inl hb)), ⟨vo, vs, E, hr.kept hs (fun b hb => hk b (.inr (hf b hb))), hf⟩, h.ap, h.oF, fun b hb => ⟨(h.oG b hb).1, Nat.lt_of_lt_of_le (h.oG b hb).2 hs⟩, hb0⟩
theorem Pl.below (h : Pl w0 w p q N I F G) (hb : Below w.heap.size w w') : Pl w0 w' p q N I F G := h.kept (h.bl.trans (hb.mono h.bl.size)) hb.size (fun b hf => hb.block b (h.lt hf))
/-- a change of blocks that are not theirs, all from w0's end on -/
theorem Pl.chg (h : Pl w0 w p q N I F G) {D : Nat → Prop} (hc : Chg D w w') (hD : ∀ b, D b → w.heap.size ≤ b ∨ (w0.heap.size ≤ b ∧ ¬ (F b ∨ G b))) : Pl w0 w' p q N I F G := by
  have z := h.bl.size
  refine h.kept (h.bl.trans (hc.below (fun b hb => ?_) z)) hc.size (fun b hf => hc.block b (h.lt hf) (fun h9 => ?_))
  · rcases hD b hb with h8 | h8
    · omega
    · exact h8.1
  · rcases hD b h9 with h8 | h8
    · have := h.lt hf; omega
    · exact h8.2 hf
theorem Pl.of_chg (h : Pl w0 w p q N I F G) {D : Nat → Prop} (hc : Chg D w w') (hD : ∀ b, D b → w0.heap.size ≤ b) : Below w0.heap.size w0 w' := h.bl.trans (hc.below hD h.bl.size)
/-- what a step leaves -/
def PlOut (w0 w : World) (p q N : Nat) (I' : Ib) (F G : Nat → Prop) (w' : World) : Prop := ∃ F' G', Pl w0 w' p q N I' F' G' ∧ Chg (fun b => F b ∨ G b) w w' ∧ ∀ b, F' b ∨ G' b → (F b ∨ G b) ∨ w.heap.size ≤ b
/-- both Takes, and that they answer alike -/
theorem Pl.duo (h : Pl w0 w p q N I F G) (x : UnM) (hx : UnOk w0 x) {g c h2 d B : Nat} (hl : LentAt B w x g c h2 d) (hg : ¬ F g) (hN : N < 4611686018427387904) :
    Calls Tryz.prog 15 #[.pointer (some ⟨p, 0, none⟩), .agg (lentM x g c h2 d).c] w fun e w5 => ∃ v1, e = .returned v1 ∧ Chg (fun b => F b ∨ G b) w w5 ∧
      Calls Tryz.prog 22 #[.pointer (some ⟨q, 0, none⟩), .agg x.c] w5 fun e w6 => ∃ v2, e = .returned v2 ∧ Chg (fun b => F b ∨ G b) w w6 ∧
        Calls Tryz.prog 23 #[v1, v2] w6 fun e w7 => e = .returned (.bool true) ∧ PlOut w0 w p q (N + 1) (takeI I x.u) F G w7 := by
  have hxw := hx.below h.bl
  have hrl : Rd w (some ⟨g, 0, none⟩) x.u.data := by
    obtain ⟨a1, c1, hv1, -, -, -, hr1, -⟩ := Own.val hl.bs
    simp only [Value.slice.injEq] at hv1
    rw [← hv1.1] at hr1
    have h9 := hr1.take x.u.data.length
    rw [List.take_left'] at h9
    · exact h9
    · rfl
  refine Calls.mono (take_a h.a x.u (some ⟨g, 0, none⟩) x.dn c (some ⟨h2, 0, none⟩) x.gn d hx.hn hx.hg hrl (fun _ b hb a ha e => by cases ha; subst e; exact hg hb) (fun h9 => by cases h9) hN) ?_
  rintro e w5 ⟨F', B1, ga, ba, gn, gc, bn, bc, rs, xs, rfl, hA, hI, hc, hf, hB⟩
  obtain ⟨vo, vs, E, hr, hfv⟩ := h.r
  have z0 := h.bl.size
  have zc := hc.size
  have hrt5 : ∀ b, footV q vo vs E b → b < w.heap.size := fun b hb => hr.lt hb
  have hr5 : Rv w5 q vo vs I E := hr.kept hc.size (fun b hb => hc.block b (hr.lt hb) (fun h9 => h.ap b h9 (hfv b hb)))
  have hb5 : Below w0.heap.size w0 w5 := h.of_chg hc h.oF
  have hx5 := hx.below hb5
  have hfar : 0 < x.u.data.length → ∀ b, footV q vo vs E b → ∀ a, x.da = some a → a.block ≠ b := hx.far (fun b hb => (h.oG b (hfv b hb)).1)
  refine ⟨_, rfl, hc.mono (fun b hb => .inl hb), ?_⟩
  obtain ⟨ne, hne, -⟩ := hx.ee
  obtain ⟨nse, hns, -⟩ := hx.es
  refine Calls.mono (rtake_t hr5 x.u x.da x.dn x.dc x.ga x.gn x.gc hx.hn hx.hg hx5.rd hx.dz hfar (by omega) (by omega)) ?_
  rintro e w6 ⟨vo', vs', E', B2, ga2, ba2, gn2, gc2, bn2, bc2, rs2, xs2, rfl, hA2, hR, hc2, hf2, hB2⟩
  have zc2 := hc2.size
  have hcc : Chg (fun b => F b ∨ G b) w w6 := (hc.mono (fun b hb => .inl hb)).trans hc2 (fun b hb => .inl (.inr (hfv b hb)))
  have hA6 : AnsAt w6 B1 (takeA I x.u) ga ba gn gc bn bc rs xs := hA.chg hc2 (fun b hb => by have := hrt5 b hb; omega)
  have hI6 : IbA w6 p (N + 1) (takeI I x.u) F' := hI.chg hc2 (fun b hb h9 => by
    rcases (hf b hb).1 with h8 | h8
    · exact h.ap b h8 (hfv b h9)
    · have := hrt5 b h9; omega)
  refine ⟨_, rfl, hcc, ?_⟩
  refine Calls.mono (alike_t hA6 hA2) ?_
  rintro e w7 ⟨rfl, hb7⟩
  refine ⟨rfl, F', footV q vo' vs' E', ⟨hI6.below hb7, ⟨vo', vs', E', hR.below hb7, fun b hb => hb⟩, fun b hb h9 => ?_, fun b hb => ?_, fun b hb => ⟨?_, (hR.below hb7).lt hb⟩, ?_⟩, hcc.trans (Chg.of_below (F := fun _ => False) hb7) (fun _ h9 => h9.elim), fun b hb => ?_⟩
  · have hlt := hI.lt b hb
    rcases (hf2 b h9).1 with h8 | h8
    · rcases (hf b hb).1 with h7 | h7
      · exact h.ap b h7 (hfv b h8)
      · have := hrt5 b h8; omega
    · omega
  · rcases (hf b hb).1 with h7 | h7
    · exact h.oF b h7
    · omega
  · rcases (hf2 b hb).1 with h7 | h7
    · exact (h.oG b (hfv b h7)).1
    · omega
  · exact (h.of_chg hcc (fun b hb => hb.elim (h.oF b) (fun h9 => (h.oG b h9).1))).trans (hb7.mono (by omega))
  · rcases hb with hb | hb
    · exact (hf b hb).1.imp .inl id
    · rcases (hf2 b hb).1 with h7 | h7
      · exact .inl (.inr (hfv b h7))
      · exact .inr (by omega)
theorem Pl.dec (h : Pl w0 w p q N I F G) (s : Ss) (cd : Int) (hN : N < 4611686018427387904) :
    Calls Tryz.prog 29 #[.pointer (some ⟨p, 0, none⟩), sv s, .int .i64 cd] w fun e w5 => e = .returned (.int .i64 (decE I s cd)) ∧ Chg (fun b => F b ∨ G b) w w5 ∧
      Calls Tryz.prog 45 #[.pointer (some ⟨q, 0, none⟩), sv s, .int .i64 cd] w5 fun e w6 => e = .returned (.int .i64 (decE I s cd)) ∧ PlOut w0 w p q (N + 1) (decI I s cd) F G w6 := by
  refine Calls.mono (dec_a h.a s cd hN) ?_
  rintro e w5 ⟨rfl, F', hI, hc, hf⟩
  obtain ⟨vo, vs, E, hr, hfv⟩ := h.r
  have zc := hc.size
  have z0 := h.bl.size
  have hr5 : Rv w5 q vo vs I E := hr.kept hc.size (fun b hb => hc.block b (hr.lt hb) (fun h9 => h.ap b h9 (hfv b hb)))
  refine ⟨rfl, hc.mono (fun b hb => .inl hb), ?_⟩
  refine Calls.mono (rdec_t hr5 s cd) ?_
  rintro e w6 ⟨rfl, vo', vs', E', hR, hc2, hf2⟩
  have hcc : Chg (fun b => F b ∨ G b) w w6 := (hc.mono (fun b hb => .inl hb)).trans hc2 (fun b hb => .inl (.inr (hfv b hb)))
  have hI6 : IbA w6 p (N + 1) (decI I s cd) F' := hI.chg hc2 (fun b hb h9 => by
    rcases hf b hb with h8 | h8
    · exact h.ap b h8 (hfv b h9)
    · have := hr.lt h9; omega)
  refine ⟨rfl, F', footV q vo' vs' E', ⟨hI6, ⟨vo', vs', E', hR, fun b hb => hb⟩, fun b hb h9 => ?_, fun b hb => ?_, fun b hb => ⟨?_, hR.lt hb⟩, h.of_chg hcc (fun b hb => hb.elim (h.oF b) (fun h9 => (h.oG b h9).1))⟩, hcc, fun b hb => ?_⟩
  · have hlt := hI.lt b hb
    rcases hf2 b h9 with h8 | h8
    · rcases hf b hb with h7 | h7
      · exact h.ap b h7 (hfv b h8)
      · have := hr.lt h8; omega
    · omega
  · rcases hf b hb with h7 | h7
    · exact h.oF b h7
    · omega
  · rcases hf2 b hb with h7 | h7
    · exact (h.oG b (hfv b h7)).1
    · omega
  · rcases hb with hb | hb
    · exact (hf b hb).imp .inl id
    · rcases hf2 b hb with h7 | h7
      · exact .inl (.inr (hfv b h7))
      · exact .inr (by omega)
theorem Pl.drop (h : Pl w0 w p q N I F G) (s : Ss) (hs : inS s) :
    Calls Tryz.prog 46 #[.pointer (some ⟨p, 0, none⟩), sv s] w fun e w5 => e = .returned (.bool (decide (s ∈ ks I.O))) ∧ Chg (fun b => F b ∨ G b) w w5 ∧
      Calls Tryz.prog 47 #[.pointer (some ⟨q, 0, none⟩), sv s] w5 fun e w6 => e = .returned (.bool (decide (s ∈ ks I.O))) ∧ PlOut w0 w p q (N + 1) (dropI I s) F G w6 := by
  refine Calls.mono (drop_a h.a s hs) ?_
  rintro e w5 ⟨rfl, F', hI, hc, hf⟩
  obtain ⟨vo, vs, E, hr, hfv⟩ := h.r
  have zc := hc.size
  have z0 := h.bl.size
  have hr5 : Rv w5 q vo vs I E := hr.kept hc.size (fun b hb => hc.block b (hr.lt hb) (fun h9 => h.ap b h9 (hfv b hb)))
  refine ⟨rfl, hc.mono (fun b hb => .inl hb), ?_⟩
  refine Calls.mono (rdrop_t hr5 s) ?_
  rintro e w6 ⟨rfl, vo', vs', E', hR, hc2, hf2⟩
  have hcc : Chg (fun b => F b ∨ G b) w w6 := (hc.mono (fun b hb => .inl hb)).trans hc2 (fun b hb => .inl (.inr (hfv b hb)))
  have hI6 : IbA w6 p (N + 1) (dropI I s) F' := hI.chg hc2 (fun b hb h9 => by
    rcases hf b hb with h8 | h8
    · exact h.ap b h8 (hfv b h9)
    · have := hr.lt h9; omega)
  refine ⟨rfl, F', footV q vo' vs' E', ⟨hI6, ⟨vo', vs', E', hR, fun b hb => hb⟩, fun b hb h9 => ?_, fun b hb => ?_, fun b hb => ⟨?_, hR.lt hb⟩, h.of_chg hcc (fun b hb => hb.elim (h.oF b) (fun h9 => (h.oG b h9).1))⟩, hcc, fun b hb => ?_⟩
  · have hlt := hI.lt b hb
    rcases hf2 b h9 with h8 | h8
    · rcases hf b hb with h7 | h7
      · exact h.ap b h7 (hfv b h8)
      · have := hr.lt h8; omega
    · omega
  · rcases hf b hb with h7 | h7
    · exact h.oF b h7
    · omega
  · rcases hf2 b hb with h7 | h7
    · exact (h.oG b (hfv b h7)).1
    · omega
  · rcases hb with hb | hb
    · exact (hf b hb).imp .inl id
    · rcases hf2 b hb with h7 | h7
      · exact .inl (.inr (hfv b h7))
      · exact .inr (by omega)
/-- what both show is the same -/
theorem Pl.shows (h : Pl w0 w p q N I F G) : Calls Tryz.prog 20 #[.pointer (some ⟨p, 0, none⟩), .pointer (some ⟨q, 0, none⟩)] w fun e w' => e = .returned (.bool true) ∧ Below w.heap.size w w' := by
  obtain ⟨vo, vs, E, hr, -⟩ := h.r
  obtain ⟨a1, c1, hv1, -, -, -, -⟩ := OwnG.val hr.m.ro
  obtain ⟨a2, c2, hv2, -, -, -, -⟩ := OwnG.val hr.m.rs
  subst hv1 hv2
  exact shows_t h.a (q := q) (oa := a1) (on := (mp Bg.q E).length) (oc := c1) (sa := a2) (sn := I.H.length) (sc := c2) (E := E) ⟨hr.m.hp, hr.m.ro, hr.m.rs, fun x hx _ => hr.bx x hx, hr.ap.imp (fun h1 _ _ => h1), fun x hx _ => hr.nf x hx, hr.eO, hr.ok⟩
end
end Go.Proofs.YtdoikcolkbjnfaaGreat
