import Derived.Test.YtdoikcolkbjnfaaGreatLDp
import Derived.Test.YtdoikcolkbjnfaaGreatLDn
namespace Go.Proofs.YtdoikcolkbjnfaaGreat
set_option linter.unusedVariables false
set_option linter.unusedSimpArgs false
open Go.RowKit Go.Maps
section
variable {w w' : World} {q : Nat} {vo vs : Value} {J : Ib} {E : List (Ss × Bg)}
set_option maxRecDepth 20000
set_option maxHeartbeats 6400000
theorem rseg_nfull (h : Rv w q vo vs J E) (uk : Int) (en sn : Nat) (pa ui uc : Int) (ux : List UInt8) (ucd : Int) (ul : List Rg) (da : Option Addr) (dn dc : Nat) (ga : Option Addr) (gn gc : Nat) (hn : dn = ux.length) (hx : Rd w da ux) (hdz : da = none → dc = 0) (hxl : ux.length ≤ 1024) (cn : Nat) (huc : (cn : Int) = uc) (hc1 : 1 ≤ cn) (hc2 : cn ≤ 64) (hnO : (en, sn) ∉ ks J.O) (hnh : (en, sn) ∉ ks J.H) (hep : en = J.ep) (her : putE (some (List.replicate cn [])) ui ux = 0) (hfl : J.mo ≤ E.length) : Calls Tryz.prog 52 #[.pointer (some ⟨q, 0, none⟩), sv (en, sn), unV (⟨uk, (en : Int), (sn : Int), pa, ui, uc, ux, ucd, ul⟩ : Un) da dn dc ga gn gc] w fun e w' => TkV w q vo vs E (segI J (⟨uk, (en : Int), (sn : Int), pa, ui, uc, ux, ucd, ul⟩ : Un)) (segA J (⟨uk, (en : Int), (sn : Int), pa, ui, uc, ux, ucd, ul⟩ : Un)) e w' := by
  subst huc
  obtain ⟨SP, hSP⟩ : ∃ SP, SP = putL (List.replicate cn []) ui ux := ⟨_, rfl⟩
  obtain ⟨O9, hO9⟩ : ∃ O9, O9 = pt J.mo J.O (en, sn) SP := ⟨_, rfl⟩
  have hb : boxU J (⟨uk, (en : Int), (sn : Int), pa, ui, (cn : Int), ux, ucd, ul⟩ : Un) = List.replicate cn [] := by unfold boxU; rw [show lk J.O (sesU (⟨uk, (en : Int), (sn : Int), pa, ui, (cn : Int), ux, ucd, ul⟩ : Un)) = none from lk_none.2 hnO]; show List.replicate (cn : Int).toNat [] = _; rw [Int.toNat_natCast]
  have HT : Hid (segI J (⟨uk, (en : Int), (sn : Int), pa, ui, (cn : Int), ux, ucd, ul⟩ : Un) = { J with O := O9 } ∧ segA J (⟨uk, (en : Int), (sn : Int), pa, ui, (cn : Int), ux, ucd, ul⟩ : Un) = tellA SP) := by
    have h9 : lk J.H (sesU (⟨uk, (en : Int), (sn : Int), pa, ui, (cn : Int), ux, ucd, ul⟩ : Un)) = none := lk_none.2 hnh
    have h8 : goesU J (⟨uk, (en : Int), (sn : Int), pa, ui, (cn : Int), ux, ucd, ul⟩ : Un) = true := by
      unfold goesU
      rw [hb]
      show (decide ((List.replicate cn ([] : Seg)).length = (cn : Int).toNat) && okE (putE (some (List.replicate cn [])) ui ux)) = true
      rw [her, decide_eq_true (by rw [List.length_replicate, Int.toNat_natCast])]
      decide
    unfold Hid segI segA
    rw [h9]
    simp only [h8]
    rw [hb, hO9, hSP]
    exact ⟨rfl, rfl⟩
  have HER : Hid _ := her
  have HFL : Hid _ := hfl
  have HSP : Hid _ := hSP.symm
  have HO9 : Hid _ := hO9
  clear hSP hO9 her hfl hb
  have HC1 : Hid _ := hc1
  have HC2 : Hid _ := hc2
  have HNO : Hid _ := hnO
  have HNH : Hid _ := hnh
  have HEP : Hid (((en, sn) : Ss).1 = J.ep) := hep
  have HDN : Hid _ := hn
  have HDZ : Hid _ := hdz
  obtain ⟨w1, hw1⟩ : ∃ w1, w1 = ((w.alloc (.cells #[.int .u64 (en : Int), .int .u64 (sn : Int)] tRs)).alloc (.cells (unC uk (en : Int) (sn : Int) pa ui (cn : Int) da dn dc ucd ga gn gc) tUn)).alloc (.cells #[.int .i64 0, .int .i64 0, .slice none 0 0, .slice none 0 0] tRa) := ⟨_, rfl⟩
  have hb1 : Below w.heap.size w w1 := by rw [hw1]; exact al (al (al (Below.refl _ _) _) _) _
  have hz1 : w1.heap.size = w.heap.size + 3 := by rw [hw1]; simp
  have hS1 : w1.heap[w.heap.size]? = some (.cells #[.int .u64 (en : Int), .int .u64 (sn : Int)] tRs (0, 0)) := by
    rw [hw1]
    exact ((al (al (Below.refl _ (w.alloc (.cells #[.int .u64 (en : Int), .int .u64 (sn : Int)] tRs))) _) _).block _ (by simp)).trans (heap_alloc_new _ _)
  have hU1 : w1.heap[w.heap.size + 1]? = some (.cells (unC uk (en : Int) (sn : Int) pa ui (cn : Int) da dn dc ucd ga gn gc) tUn (0, 0)) := by
    rw [hw1]
    have h9 := heap_alloc_new (w.alloc (.cells #[.int .u64 (en : Int), .int .u64 (sn : Int)] tRs)) (.cells (unC uk (en : Int) (sn : Int) pa ui (cn : Int) da dn dc ucd ga gn gc) tUn)
    rw [World.size_alloc] at h9
    exact ((al (Below.refl _ ((w.alloc (.cells #[.int .u64 (en : Int), .int .u64 (sn : Int)] tRs)).alloc (.cells (unC uk (en : Int) (sn : Int) pa ui (cn : Int) da dn dc ucd ga gn gc) tUn))) _).block _ (by simp)).trans h9
  have hA1 : w1.heap[w.heap.size + 2]? = some (.cells #[.int .i64 0, .int .i64 0, .slice none 0 0, .slice none 0 0] tRa (0, 0)) := by
    rw [hw1]
    have h9 := heap_alloc_new ((w.alloc (.cells #[.int .u64 (en : Int), .int .u64 (sn : Int)] tRs)).alloc (.cells (unC uk (en : Int) (sn : Int) pa ui (cn : Int) da dn dc ucd ga gn gc) tUn)) (.cells #[.int .i64 0, .int .i64 0, .slice none 0 0, .slice none 0 0] tRa)
    rw [World.size_alloc, World.size_alloc] at h9
    exact h9
  have hR1 := h.below hb1
  have HOP : Hid (Calls _ _ _ w1 _) := ropen_t hR1.m (en, sn) (by have := h.lenO; omega)
  have HR1 : Hid _ := hR1
  have HH : Hid _ := h
  have HB1 : Hid _ := hb1
  have HW1 : Hid (w1 = _) := hw1
  have HZ1 : Hid _ := hz1
  have HS1 : Hid _ := hS1
  have HU1 : Hid _ := hU1
  have HA1 : Hid _ := hA1
  have HXD : Hid (∀ u, Below w1.heap.size w1 u → Rd u da ux) := fun u hu => Rd.below hx (below_next hb1 hu)
  clear h hR1 hb1 hw1 hz1 hS1 hU1 hA1 hn hx hdz hnh hnO hep hc1 hc2
  go_enter Tryz.func52, Tryz.ntmps52
  go_wp2_with fail
  rw [← HW1.out]
  refine Calls.mono HOP.out ?_
  rintro e2 w2 ⟨hfd, hb2⟩
  rcases hfd with ⟨i, hi, hix, rfl⟩ | ⟨hno, rfl⟩
  · exact absurd (by rw [HH.out.ksO, ← ks_mp Bg.q, ← hix]; exact mem_ks (List.getElem_mem _)) HNO.out
  · have hs2 : w2.heap[w.heap.size]? = _ := (hb2.block _ (Array.getElem?_eq_some_iff.1 HS1.out).1).trans HS1.out
    have hs20 : w2.cell? ⟨w.heap.size, 0, none⟩ = some (.int .u64 (en : Int)) := by rw [cell_of_row _ _ _ _ _ _ hs2]; rfl
    have hs21 : w2.cell? ⟨w.heap.size, 1, none⟩ = some (.int .u64 (sn : Int)) := by rw [cell_of_row _ _ _ _ _ _ hs2]; rfl
    obtain ⟨a1, c1, hv1, -, -, -, -⟩ := OwnG.val HR1.out.m.ro
    subst hv1
    obtain ⟨n1, hn1⟩ : ∃ n1, n1 = (mp Bg.q E).length := ⟨_, rfl⟩
    rw [← hn1] at HR1
    have HHn : Hid (Rv w q (.slice a1 n1 c1) vs J E) := by have h9 := HH.out; rw [← hn1] at h9; exact h9
    have HN1 : Hid _ := hn1
    obtain ⟨wa, hwa⟩ : ∃ wa, wa = w2.alloc (.cells #[.int .u64 (en : Int), .int .u64 (sn : Int), .pointer none] KO.t) := ⟨_, rfl⟩
    have hba : Below w1.heap.size w1 wa := by rw [hwa]; exact al hb2 _
    have hta : wa.heap[w2.heap.size]? = some (.cells #[.int .u64 (en : Int), .int .u64 (sn : Int), .pointer none] KO.t (0, 0)) := by rw [hwa]; exact heap_alloc_new _ _
    have HNW : Hid (Calls _ _ _ wa _) := qnew (cn : Int) wa
    have hUa := (hba.block _ (Array.getElem?_eq_some_iff.1 HU1.out).1).trans HU1.out
    have hua := unBox hUa
    have HWA : Hid (wa = _) := hwa
    have HBA : Hid _ := hba
    have HTA : Hid _ := hta
    have HZ2a : Hid (w.heap.size + 3 ≤ w2.heap.size) := by unfold Hid; rw [← HZ1.out]; exact hb2.size
    have HZ12 : Hid (w1.heap.size ≤ w2.heap.size) := hb2.size
    have hu5 : ∀ o, (w2.alloc o).cell? ⟨w.heap.size + 1, 5, none⟩ = some (.int .i64 (cn : Int)) := fun o => by
      have h9 := ((al hb2 o).block _ (Array.getElem?_eq_some_iff.1 HU1.out).1).trans HU1.out
      exact (unBox h9).2.2.2.2.2.1
    clear hb2 hs2 hn1 hba hta hUa hwa hno hua
    go_wp2_with fail
    rw [← HWA.out]
    refine Calls.mono HNW.out ?_
    rintro e3 wb ⟨qv, Gb, rfl, -, hbb, hGb, hbbb⟩
    rw [newSt_n HC1.out HC2.out] at hbb
    obtain ⟨bq, hbq⟩ := hbb.ptr
    subst hbq
    have hla : w2.heap.size < wa.heap.size := (Array.getElem?_eq_some_iff.1 HTA.out).1
    have htb := (hbbb.block _ hla).trans HTA.out
    have tb2 : wb.cell? ⟨w2.heap.size, 2, none⟩ = some (.pointer none) := by rw [cell_of_row _ _ _ _ _ _ htb]; rfl
    have fb2 : wb.frozen? ⟨w2.heap.size, 2, none⟩ = false := by simp [World.frozen?, htb]
    obtain ⟨w3, hw3⟩ : ∃ w3, w3 = wb.setCell ⟨w2.heap.size, 2, none⟩ (.pointer (some ⟨bq, 0, none⟩)) := ⟨_, rfl⟩
    have ht3 : w3.heap[w2.heap.size]? = some (.cells #[.int .u64 (en : Int), .int .u64 (sn : Int), .pointer (some ⟨bq, 0, none⟩)] KO.t (0, 0)) := by rw [hw3]; exact heap_setCell_same wb w2.heap.size 2 _ _ _ htb
    have hb3 : Below w1.heap.size w1 w3 := by rw [hw3]; exact (below_next HBA.out hbbb).setCell (p := ⟨w2.heap.size, 2, none⟩) HZ12.out _
    have hG3 : ∀ c, Gb c → w2.heap.size < c := fun c hc => by have := hGb c hc; omega
    have hbx3 : RBx w3 (some ⟨bq, 0, none⟩) (some (List.replicate cn [])) Gb := by
      rw [hw3]
      exact hbb.kept (by simp) (fun c hc => Below.heap_setCell _ _ _ _ (fun e => by have h9 := hG3 c hc; simp only at e; omega))
    have HW3 : Hid (w3 = _) := hw3
    have HB3 : Hid _ := hb3
    have HT3 : Hid _ := ht3
    have HG3 : Hid _ := hG3
    have HX3 : Hid _ := hbx3
    have HQC : Hid (∀ u, Below w3.heap.size w3 u → Calls Tryz.prog 76 #[.pointer (some ⟨bq, 0, none⟩)] u fun e w' => e = .returned (.int .i64 (cn : Int)) ∧ w' = u) := fun u hu => by
      have h9 := qcount (HX3.out.below hu)
      have e9 : cntS (some (List.replicate cn ([] : Seg))) = cn := List.length_replicate
      rw [e9] at h9
      exact h9
    have hk3 : ∀ u, Below w3.heap.size w3 u → u.cell? ⟨w2.heap.size, 2, none⟩ = some (.pointer (some ⟨bq, 0, none⟩)) ∧ u.cell? ⟨w.heap.size + 1, 5, none⟩ = some (.int .i64 (cn : Int)) := fun u hu => by
      have h9 := (hu.block _ (Array.getElem?_eq_some_iff.1 HT3.out).1).trans HT3.out
      have h8 := ((below_next HB3.out hu).block _ (Array.getElem?_eq_some_iff.1 HU1.out).1).trans HU1.out
      exact ⟨by rw [cell_of_row _ _ _ _ _ _ h9]; rfl, (unBox h8).2.2.2.2.2.1⟩
    clear hbb hGb hbbb hla htb hw3 ht3 hb3 hG3 hbx3 hs20 hs21 hu5
    go_upto_region 6 with fail
    rw [← HW3.out]
    clear tb2 fb2
    refine wp_region_held_drew (S := (fun u => Below w3.heap.size w3 u)) (by kernel_rfl) (by first | exact (Below.refl _ _).drew | assumption) (fun hHeld => ?_)
    refine take_at (i := 0) 33 (v := ?_) rfl rfl (by kernel_rfl) (by kernel_rfl) (by kernel_rfl) (fun _ _ _ h => h) (by rfl) ?_ hHeld ?_
    rotate_left
    · (intro w hSw; (try dsimp only at hSw); go_simp; try with_reducible rfl)
    simp only [Act.put, List.setIfInBounds_toArray, List.set_cons_zero, List.set_cons_succ]
    refine take_at (i := 1) 34 (v := ?_) rfl rfl (by kernel_rfl) (by kernel_rfl) (by kernel_rfl) (fun _ _ _ h => h) (by rfl) ?_ hHeld ?_
    rotate_left
    · (intro w hSw; (try dsimp only at hSw); go_simp; try with_reducible rfl)
    simp only [Act.put, List.setIfInBounds_toArray, List.set_cons_zero, List.set_cons_succ]
    refine take_at (i := 3) 36 (v := ?_) rfl rfl (by kernel_rfl) (by kernel_rfl) (by kernel_rfl) (fun _ _ _ h => h) (by rfl) ?_ hHeld ?_
    rotate_left
    · (intro w hSw; (try dsimp only at hSw); go_simp; try with_reducible rfl)
    simp only [Act.put, List.setIfInBounds_toArray, List.set_cons_zero, List.set_cons_succ]
    refine take_at (i := 4) 37 (v := ?_) rfl rfl (by kernel_rfl) (by kernel_rfl) (by kernel_rfl) (fun _ _ _ h => h) (by rfl) ?_ hHeld ?_
    rotate_left
    · (intro w hSw; (try dsimp only at hSw); go_simp; try with_reducible rfl)
    simp only [Act.put, List.setIfInBounds_toArray, List.set_cons_zero, List.set_cons_succ]
    refine run_at (i := 2) rfl (by kernel_rfl) (by rfl) (fun K hK => ?_)
    simp only [List.getElem_toArray, List.getElem_cons_zero, List.getElem_cons_succ]
    go_simp
    (go_at_call 76; refine Calls.mono (HQC.out _ (by assumption)) ?_; rintro e u4 ⟨rfl, hu4⟩; subst hu4)
    go_wp2_with fail
    refine hK.out _ _ (by first | exact (Below.refl _ _).drew | assumption) ?_
    clear hK K
    intro hHeld2
    clear hHeld
    have hHeld := hHeld2
    clear hHeld2
    try simp only [Act.put, List.setIfInBounds_toArray, List.set_cons_zero, List.set_cons_succ]
    refine take_at (i := 5) 38 (v := ?_) rfl rfl (by kernel_rfl) (by kernel_rfl) (by kernel_rfl) (fun _ _ _ h => h) (by rfl) ?_ hHeld ?_
    rotate_left
    · (intro w hSw; (try dsimp only at hSw); go_simp; try with_reducible rfl)
    simp only [Act.put, List.setIfInBounds_toArray, List.set_cons_zero, List.set_cons_succ]
    refine wpAnyH_done (by kernel_rfl) ?_ _
    obtain ⟨w4, hw4⟩ : ∃ w4, w4 = w3.drew := ⟨_, rfl⟩
    have hb4 : Below w1.heap.size w1 w4 := by rw [hw4]; exact below_next HB3.out (Below.refl _ _).drew
    rw [← hw4]
    have hb34 : Below w3.heap.size w3 w4 := by rw [hw4]; exact (Below.refl _ _).drew
    have HB4 : Hid (Below w.heap.size w w4) := below_next HB1.out hb4
    have HA4 : Hid _ := (hb4.block _ (Array.getElem?_eq_some_iff.1 HA1.out).1).trans HA1.out
    have HU4 : Hid _ := (hb4.block _ (Array.getElem?_eq_some_iff.1 HU1.out).1).trans HU1.out
    have HT4 : Hid _ := (hb34.block _ (Array.getElem?_eq_some_iff.1 HT3.out).1).trans HT3.out
    have HX4 : Hid _ := HX3.out.below hb34
    have HPU : Hid (Calls _ _ _ w4 _) := qput HX4.out ui da dn dc ux HDN.out (HXD.out w4 hb4) HDZ.out (by have := HDN.out; omega)
    have hu4 := unBox HU4.out
    have ht4 : w4.cell? ⟨w2.heap.size, 2, none⟩ = some (.pointer (some ⟨bq, 0, none⟩)) := by rw [cell_of_row _ _ _ _ _ _ HT4.out]; rfl
    have HZ2 : Hid (w.heap.size + 3 ≤ w2.heap.size ∧ w2.heap.size < w4.heap.size) := ⟨HZ2a.out, (Array.getElem?_eq_some_iff.1 HT4.out).1⟩
    clear hb4 hw4 hb34 hk3 hHeld
    go_wp2_with fail
    refine Calls.mono HPU.out ?_
    rintro e5 w5 ⟨rfl, hl5⟩
    obtain ⟨F5, hb5, hf5⟩ := hl5.ex
    have hc5 := hl5.chg
    have HB5 : Hid (Below w.heap.size w w5) := HB4.out.trans (hc5.below (B := w.heap.size) (fun c hc => by have := HG3.out c hc; have := HZ2a.out; omega) HB4.out.size)
    have HA5 : Hid _ := (hc5.block _ (Array.getElem?_eq_some_iff.1 HA4.out).1 (fun h9 => by have := HG3.out _ h9; have := HZ2a.out; omega)).trans HA4.out
    have HT5 : Hid _ := (hc5.block _ (Array.getElem?_eq_some_iff.1 HT4.out).1 (fun h9 => by have := HG3.out _ h9; omega)).trans HT4.out
    have HF5 : Hid (∀ c, F5 c → w.heap.size + 3 ≤ c) := fun c hc => by
      have h7 := HZ2.out
      rcases hf5 c hc with h9 | h9
      · have := HG3.out c h9; omega
      · omega
    obtain ⟨er, her⟩ : ∃ er, er = putE (some (List.replicate cn [])) ui ux := ⟨_, rfl⟩
    rw [← her]
    have h0 : er = 0 := by rw [her]; exact HER.out
    have h0b : (er != 0) = false := by rw [h0]; decide
    have hS5 : putS (some (List.replicate cn [])) ui ux = some SP := by rw [putS_L, HSP.out]
    rw [hS5] at hb5
    have HX5 : Hid _ := hb5
    obtain ⟨mo, hmo⟩ : ∃ mo, mo = J.mo := ⟨_, rfl⟩
    have HMO : Hid _ := hmo
    have hm5 := (HHn.out.below HB5.out).m
    rw [← hmo] at hm5
    have hk13 : w5.cell? ⟨q, 3, none⟩ = some (.slice a1 n1 c1) ∧ w5.cell? ⟨q, 0, none⟩ = some (.int .i64 (mo : Int)) := ⟨hm5.cell.2.2.2.1, hm5.cell.1⟩
    have hge : (mo : Int) ≤ (n1 : Int) := by rw [HN1.out, hmo, len_mp]; have := HFL.out; omega
    clear hl5 hb5 hf5 hc5 her hu4 ht4 h0 hS5 hm5 hmo
    go_wp2_with fail
    refine wp_region_noPanic ?_
    refine wp_region_held_drew (S := (fun u => u.cell? ⟨q, 3, none⟩ = some (.slice a1 n1 c1) ∧ u.cell? ⟨q, 0, none⟩ = some (.int .i64 (mo : Int)))) (by kernel_rfl) (by first | exact hk13 | assumption) (fun hHeld => ?_)
    refine take_at (i := 0) 59 (v := ?_) rfl rfl (by kernel_rfl) (by kernel_rfl) (by kernel_rfl) (fun _ _ _ h => h) (by rfl) ?_ hHeld ?_
    rotate_left
    · (intro w hSw; (try dsimp only at hSw); go_simp; try with_reducible rfl)
    simp only [Act.put, List.setIfInBounds_toArray, List.set_cons_zero, List.set_cons_succ]
    refine take_at (i := 1) 60 (v := ?_) rfl rfl (by kernel_rfl) (by kernel_rfl) (by kernel_rfl) (fun _ _ _ h => h) (by rfl) ?_ hHeld ?_
    rotate_left
    · (intro w hSw; (try dsimp only at hSw); go_simp; try with_reducible rfl)
    simp only [Act.put, List.setIfInBounds_toArray, List.set_cons_zero, List.set_cons_succ]
    refine take_at (i := 2) 61 (v := ?_) rfl rfl (by kernel_rfl) (by kernel_rfl) (by kernel_rfl) (fun _ _ _ h => h) (by rfl) ?_ hHeld ?_
    rotate_left
    · (intro w hSw; (try dsimp only at hSw); go_simp; try with_reducible rfl)
    simp only [Act.put, List.setIfInBounds_toArray, List.set_cons_zero, List.set_cons_succ]
    refine take_at (i := 3) 62 (v := ?_) rfl rfl (by kernel_rfl) (by kernel_rfl) (by kernel_rfl) (fun _ _ _ h => h) (by rfl) ?_ hHeld ?_
    rotate_left
    · (intro w hSw; (try dsimp only at hSw); go_simp; try with_reducible rfl)
    simp only [Act.put, List.setIfInBounds_toArray, List.set_cons_zero, List.set_cons_succ]
    refine take_at (i := 4) 63 (v := ?_) rfl rfl (by kernel_rfl) (by kernel_rfl) (by kernel_rfl) (fun _ _ _ h => h) (by rfl) ?_ hHeld ?_
    rotate_left
    · (intro w hSw; (try dsimp only at hSw); go_simp; try with_reducible rfl)
    simp only [Act.put, List.setIfInBounds_toArray, List.set_cons_zero, List.set_cons_succ]
    refine take_at (i := 5) 64 (v := ?_) rfl rfl (by kernel_rfl) (by kernel_rfl) (by kernel_rfl) (fun _ _ _ h => h) (by rfl) ?_ hHeld ?_
    rotate_left
    · (intro w hSw; (try dsimp only at hSw); go_simp; try with_reducible rfl)
    simp only [Act.put, List.setIfInBounds_toArray, List.set_cons_zero, List.set_cons_succ]
    refine take_at (i := 6) 65 (v := ?_) rfl rfl (by kernel_rfl) (by kernel_rfl) (by kernel_rfl) (fun _ _ _ h => h) (by rfl) ?_ hHeld ?_
    rotate_left
    · (intro w hSw; (try dsimp only at hSw); go_simp; try with_reducible rfl)
    simp only [Act.put, List.setIfInBounds_toArray, List.set_cons_zero, List.set_cons_succ]
    refine take_at (i := 7) 66 (v := ?_) rfl rfl (by kernel_rfl) (by kernel_rfl) (by kernel_rfl) (fun _ _ _ h => h) (by rfl) ?_ hHeld ?_
    rotate_left
    · (intro w hSw; (try dsimp only at hSw); go_simp; try with_reducible rfl)
    simp only [Act.put, List.setIfInBounds_toArray, List.set_cons_zero, List.set_cons_succ]
    refine take_at (i := 8) 67 (v := ?_) rfl rfl (by kernel_rfl) (by kernel_rfl) (by kernel_rfl) (fun _ _ _ h => h) (by rfl) ?_ hHeld ?_
    rotate_left
    · (intro w hSw; (try dsimp only at hSw); go_simp; try with_reducible rfl)
    simp only [Act.put, List.setIfInBounds_toArray, List.set_cons_zero, List.set_cons_succ]
    refine take_at (i := 9) 68 (v := ?_) rfl rfl (by kernel_rfl) (by kernel_rfl) (by kernel_rfl) (fun _ _ _ h => h) (by rfl) ?_ hHeld ?_
    rotate_left
    · (intro w hSw; (try dsimp only at hSw); go_simp; try with_reducible rfl)
    simp only [Act.put, List.setIfInBounds_toArray, List.set_cons_zero, List.set_cons_succ]
    refine wpAnyH_done (by kernel_rfl) ?_ _
    refine NoPanic.normal ?_
    obtain ⟨wc, hwc⟩ : ∃ wc, wc = w5.drew := ⟨_, rfl⟩
    have hbc : Below w5.heap.size w5 wc := by rw [hwc]; exact (Below.refl _ _).drew
    rw [← hwc]
    have HBC : Hid (Below w.heap.size w wc) := below_next HB5.out hbc
    have HAC : Hid _ := (hbc.block _ (Array.getElem?_eq_some_iff.1 HA5.out).1).trans HA5.out
    have HTC : Hid _ := (hbc.block _ (Array.getElem?_eq_some_iff.1 HT5.out).1).trans HT5.out
    have HXC : Hid _ := HX5.out.below hbc
    clear hbc hwc hHeld hk13
    have HOU : Hid (Calls _ _ _ wc _) := rout_t (HHn.out.below HBC.out).m 0 (by rw [len_mp]; have := HFL.out; have := HHn.out.ok.o0; omega) (by have := HHn.out.lenO; omega)
    go_wp2_with fail
    refine Calls.mono HOU.out ?_
    rintro e6 w6 ⟨rfl, v6', hm6', hf6', hc6'⟩
    have HSX : Hid (SgX w w6 q w2.heap.size (.slice a1 n1 c1) vs J E (en, sn) bq SP O9) := by rw [HO9.out]; exact SgX.full HHn.out HBC.out HNO.out HAC.out HTC.out HZ2a.out HXC.out HF5.out HFL.out hm6' hf6' hc6' HEP.out HNH.out
    clear hm6' hf6' hc6'
    obtain ⟨v6, E0, bF, F6, hsg, hsub, hdj, hbF, hO, hok, hl0⟩ := HSX.out.ex
    obtain ⟨a6, c6, hv6, -, -, -, -⟩ := OwnG.val hsg.m.ro
    obtain ⟨X6, hX6⟩ : ∃ X6, X6 = mp Bg.q E0 := ⟨_, rfl⟩
    obtain ⟨n6, hn6⟩ : ∃ n6, n6 = X6.length := ⟨_, rfl⟩
    rw [← hX6, ← hn6] at hv6
    subst hv6
    have hm6 := hsg.m
    rw [← hX6] at hm6
    have hnl : n6 ≤ 64 := by rw [hn6, hX6, len_mp]; exact hl0
    have HOW : Hid (∀ u, Below w6.heap.size w6 u → OwnG KO u 0 (.slice a6 n6 c6) X6) := fun u hu => OwnG.below hm6.ro hu
    have HCQ : Hid (∀ u, Below w6.heap.size w6 u → u.cell? ⟨q, 3, none⟩ = some (.slice a6 n6 c6)) := fun u hu => (hm6.below hu).cell.2.2.2.1
    have HCS : Hid (∀ u, Below w6.heap.size w6 u → _) := fun u hu => opK ((hu.block _ (Array.getElem?_eq_some_iff.1 hsg.o).1).trans hsg.o)
    have HQ : Hid (∀ u u', Below w6.heap.size w6 u → u.grownBy u' (Value.slice a6 n6 c6).ownBlock → u'.cell? ⟨q, 3, none⟩ = some (.slice a6 n6 c6) ∧ u'.frozen? ⟨q, 3, none⟩ = false) := fun u u' hu hg => by
      have h9 := hm6.below hu
      have h8 : u'.heap[q]? = u.heap[q]? := hg.block q (Array.getElem?_eq_some_iff.1 h9.hp).1 (fun e => h9.oq e.symm)
      exact ⟨(World.cell?_of_block h8).trans h9.cell.2.2.2.1, (World.frozen?_of_block h8).trans (h9.fz 3)⟩
    have HPH : Hid (∀ (u u' : World) (gz nz cz : Nat), Below w6.heap.size w6 u → OwnG KO u' 0 (.slice (some ⟨gz, 0, none⟩) nz cz) (X6 ++ [((en, sn), bq)]) → u.grownBy u' (Value.slice a6 n6 c6).ownBlock → ((Value.slice a6 n6 c6).ownBlock = some gz ∨ u.heap.size ≤ gz) → SgU w (u'.setCell ⟨q, 3, none⟩ (.slice (some ⟨gz, 0, none⟩) nz cz)) q w2.heap.size (.slice a1 n1 c1) vs J E O9 bq SP) := fun u u' gz nz cz hb ho hg ha => hsg.push HHn.out hsub hdj hbF hO hok hb (by rw [← hX6]; exact ho) hg ha
    have HLE : Hid (n6 = X6.length) := hn6
    clear hsg hsub hdj hbF hO hok hl0 hX6 hn6 hm6
    go_wp2_with fail
    refine wp_region_noPanic ?_
    refine wp_region_late_drew (S := (fun u => Below w6.heap.size w6 u)) (X := [7, 8, 9, 10]) (by kernel_rfl) (by with_reducible first | exact (Below.refl _ _).drew | exact al (Below.refl _ _).drew _ | exact al hHeld _ | exact (al (Below.refl _ _) _).drew) (fun hHeld => ?_)
    refine take_atA (i := 0) 71 (v := ?_) rfl rfl (by kernel_rfl) (by kernel_rfl) (by kernel_rfl) (by decide) (fun _ _ _ h => h) (by rfl) ?_ hHeld ?_
    rotate_left
    · (intro w; go_simp; try with_reducible rfl)
    simp only [Act.put, List.setIfInBounds_toArray, List.set_cons_zero, List.set_cons_succ]
    refine take_atA (i := 1) 72 (v := ?_) rfl rfl (by kernel_rfl) (by kernel_rfl) (by kernel_rfl) (by decide) (fun _ _ _ h => h) (by rfl) ?_ hHeld ?_
    rotate_left
    · (intro w; go_simp; try with_reducible rfl)
    simp only [Act.put, List.setIfInBounds_toArray, List.set_cons_zero, List.set_cons_succ]
    refine take_atA (i := 2) 73 (v := ?_) rfl rfl (by kernel_rfl) (by kernel_rfl) (by kernel_rfl) (by decide) (fun _ _ _ h => h) (by rfl) ?_ hHeld ?_
    rotate_left
    · (intro w; go_simp; try with_reducible rfl)
    simp only [Act.put, List.setIfInBounds_toArray, List.set_cons_zero, List.set_cons_succ]
    refine take_atA (i := 3) 74 (v := ?_) rfl rfl (by kernel_rfl) (by kernel_rfl) (by kernel_rfl) (by decide) (fun _ _ _ h => h) (by rfl) ?_ hHeld ?_
    rotate_left
    · (intro w; go_simp; try with_reducible rfl)
    simp only [Act.put, List.setIfInBounds_toArray, List.set_cons_zero, List.set_cons_succ]
    refine take_atL (i := 4) 75 (v := .slice a6 n6 c6) rfl rfl (by kernel_rfl) (by kernel_rfl) (by kernel_rfl) (by kernel_rfl) (fun _ _ _ h => h) (by rfl) ?_ hHeld ?_
    · (intro w hSw; have hc9 := HCQ.out _ hSw; go_simp; try with_reducible rfl)
    simp only [Act.put, List.setIfInBounds_toArray, List.set_cons_zero, List.set_cons_succ]
    refine take_atL (i := 5) 76 (v := .agg #[.int .u64 (en : Int), .int .u64 (sn : Int), .pointer (some ⟨bq, 0, none⟩)]) rfl rfl (by kernel_rfl) (by kernel_rfl) (by kernel_rfl) (by kernel_rfl) (fun _ _ _ h => h) (by rfl) ?_ hHeld ?_
    · (intro w hSw; have hc9 := HCS.out _ hSw; go_simp; try with_reducible rfl)
    simp only [Act.put, List.setIfInBounds_toArray, List.set_cons_zero, List.set_cons_succ]
    refine run_atL (i := 6) rfl (by kernel_rfl) (by rfl) (fun K hK => ?_)
    simp only [List.getElem_toArray, List.getElem_cons_zero, List.getElem_cons_succ]
    go_simp
    go_wp2_with fail
    refine hK.out _ _ (by with_reducible first | exact (Below.refl _ _).drew | exact al (Below.refl _ _).drew _ | exact al hHeld _ | exact (al (Below.refl _ _) _).drew) ?_
    clear hK K
    intro hHeld2
    clear hHeld
    have hHeld := hHeld2
    clear hHeld2
    try simp only [Act.put, List.setIfInBounds_toArray, List.set_cons_zero, List.set_cons_succ]
    refine run_atLate (i := 7) rfl (by kernel_rfl) (by decide) (by rfl) (fun K hK => ?_)
    simp only [List.getElem_toArray, List.getElem_cons_zero, List.getElem_cons_succ]
    (refine wpo_appG1 (K := KO) _ _ rfl 0 (.slice a6 n6 c6) X6 ((en, sn), bq) n6 HLE.out ⟨w6.heap.size, 0, none⟩ 1 rfl (HOW.out _ (al (Below.refl _ _).drew _)) rfl (rdG_lit (K := KO) (heap_alloc_new _ _) rfl) (by show (n6 + 1) * 24 ≤ _; omega) (by simp only [maxLen]; omega) (Nat.zero_le _) ?_; intro g8 c8 w8 hown8 hg8 hat8; obtain ⟨hcq, hfq⟩ := HQ.out _ _ (al (Below.refl _ _).drew _) hg8; have HO8 : Hid _ := hown8; have HG8 : Hid _ := hg8; have HT8 : Hid _ := hat8; clear hown8 hg8 hat8)
    refine hK.out _ _ ?_
    clear hK K
    try simp only [Act.put, List.setIfInBounds_toArray, List.set_cons_zero, List.set_cons_succ]
    refine val_atLate (i := 8) 79 (v := ?_) rfl rfl (by kernel_rfl) (by decide) (by rfl) ?_ ?_
    rotate_left
    · (go_simp; try with_reducible rfl)
    simp only [Act.put, List.setIfInBounds_toArray, List.set_cons_zero, List.set_cons_succ]
    refine val_atLate (i := 9) 80 (v := ?_) rfl rfl (by kernel_rfl) (by decide) (by rfl) ?_ ?_
    rotate_left
    · (go_simp; try with_reducible rfl)
    simp only [Act.put, List.setIfInBounds_toArray, List.set_cons_zero, List.set_cons_succ]
    refine run_atLate (i := 10) rfl (by kernel_rfl) (by decide) (by rfl) (fun K hK => ?_)
    simp only [List.getElem_toArray, List.getElem_cons_zero, List.getElem_cons_succ]
    go_simp
    go_wp2_with fail
    refine hK.out _ _ ?_
    clear hK K
    try simp only [Act.put, List.setIfInBounds_toArray, List.set_cons_zero, List.set_cons_succ]
    refine doneL (by kernel_rfl) ?_ _
    refine NoPanic.normal ?_
    have HU8 : Hid (Below w6.heap.size w6 (w6.drew.alloc (.cells #[.int .u64 (en : Int), .int .u64 (sn : Int), .pointer (some ⟨bq, 0, none⟩)] KO.t))) := al (Below.refl _ _).drew _
    have hsu := HPH.out _ _ _ _ _ HU8.out HO8.out HG8.out HT8.out
    obtain ⟨w9, hw9⟩ : ∃ w9, w9 = w8.setCell ⟨q, 3, none⟩ (.slice (some ⟨g8, 0, none⟩) (n6 + 1) c8) := ⟨_, rfl⟩
    rw [← hw9] at hsu ⊢
    have ht9 := hsu.o
    obtain ⟨F9, hbx9⟩ := hsu.bx
    have HQW : Hid (Calls _ _ _ w9 _) := qwhole hbx9
    have HQG : Hid (∀ u, Below w9.heap.size w9 u → Calls _ _ _ u _) := fun u hu => qgot (hbx9.below hu)
    have HXL : Hid _ := wholeX_leR hbx9
    have HSU : Hid _ := hsu
    have HTT : Hid (∀ u, Below w9.heap.size w9 u → u.cell? ⟨w2.heap.size, 2, none⟩ = some (.pointer (some ⟨bq, 0, none⟩))) := fun u hu => (hu.cell (World.block_lt_of_cell? _ _ ht9)).trans ht9
    clear hsu hbx9 hw9 hcq hfq
    go_wp2_with fail
    refine Calls.mono HQW.out ?_
    rintro e10 w10 ⟨u10, rfl, hown10, hb10⟩
    obtain ⟨ao, cap, rfl, -, -, -, -, -⟩ := Own.val hown10
    obtain ⟨N, hN⟩ : ∃ N, N = (wholeX (some SP)).length := ⟨_, rfl⟩
    rw [← hN]
    have hA10 := (hb10.block _ (Array.getElem?_eq_some_iff.1 HSU.out.an).1).trans HSU.out.an
    have HO10 : Hid (Own w10 w9.heap.size (.slice ao N cap) (wholeX (some SP))) := by rw [hN]; exact hown10
    have HB10 : Hid _ := hb10
    by_cases hwh : wholeB (some SP) = true
    · rw [hwh]
      obtain ⟨b0, b1, b2, b3, f0, f1, f2, f3⟩ := ansCellR hA10
      have HWH : Hid _ := hwh
      clear hown10 hb10 hN hA10 hwh ht9
      go_wp2
      have hST : Chg (fun b => b = w.heap.size + 2) w10 ((((w10.setCell ⟨w.heap.size + 2, 0, none⟩ (.int .i64 4)).setCell ⟨w.heap.size + 2, 1, none⟩ (.int .i64 0)).setCell ⟨w.heap.size + 2, 2, none⟩ (.slice none 0 0)).setCell ⟨w.heap.size + 2, 3, none⟩ (.slice ao N cap)) := Chg.of_grown ((((gset1 w10 (w.heap.size + 2) 0 _).trans' (gset1 _ (w.heap.size + 2) 1 _)).trans' (gset1 _ (w.heap.size + 2) 2 _)).trans' (gset1 _ (w.heap.size + 2) 3 _)) (fun b e => (Option.some.inj e).symm)
      exact bodyPost_ret (v := ansV ⟨4, 0, some SP⟩ none ao 0 0 N cap) (by simp [results, Tryz.results52, go_sem, b0, b1, b2, b3, f0, f1, f2, f3]) rfl (by rw [HT.out.1, HT.out.2, tell_w HWH.out]; have h9 := HSU.out.fin (rs := []) HB10.out hST ⟨OwnR.nil _ _, HO10.out, ansR_w HWH.out, by simp, HXL.out⟩; rw [HN1.out] at h9; exact h9)
    · rw [show wholeB (some SP) = false by simpa using hwh]
      have ht10 := HTT.out w10 hb10
      have HG10 : Hid (Calls _ _ _ w10 _) := HQG.out w10 hb10
      have HWH : Hid _ := hwh
      have HA10 : Hid _ := hA10
      clear hown10 hb10 hN hA10 hwh ht9
      go_wp2_with fail
      refine Calls.mono HG10.out ?_
      rintro e11 w11 ⟨v11, rs, rfl, hown11, hgot, hlen, hb11⟩
      obtain ⟨ga', gc', rfl, -, -, -, -, -⟩ := OwnR.val hown11
      have hA11 := (hb11.block _ (Array.getElem?_eq_some_iff.1 HA10.out).1).trans HA10.out
      obtain ⟨b0, b1, b2, b3, f0, f1, f2, f3⟩ := ansCellR hA11
      obtain ⟨M, hM⟩ : ∃ M, M = rs.length := ⟨_, rfl⟩
      rw [← hM]
      have HO11 : Hid (OwnR w11 w9.heap.size (.slice ga' M gc') rs) := by rw [hM]; exact OwnR.base hown11 HB10.out.size
      have HGT : Hid _ := hgot
      have HL : Hid _ := hlen
      have HB11 : Hid (Below w9.heap.size w9 w11) := below_next HB10.out hb11
      clear hown11 hgot hlen hb11 hM hA11 ht10
      go_wp2
      have hST : Chg (fun b => b = w.heap.size + 2) w11 ((((w11.setCell ⟨w.heap.size + 2, 0, none⟩ (.int .i64 3)).setCell ⟨w.heap.size + 2, 1, none⟩ (.int .i64 0)).setCell ⟨w.heap.size + 2, 2, none⟩ (.slice ga' M gc')).setCell ⟨w.heap.size + 2, 3, none⟩ (.slice none 0 0)) := Chg.of_grown ((((gset1 w11 (w.heap.size + 2) 0 _).trans' (gset1 _ (w.heap.size + 2) 1 _)).trans' (gset1 _ (w.heap.size + 2) 2 _)).trans' (gset1 _ (w.heap.size + 2) 3 _)) (fun b e => (Option.some.inj e).symm)
      exact bodyPost_ret (v := ansV ⟨3, 0, some SP⟩ ga' none M gc' 0 0) (by simp [results, Tryz.results52, go_sem, b0, b1, b2, b3, f0, f1, f2, f3]) rfl (by rw [HT.out.1, HT.out.2, tell_n HWH.out]; have h9 := HSU.out.fin (xs := []) HB11.out hST ⟨HO11.out, World.ownsRow_nil _ _ _ _, ansR_n HWH.out HGT.out, HL.out, by simp⟩; rw [HN1.out] at h9; exact h9)
end
end Go.Proofs.YtdoikcolkbjnfaaGreat
namespace Go.Proofs.YtdoikcolkbjnfaaGreat
set_option linter.unusedVariables false
set_option linter.unusedSimpArgs false
open Go.RowKit Go.Maps
theorem putE_new {n : Nat} {i : Int} {xs : Seg} (h : okE (putE (some (List.replicate n [])) i xs) = true) : putE (some (List.replicate n [])) i xs = 0 := by
  unfold putE at h ⊢
  simp only at h ⊢
  by_cases h1 : i < 0 ∨ ((List.replicate n ([] : Seg)).length : Int) ≤ i ∨ xs.length = 0 ∨ 1024 < xs.length
  · rw [if_pos h1] at h
    exact absurd h (by decide)
  · rw [if_neg h1] at h ⊢
    have h2 : ((List.replicate n ([] : Seg))[i.toNat]?.getD []).length = 0 := by
      rw [List.getElem?_replicate]
      split <;> rfl
    rw [if_pos h2] at h ⊢
    by_cases h3 : fitS ((List.replicate n ([] : Seg)).set i.toNat xs) = true
    · rw [if_pos h3]
    · rw [if_neg h3] at h
      exact absurd h (by decide)
section
variable {w w' : World} {q : Nat} {vo vs : Value} {J : Ib} {E : List (Ss × Bg)}
theorem rseg_t (h : Rv w q vo vs J E) (uk : Int) (en sn : Nat) (pa ui uc : Int) (ux : List UInt8) (ucd : Int) (ul : List Rg) (da : Option Addr) (dn dc : Nat) (ga : Option Addr) (gn gc : Nat) (hn : dn = ux.length) (hx : Rd w da ux) (hdz : da = none → dc = 0) (hxl : ux.length ≤ 1024) (hu1 : 1 ≤ uc) (hu2 : uc ≤ 64) (hnh : (en, sn) ∉ ks J.H) (hep : en = J.ep) : Calls Tryz.prog 52 #[.pointer (some ⟨q, 0, none⟩), sv (en, sn), unV (⟨uk, (en : Int), (sn : Int), pa, ui, uc, ux, ucd, ul⟩ : Un) da dn dc ga gn gc] w fun e w' => TkV w q vo vs E (segI J (⟨uk, (en : Int), (sn : Int), pa, ui, uc, ux, ucd, ul⟩ : Un)) (segA J (⟨uk, (en : Int), (sn : Int), pa, ui, uc, ux, ucd, ul⟩ : Un)) e w' := by
  cases hO : lk J.O (en, sn) with
  | some S =>
    by_cases hc : (S.length : Int) = uc
    · cases hok : okE (putE (some S) ui ux) with
      | true =>
        have h9 : putE (some S) ui ux = 0 ∨ putE (some S) ui ux = 3 := of_decide_eq_true hok
        rcases h9 with h9 | h9
        · exact rseg_ok0 h uk en sn pa ui uc ux ucd ul da dn dc ga gn gc hn hx hdz hxl S hO hnh hc hep h9
        · exact rseg_ok3 h uk en sn pa ui uc ux ucd ul da dn dc ga gn gc hn hx hdz hxl S hO hnh hc hep h9
      | false =>
        have h9 : ¬ (putE (some S) ui ux = 0 ∨ putE (some S) ui ux = 3) := of_decide_eq_false hok
        exact rseg_bad h uk en sn pa ui uc ux ucd ul da dn dc ga gn gc hn hx hdz hxl S hO hnh hc hok (by simp; omega) (by simp; omega)
    · exact rseg_mis h uk en sn pa ui uc ux ucd ul da dn dc ga gn gc hn hx hdz hxl (Classical.not_not.1 (fun h9 => by rw [lk_none.2 h9] at hO; cases hO)) hnh hu1 S.length (fun S' h9 => by rw [hO] at h9; cases h9; rfl) hc
  | none =>
    obtain ⟨cn, hcn⟩ : ∃ cn : Nat, (cn : Int) = uc := ⟨uc.toNat, by omega⟩
    have hno : (en, sn) ∉ ks J.O := lk_none.1 hO
    cases hok : okE (putE (some (List.replicate cn [])) ui ux) with
    | true =>
      by_cases hl : E.length < J.mo
      · exact rseg_nroom h uk en sn pa ui uc ux ucd ul da dn dc ga gn gc hn hx hdz hxl cn hcn (by omega) (by omega) hno hnh hep (putE_new hok) hl
      · exact rseg_nfull h uk en sn pa ui uc ux ucd ul da dn dc ga gn gc hn hx hdz hxl cn hcn (by omega) (by omega) hno hnh hep (putE_new hok) (by omega)
    | false => exact rseg_nbad h uk en sn pa ui uc ux ucd ul da dn dc ga gn gc hn hx hdz hxl cn hcn (by omega) (by omega) hno hnh hep hok
end
end Go.Proofs.YtdoikcolkbjnfaaGreat
namespace Go.Proofs.YtdoikcolkbjnfaaGreat
set_option linter.unusedVariables false
set_option linter.unusedSimpArgs false
open Go.RowKit Go.Maps
section
variable {w w' : World} {q : Nat} {vo vs : Value} {J : Ib} {E : List (Ss × Bg)}
theorem TkV.outer (h : Rv w q vo vs J E) {w2 w3 w5 w8 w9 : World} {vo3 vs3 : Value} {E3 : List (Ss × Bg)} {J' : Ib} {a : Ans} {e : Ending} {X : Nat} (h0 : Below w.heap.size w w2) (hc3 : Chg (footV q vo vs E) w2 w3) (hf3 : ∀ b, footV q vo3 vs3 E3 b → footV q vo vs E b ∨ w2.heap.size ≤ b) (hb5 : Below w3.heap.size w3 w5) (ht : TkV w5 q vo3 vs3 E3 J' a e w8) (hx : w.heap.size ≤ X) (hx2 : X < w2.heap.size) (hst : Chg (fun b => b = X) w8 w9) : TkV w q vo vs E J' a e w9 := by
  obtain ⟨vo', vs', E', B, ga, ba, gn, gc, bn, bc, rs, xs, rfl, hA, hR, hc, hf, hB⟩ := ht
  have z2 := h0.size
  have z3 := hc3.size
  have z5 := hb5.size
  have ne : ∀ b, footV q vo' vs' E' b → ¬ b = X := fun b hb e => by
    rcases (hf b hb).1 with h9 | h9
    · rcases hf3 b h9 with h8 | h8
      · have := h.lt h8; omega
      · omega
    · omega
  have hR9 : Rv w9 q vo' vs' J' E' := hR.kept hst.size (fun b hb => hst.block b (hR.lt hb) (ne b hb))
  refine ⟨vo', vs', E', B, ga, ba, gn, gc, bn, bc, rs, xs, rfl, hA.chg hst (fun b e => by omega), hR9, ?_, fun b hb => ⟨?_, (hf b hb).2⟩, by omega⟩
  · refine ((((Chg.of_below h0).trans hc3 (fun b hb => .inl hb)).trans (Chg.of_below (F := fun _ => False) hb5) (fun _ h9 => h9.elim)).trans hc (fun b hb => ?_)).trans hst (fun b e => .inr (by omega))
    exact (hf3 b hb).imp id (fun h9 => by omega)
  · rcases (hf b hb).1 with h9 | h9
    · exact (hf3 b h9).imp id (fun h8 => by omega)
    · exact .inr (by omega)
set_option maxRecDepth 20000
set_option maxHeartbeats 6400000
theorem rtake_seg (h : Rv w q vo vs J E) (uk : Int) (en sn : Nat) (pa ui uc : Int) (ux : List UInt8) (ucd : Int) (ul : List Rg) (da : Option Addr) (dn dc : Nat) (ga : Option Addr) (gn gc : Nat) (hn : dn = ux.length) (hg : gn = ul.length) (hx : Rd w da ux) (hdz : da = none → dc = 0) (hxf : 0 < ux.length → ∀ b, footV q vo vs E b → ∀ a, da = some a → a.block ≠ b) (h64 : en < 18446744073709551616) (hd : dataB (⟨uk, (en : Int), (sn : Int), pa, ui, uc, ux, ucd, ul⟩ : Un) = true) (ho : ¬ en < J.ep) (hin : (en, sn) ∉ ks (riseI J en).H) : Calls Tryz.prog 22 #[.pointer (some ⟨q, 0, none⟩), unV (⟨uk, (en : Int), (sn : Int), pa, ui, uc, ux, ucd, ul⟩ : Un) da dn dc ga gn gc] w fun e w' => TkV w q vo vs E (takeI J (⟨uk, (en : Int), (sn : Int), pa, ui, uc, ux, ucd, ul⟩ : Un)) (takeA J (⟨uk, (en : Int), (sn : Int), pa, ui, uc, ux, ucd, ul⟩ : Un)) e w' := by
  obtain ⟨J2, hJ2⟩ : ∃ J2, J2 = riseI J en := ⟨_, rfl⟩
  rw [← hJ2] at hin
  obtain ⟨aa, haa⟩ : ∃ aa, aa = segA J2 (⟨uk, (en : Int), (sn : Int), pa, ui, uc, ux, ucd, ul⟩ : Un) := ⟨_, rfl⟩
  obtain ⟨Jz, hJz⟩ : ∃ Jz, Jz = segI J2 (⟨uk, (en : Int), (sn : Int), pa, ui, uc, ux, ucd, ul⟩ : Un) := ⟨_, rfl⟩
  have HT : Hid (takeI J (⟨uk, (en : Int), (sn : Int), pa, ui, uc, ux, ucd, ul⟩ : Un) = Jz ∧ takeA J (⟨uk, (en : Int), (sn : Int), pa, ui, uc, ux, ucd, ul⟩ : Un) = aa) := by
    unfold Hid takeI takeA
    rw [hd, if_pos rfl, if_pos rfl]
    have h9 : ¬ (en : Int).toNat < J.ep := by omega
    have h8 : riseI J (en : Int).toNat = J2 := by rw [hJ2]; rfl
    rw [if_neg h9, if_neg h9]
    show segI (riseI J (en : Int).toNat) _ = _ ∧ segA (riseI J (en : Int).toNat) _ = _
    rw [h8, hJz, haa]
    exact ⟨rfl, rfl⟩
  have HAA : Hid _ := haa
  have HJZ : Hid _ := hJz
  have HDB : Hid (1 ≤ uc ∧ uc ≤ 64 ∧ ux.length ≤ 1024 ∧ 0 < ux.length) := by
    have h9 := (dataB_iff _).1 hd
    have h8 := h9.2.2.2
    simp only at h8
    unfold Hid
    omega
  have HRX : Hid (Rd w da ux) := hx
  have HDN : Hid _ := hn
  have HDZ : Hid _ := hdz
  have HXF : Hid (∀ b, footV q vo vs E b → ∀ a, da = some a → a.block ≠ b) := hxf HDB.out.2.2.2
  clear haa hJz hx hdz hxf
  have HJ2 : Hid _ := hJ2
  have HIN : Hid _ := hin
  clear hin
  obtain ⟨w1, hw1⟩ : ∃ w1, w1 = (w.alloc (.cells (unC uk (en : Int) (sn : Int) pa ui uc da dn dc ucd ga gn gc) tUn)).alloc (.cells #[.int .i64 0, .int .i64 0, .slice none 0 0, .slice none 0 0] tRa) := ⟨_, rfl⟩
  have hb1 : Below w.heap.size w w1 := by rw [hw1]; exact al (al (Below.refl _ _) _) _
  have hz1 : w1.heap.size = w.heap.size + 2 := by rw [hw1]; simp
  have hU1 : w1.heap[w.heap.size]? = some (.cells (unC uk (en : Int) (sn : Int) pa ui uc da dn dc ucd ga gn gc) tUn (0, 0)) := by
    rw [hw1]
    exact ((al (Below.refl _ (w.alloc (.cells (unC uk (en : Int) (sn : Int) pa ui uc da dn dc ucd ga gn gc) tUn))) _).block _ (by simp)).trans (heap_alloc_new _ _)
  have hA1 : w1.heap[w.heap.size + 1]? = some (.cells #[.int .i64 0, .int .i64 0, .slice none 0 0, .slice none 0 0] tRa (0, 0)) := by
    rw [hw1]
    have h9 := heap_alloc_new (w.alloc (.cells (unC uk (en : Int) (sn : Int) pa ui uc da dn dc ucd ga gn gc) tUn)) (.cells #[.int .i64 0, .int .i64 0, .slice none 0 0, .slice none 0 0] tRa)
    rw [World.size_alloc] at h9
    exact h9
  have HDA : Hid (Calls _ _ _ w1 _) := refData_t (⟨uk, (en : Int), (sn : Int), pa, ui, uc, ux, ucd, ul⟩ : Un) da dn dc ga gn gc hn hg w1
  have hR1 := h.below hb1
  have HR1 : Hid _ := hR1
  have HH : Hid _ := h
  have HB1 : Hid _ := hb1
  have HW1 : Hid (w1 = _) := hw1
  have HZ1 : Hid _ := hz1
  have HU1 : Hid _ := hU1
  have HA1 : Hid _ := hA1
  have hu1 := unBox hU1
  rw [hd] at HDA
  obtain ⟨ep, hep⟩ : ∃ ep, ep = J.ep := ⟨_, rfl⟩
  have hlt : ¬ (en : Int) < (ep : Int) := by omega
  have HEP : Hid _ := hep
  have HEE : Hid (((en, sn) : Ss).1 = J2.ep) := by unfold Hid; rw [hJ2]; exact (riseI_ep (by omega)).symm
  have HRI : Hid (∀ u, Below w1.heap.size w1 u → Calls _ _ _ u _) := fun u hu => rise_v (hR1.below hu) en h64
  rw [← hJ2] at HRI
  clear h hR1 hb1 hw1 hz1 hU1 hA1 hn hg hd ho hep hJ2
  go_enter Tryz.func22, Tryz.ntmps22
  go_wp2_with fail
  rw [← HW1.out]
  refine Calls.mono HDA.out ?_
  rintro e2 wd ⟨rfl, hbd⟩
  have hkd : ∀ u, Below wd.heap.size wd u → u.cell? ⟨w.heap.size, 1, none⟩ = some (.int .u64 (en : Int)) ∧ u.cell? ⟨q, 2, none⟩ = some (.int .u64 (ep : Int)) := fun u hu => by
    have h8 := below_next hbd hu
    have h9 := (h8.block _ (Array.getElem?_eq_some_iff.1 HU1.out).1).trans HU1.out
    have h7 := (HR1.out.below h8).m.cell.2.2.1
    rw [← HEP.out] at h7
    exact ⟨by rw [cell_of_row _ _ _ _ _ _ h9]; rfl, h7⟩
  have HBD : Hid _ := hbd
  clear hbd hu1
  go_wp2_with fail
  refine wp_region_noPanic ?_
  refine wp_region_held_drew (S := (fun u => Below wd.heap.size wd u)) (by kernel_rfl) (by first | exact (Below.refl _ _).drew | assumption) (fun hHeld => ?_)
  refine take_at (i := 0) 12 (v := ?_) rfl rfl (by kernel_rfl) (by kernel_rfl) (by kernel_rfl) (fun _ _ _ h => h) (by rfl) ?_ hHeld ?_
  rotate_left
  · (intro w hSw; (try dsimp only at hSw); go_simp; try with_reducible rfl)
  simp only [Act.put, List.setIfInBounds_toArray, List.set_cons_zero, List.set_cons_succ]
  refine take_at (i := 1) 13 (v := ?_) rfl rfl (by kernel_rfl) (by kernel_rfl) (by kernel_rfl) (fun _ _ _ h => h) (by rfl) ?_ hHeld ?_
  rotate_left
  · (intro w hSw; (try dsimp only at hSw); go_simp; try with_reducible rfl)
  simp only [Act.put, List.setIfInBounds_toArray, List.set_cons_zero, List.set_cons_succ]
  refine take_at (i := 2) 14 (v := ?_) rfl rfl (by kernel_rfl) (by kernel_rfl) (by kernel_rfl) (fun _ _ _ h => h) (by rfl) ?_ hHeld ?_
  rotate_left
  · (intro w hSw; (try dsimp only at hSw); go_simp; try with_reducible rfl)
  simp only [Act.put, List.setIfInBounds_toArray, List.set_cons_zero, List.set_cons_succ]
  refine take_at (i := 3) 15 (v := ?_) rfl rfl (by kernel_rfl) (by kernel_rfl) (by kernel_rfl) (fun _ _ _ h => h) (by rfl) ?_ hHeld ?_
  rotate_left
  · (intro w hSw; (try dsimp only at hSw); go_simp; try with_reducible rfl)
  simp only [Act.put, List.setIfInBounds_toArray, List.set_cons_zero, List.set_cons_succ]
  refine take_at (i := 4) 16 (v := ?_) rfl rfl (by kernel_rfl) (by kernel_rfl) (by kernel_rfl) (fun _ _ _ h => h) (by rfl) ?_ hHeld ?_
  rotate_left
  · (intro w hSw; (try dsimp only at hSw); go_simp; try with_reducible rfl)
  simp only [Act.put, List.setIfInBounds_toArray, List.set_cons_zero, List.set_cons_succ]
  refine take_at (i := 5) 17 (v := ?_) rfl rfl (by kernel_rfl) (by kernel_rfl) (by kernel_rfl) (fun _ _ _ h => h) (by rfl) ?_ hHeld ?_
  rotate_left
  · (intro w hSw; (try dsimp only at hSw); go_simp; try with_reducible rfl)
  simp only [Act.put, List.setIfInBounds_toArray, List.set_cons_zero, List.set_cons_succ]
  refine take_at (i := 6) 18 (v := ?_) rfl rfl (by kernel_rfl) (by kernel_rfl) (by kernel_rfl) (fun _ _ _ h => h) (by rfl) ?_ hHeld ?_
  rotate_left
  · (intro w hSw; (try dsimp only at hSw); go_simp; try with_reducible rfl)
  simp only [Act.put, List.setIfInBounds_toArray, List.set_cons_zero, List.set_cons_succ]
  refine wpAnyH_done (by kernel_rfl) ?_ _
  refine NoPanic.normal ?_
  obtain ⟨w2, hw2⟩ : ∃ w2, w2 = wd.drew := ⟨_, rfl⟩
  have hb2 : Below w1.heap.size w1 w2 := by rw [hw2]; exact below_next HBD.out (Below.refl _ _).drew
  rw [← hw2]
  have HB2 : Hid (Below w.heap.size w w2) := below_next HB1.out hb2
  have hA2 := (hb2.block _ (Array.getElem?_eq_some_iff.1 HA1.out).1).trans HA1.out
  have hU2 := (hb2.block _ (Array.getElem?_eq_some_iff.1 HU1.out).1).trans HU1.out
  have hu2 := unBox hU2
  have HS2 : Hid (w.heap.size + 2 ≤ w2.heap.size) := by have := HZ1.out; have := hb2.size; unfold Hid; omega
  have HA2 : Hid _ := hA2
  have HU2 : Hid _ := hU2
  have HR2 : Hid (Calls _ _ _ w2 _) := HRI.out w2 hb2
  clear hb2 hw2 hkd hHeld hA2 hU2
  go_wp2_with fail
  refine Calls.mono HR2.out ?_
  rintro e3 w3 ⟨rfl, vo3, vs3, E3, h3, hc3, hf3⟩
  have hA3 := (hc3.block _ (Array.getElem?_eq_some_iff.1 HA2.out).1 (fun h9 => by have := HH.out.lt h9; omega)).trans HA2.out
  have hU3 := (hc3.block _ (Array.getElem?_eq_some_iff.1 HU2.out).1 (fun h9 => by have := HH.out.lt h9; omega)).trans HU2.out
  have hu3 := unBox hU3
  obtain ⟨a1, c1, hv1, -, -, -, -⟩ := OwnG.val h3.m.rs
  subst hv1
  obtain ⟨H3, hH3⟩ : ∃ H3, H3 = J2.H := ⟨_, rfl⟩
  obtain ⟨n1, hn1⟩ : ∃ n1, n1 = H3.length := ⟨_, rfl⟩
  rw [← hH3, ← hn1] at h3 hf3
  have hnl : n1 ≤ 4096 := by rw [hn1, hH3]; exact h3.lenH
  have hM3 : RiM w3 q J2.mo J2.ms J2.ep vo3 (.slice a1 n1 c1) (mp Bg.q E3) H3 := by rw [hH3]; exact h3.m
  obtain ⟨w4, hw4⟩ : ∃ w4, w4 = w3.alloc (.cells #[.int .u64 (en : Int), .int .u64 (sn : Int)] tRs) := ⟨_, rfl⟩
  have hb4 : Below w3.heap.size w3 w4 := by rw [hw4]; exact al (Below.refl _ _) _
  have HSH : Hid (Calls _ _ _ w4 _) := rshut_t (hM3.below hb4) (en, sn) (by rw [← hn1]; omega)
  have HR3 : Hid _ := h3
  have HM3 : Hid _ := hM3
  have HC3 : Hid _ := hc3
  have HF3 : Hid _ := hf3
  have HA3 : Hid _ := hA3
  have HU3 : Hid _ := hU3
  have HN1 : Hid (n1 = H3.length) := hn1
  have HH3 : Hid _ := hH3
  have HW4 : Hid (w4 = _) := hw4
  have HB4 : Hid _ := hb4
  clear h3 hM3 hc3 hf3 hA3 hU3 hn1 hH3 hw4 hb4 hu2
  go_wp2_with fail
  rw [← HW4.out]
  refine Calls.mono HSH.out ?_
  rintro e5 w5 ⟨hfd, hb5'⟩
  have hb5 : Below w3.heap.size w3 w5 := below_next HB4.out hb5'
  rcases hfd with ⟨i, hi, hix, rfl⟩ | ⟨hno, rfl⟩
  · exact absurd (by rw [← HH3.out, ← hix]; exact mem_ks (List.getElem_mem _)) HIN.out
  · have h5 := HR3.out.below hb5
    have hx5 : Rd w5 da ux := (Rd.below (Rd.chg (Rd.below HRX.out HB2.out) HC3.out HXF.out) hb5)
    have hA5 := (hb5.block _ (Array.getElem?_eq_some_iff.1 HA3.out).1).trans HA3.out
    have hU5 := (hb5.block _ (Array.getElem?_eq_some_iff.1 HU3.out).1).trans HU3.out
    have hu5 := unBox hU5
    have hs4 : w4.heap[w3.heap.size]? = some (.cells #[.int .u64 (en : Int), .int .u64 (sn : Int)] tRs (0, 0)) := by rw [HW4.out]; exact heap_alloc_new _ _
    have hs5 := (hb5'.block _ (Array.getElem?_eq_some_iff.1 hs4).1).trans hs4
    have s50 : w5.cell? ⟨w3.heap.size, 0, none⟩ = some (.int .u64 (en : Int)) := by rw [cell_of_row _ _ _ _ _ _ hs5]; rfl
    have s51 : w5.cell? ⟨w3.heap.size, 1, none⟩ = some (.int .u64 (sn : Int)) := by rw [cell_of_row _ _ _ _ _ _ hs5]; rfl
    have HSEG : Hid (Calls _ _ _ w5 _) := rseg_t h5 uk en sn pa ui uc ux ucd ul da dn dc ga gn gc HDN.out hx5 HDZ.out HDB.out.2.2.1 HDB.out.1 HDB.out.2.1 HIN.out HEE.out
    rw [← HAA.out, ← HJZ.out] at HSEG
    have HB5 : Hid _ := hb5
    have HA5 : Hid _ := hA5
    clear h5 hx5 hA5 hU5 hs4 hs5 hb5 hb5' hno
    go_wp2_with fail
    refine Calls.mono HSEG.out ?_
    rintro e8 w8 ht8
    have HT8 : Hid _ := ht8
    obtain ⟨vo', vs', E', B, ga', ba', gn', gc', bn', bc', rs, xs, rfl, -, -, hc8, -, -⟩ := ht8
    have hA8 := (hc8.block _ (Array.getElem?_eq_some_iff.1 HA5.out).1 (fun h9 => by
      have h7 := HS2.out
      rcases HF3.out _ h9 with h8 | h8
      · have := HH.out.lt h8; omega
      · omega)).trans HA5.out
    obtain ⟨b0, b1, b2, b3, f0, f1, f2, f3⟩ := ansCellR hA8
    clear hc8 hA8 hu5 s50 s51
    go_wp2
    have hST : Chg (fun b => b = w.heap.size + 1) w8 ((((w8.setCell ⟨w.heap.size + 1, 0, none⟩ (.int .i64 aa.st)).setCell ⟨w.heap.size + 1, 1, none⟩ (.int .i64 aa.cd)).setCell ⟨w.heap.size + 1, 2, none⟩ (.slice ga' gn' gc')).setCell ⟨w.heap.size + 1, 3, none⟩ (.slice ba' bn' bc')) := Chg.of_grown ((((gset1 w8 (w.heap.size + 1) 0 _).trans' (gset1 _ (w.heap.size + 1) 1 _)).trans' (gset1 _ (w.heap.size + 1) 2 _)).trans' (gset1 _ (w.heap.size + 1) 3 _)) (fun b e => (Option.some.inj e).symm)
    exact bodyPost_ret (v := ansV aa ga' ba' gn' gc' bn' bc') (by simp [results, Tryz.results22, go_sem, b0, b1, b2, b3, f0, f1, f2, f3]) rfl (by rw [HT.out.1, HT.out.2]; exact TkV.outer HH.out HB2.out HC3.out HF3.out HB5.out HT8.out (Nat.le_succ _) (by have := HS2.out; omega) hST)

/-- the document's Take -/
theorem rtake_t (h : Rv w q vo vs J E) (u : Un) (da : Option Addr) (dn dc : Nat) (ga : Option Addr) (gn gc : Nat) (hn : dn = u.data.length) (hg : gn = u.got.length) (hx : Rd w da u.data) (hdz : da = none → dc = 0) (hxf : 0 < u.data.length → ∀ b, footV q vo vs E b → ∀ a, da = some a → a.block ≠ b) (he0 : 0 ≤ u.ep) (hs0 : 0 ≤ u.se) : Calls Tryz.prog 22 #[.pointer (some ⟨q, 0, none⟩), unV u da dn dc ga gn gc] w fun e w' => TkV w q vo vs E (takeI J u) (takeA J u) e w' := by
  obtain ⟨uk, e, se, pa, ui, uc, ux, ucd, ul⟩ := u
  simp only at hn hg hx hxf he0 hs0
  obtain ⟨en, rfl⟩ : ∃ en : Nat, e = (en : Int) := ⟨e.toNat, by omega⟩
  obtain ⟨sn, rfl⟩ : ∃ sn : Nat, se = (sn : Int) := ⟨se.toNat, by omega⟩
  cases hd : dataB ⟨uk, (en : Int), (sn : Int), pa, ui, uc, ux, ucd, ul⟩ with
  | false => exact rtake_bad h uk en sn pa ui uc ux ucd ul da dn dc ga gn gc hn hg hd
  | true =>
    have h64 : en < 18446744073709551616 := by
      have h9 := ((dataB_iff _).1 hd).2.1
      unfold nameOk at h9
      simp only at h9
      omega
    by_cases ho : en < J.ep
    · exact rtake_old h uk en sn pa ui uc ux ucd ul da dn dc ga gn gc hn hg hd ho
    · by_cases hin : (en, sn) ∈ ks (riseI J en).H
      · exact rtake_dec h uk en sn pa ui uc ux ucd ul da dn dc ga gn gc hn hg h64 hd ho hin
      · exact rtake_seg h uk en sn pa ui uc ux ucd ul da dn dc ga gn gc hn hg hx hdz hxf h64 hd ho hin
end
end Go.Proofs.YtdoikcolkbjnfaaGreat
