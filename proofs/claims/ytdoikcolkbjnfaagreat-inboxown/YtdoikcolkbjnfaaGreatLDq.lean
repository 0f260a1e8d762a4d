import Derived.Test.YtdoikcolkbjnfaaGreatLDna
namespace Go.Proofs.YtdoikcolkbjnfaaGreat
set_option linter.unusedVariables false
set_option linter.unusedSimpArgs false
open Go.RowKit Go.Maps
theorem RBx.ptr {w : World} {qv : Option Addr} {S : List Seg} {F : Nat → Prop} (h : RBx w qv (some S) F) : ∃ bq, qv = some ⟨bq, 0, none⟩ := by
  rcases h.ex with ⟨h1, -⟩ | ⟨S', p, g, c, E, h1, h2, -⟩
  · cases h1
  · exact ⟨p, h2⟩
theorem newSt_n {n : Nat} (h1 : 1 ≤ n) (h2 : n ≤ 64) : newSt (n : Int) = some (List.replicate n []) := by
  unfold newSt
  rw [if_pos (by omega)]
  rfl
section
variable {w w' : World} {q : Nat} {vo vs : Value} {J : Ib} {E : List (Ss × Bg)}
set_option maxRecDepth 20000
set_option maxHeartbeats 6400000
theorem rseg_nbad (h : Rv w q vo vs J E) (uk : Int) (en sn : Nat) (pa ui uc : Int) (ux : List UInt8) (ucd : Int) (ul : List Rg) (da : Option Addr) (dn dc : Nat) (ga : Option Addr) (gn gc : Nat) (hn : dn = ux.length) (hx : Rd w da ux) (hdz : da = none → dc = 0) (hxl : ux.length ≤ 1024) (cn : Nat) (huc : (cn : Int) = uc) (hc1 : 1 ≤ cn) (hc2 : cn ≤ 64) (hnO : (en, sn) ∉ ks J.O) (hnh : (en, sn) ∉ ks J.H) (hep : en = J.ep) (hok : okE (putE (some (List.replicate cn [])) ui ux) = false) : Calls Tryz.prog 52 #[.pointer (some ⟨q, 0, none⟩), sv (en, sn), unV (⟨uk, (en : Int), (sn : Int), pa, ui, uc, ux, ucd, ul⟩ : Un) da dn dc ga gn gc] w fun e w' => TkV w q vo vs E (segI J (⟨uk, (en : Int), (sn : Int), pa, ui, uc, ux, ucd, ul⟩ : Un)) (segA J (⟨uk, (en : Int), (sn : Int), pa, ui, uc, ux, ucd, ul⟩ : Un)) e w' := by
  subst huc
  have hb : boxU J (⟨uk, (en : Int), (sn : Int), pa, ui, (cn : Int), ux, ucd, ul⟩ : Un) = List.replicate cn [] := by unfold boxU; rw [show lk J.O (sesU (⟨uk, (en : Int), (sn : Int), pa, ui, (cn : Int), ux, ucd, ul⟩ : Un)) = none from lk_none.2 hnO]; show List.replicate (cn : Int).toNat [] = _; rw [Int.toNat_natCast]
  have HT : Hid (segI J (⟨uk, (en : Int), (sn : Int), pa, ui, (cn : Int), ux, ucd, ul⟩ : Un) = J ∧ segA J (⟨uk, (en : Int), (sn : Int), pa, ui, (cn : Int), ux, ucd, ul⟩ : Un) = ⟨2, 0, none⟩) := by
    have h9 : lk J.H (sesU (⟨uk, (en : Int), (sn : Int), pa, ui, (cn : Int), ux, ucd, ul⟩ : Un)) = none := lk_none.2 hnh
    have h8 : goesU J (⟨uk, (en : Int), (sn : Int), pa, ui, (cn : Int), ux, ucd, ul⟩ : Un) = false := by
      unfold goesU
      rw [hb]
      show (_ && okE (putE (some (List.replicate cn [])) ui ux)) = false
      rw [hok, Bool.and_false]
    unfold Hid segI segA
    rw [h9]
    simp only [h8]
    exact ⟨rfl, rfl⟩
  have HOK : Hid _ := hok
  clear hok hb
  have HC1 : Hid _ := hc1
  have HC2 : Hid _ := hc2
  have HNO : Hid _ := hnO
  have HNH : Hid _ := hnh
  have HEP : Hid (((en, sn) : Ss).1 = J.ep) := hep
  have HDN : Hid _ := hn
  have HDZ : Hid _ := hdz
  obtain ⟨w1, hw1⟩ : ∃ w1, w1 = ((w.alloc (.cells #[.int .u64 (en : Int), .int .u64 (sn : Int)] tRs)).alloc (.cells (unC uk (en : Int) (sn : Int) pa ui (cn : Int) da dn dc ucd ga gn gc) tUn)).alloc (.cells #[.int .i64 0, .int .i64 0, .slice none 0 0, .slice none 0 0] tRa) := ⟨_, rfl⟩
  have hb1 : Below w.heap.size w w1 := by rw [hw1]; exact al (al (al (Below.refl _ _) _) _) _
  have hz1 : w1.heap.size = w.heap.size + 3 := by rw [hw1]; simp
  have hS1 : w1.heap[w.heap.size]? = some (.cells #[.int .u64 (en : Int), .int .u64 (sn : Int)] tRs (0, 0)) := by
    rw [hw1]
    exact ((al (al (Below.refl _ (w.alloc (.cells #[.int .u64 (en : Int), .int .u64 (sn : Int)] tRs))) _) _).block _ (by simp)).trans (heap_alloc_new _ _)
  have hU1 : w1.heap[w.heap.size + 1]? = some (.cells (unC uk (en : Int) (sn : Int) pa ui (cn : Int) da dn dc ucd ga gn gc) tUn (0, 0)) := by
    rw [hw1]
    have h9 := heap_alloc_new (w.alloc (.cells #[.int .u64 (en : Int), .int .u64 (sn : Int)] tRs)) (.cells (unC uk (en : Int) (sn : Int) pa ui (cn : Int) da dn dc ucd ga gn gc) tUn)
    rw [World.size_alloc] at h9
    exact ((al (Below.refl _ ((w.alloc (.cells #[.int .u64 (en : Int), .int .u64 (sn : Int)] tRs)).alloc (.cells (unC uk (en : Int) (sn : Int) pa ui (cn : Int) da dn dc ucd ga gn gc) tUn))) _).block _ (by simp)).trans h9
  have hA1 : w1.heap[w.heap.size + 2]? = some (.cells #[.int .i64 0, .int .i64 0, .slice none 0 0, .slice none 0 0] tRa (0, 0)) := by
    rw [hw1]
    have h9 := heap_alloc_new ((w.alloc (.cells #[.int .u64 (en : Int), .int .u64 (sn : Int)] tRs)).alloc (.cells (unC uk (en : Int) (sn : Int) pa ui (cn : Int) da dn dc ucd ga gn gc) tUn)) (.cells #[.int .i64 0, .int .i64 0, .slice none 0 0, .slice none 0 0] tRa)
    rw [World.size_alloc, World.size_alloc] at h9
    exact h9
  have hR1 := h.below hb1
  have HOP : Hid (Calls _ _ _ w1 _) := ropen_t hR1.m (en, sn) (by have := h.lenO; omega)
  have HR1 : Hid _ := hR1
  have HH : Hid _ := h
  have HB1 : Hid _ := hb1
  have HW1 : Hid (w1 = _) := hw1
  have HZ1 : Hid _ := hz1
  have HS1 : Hid _ := hS1
  have HU1 : Hid _ := hU1
  have HA1 : Hid _ := hA1
  have HXD : Hid (∀ u, Below w1.heap.size w1 u → Rd u da ux) := fun u hu => Rd.below hx (below_next hb1 hu)
  clear h hR1 hb1 hw1 hz1 hS1 hU1 hA1 hn hx hdz hnh hnO hep hc1 hc2
  go_enter Tryz.func52, Tryz.ntmps52
  go_wp2_with fail
  rw [← HW1.out]
  refine Calls.mono HOP.out ?_
  rintro e2 w2 ⟨hfd, hb2⟩
  rcases hfd with ⟨i, hi, hix, rfl⟩ | ⟨hno, rfl⟩
  · exact absurd (by rw [HH.out.ksO, ← ks_mp Bg.q, ← hix]; exact mem_ks (List.getElem_mem _)) HNO.out
  · have hs2 : w2.heap[w.heap.size]? = _ := (hb2.block _ (Array.getElem?_eq_some_iff.1 HS1.out).1).trans HS1.out
    have hs20 : w2.cell? ⟨w.heap.size, 0, none⟩ = some (.int .u64 (en : Int)) := by rw [cell_of_row _ _ _ _ _ _ hs2]; rfl
    have hs21 : w2.cell? ⟨w.heap.size, 1, none⟩ = some (.int .u64 (sn : Int)) := by rw [cell_of_row _ _ _ _ _ _ hs2]; rfl
    obtain ⟨a1, c1, hv1, -, -, -, -⟩ := OwnG.val HR1.out.m.ro
    subst hv1
    obtain ⟨n1, hn1⟩ : ∃ n1, n1 = (mp Bg.q E).length := ⟨_, rfl⟩
    rw [← hn1] at HR1
    have HHn : Hid (Rv w q (.slice a1 n1 c1) vs J E) := by have h9 := HH.out; rw [← hn1] at h9; exact h9
    have HN1 : Hid _ := hn1
    obtain ⟨wa, hwa⟩ : ∃ wa, wa = w2.alloc (.cells #[.int .u64 (en : Int), .int .u64 (sn : Int), .pointer none] KO.t) := ⟨_, rfl⟩
    have hba : Below w1.heap.size w1 wa := by rw [hwa]; exact al hb2 _
    have hta : wa.heap[w2.heap.size]? = some (.cells #[.int .u64 (en : Int), .int .u64 (sn : Int), .pointer none] KO.t (0, 0)) := by rw [hwa]; exact heap_alloc_new _ _
    have HNW : Hid (Calls _ _ _ wa _) := qnew (cn : Int) wa
    have hUa := (hba.block _ (Array.getElem?_eq_some_iff.1 HU1.out).1).trans HU1.out
    have hua := unBox hUa
    have HWA : Hid (wa = _) := hwa
    have HBA : Hid _ := hba
    have HTA : Hid _ := hta
    have HZ2a : Hid (w.heap.size + 3 ≤ w2.heap.size) := by unfold Hid; rw [← HZ1.out]; exact hb2.size
    have HZ12 : Hid (w1.heap.size ≤ w2.heap.size) := hb2.size
    have hu5 : ∀ o, (w2.alloc o).cell? ⟨w.heap.size + 1, 5, none⟩ = some (.int .i64 (cn : Int)) := fun o => by
      have h9 := ((al hb2 o).block _ (Array.getElem?_eq_some_iff.1 HU1.out).1).trans HU1.out
      exact (unBox h9).2.2.2.2.2.1
    clear hb2 hs2 hn1 hba hta hUa hwa hno hua
    go_wp2_with fail
    rw [← HWA.out]
    refine Calls.mono HNW.out ?_
    rintro e3 wb ⟨qv, Gb, rfl, -, hbb, hGb, hbbb⟩
    rw [newSt_n HC1.out HC2.out] at hbb
    obtain ⟨bq, hbq⟩ := hbb.ptr
    subst hbq
    have hla : w2.heap.size < wa.heap.size := (Array.getElem?_eq_some_iff.1 HTA.out).1
    have htb := (hbbb.block _ hla).trans HTA.out
    have tb2 : wb.cell? ⟨w2.heap.size, 2, none⟩ = some (.pointer none) := by rw [cell_of_row _ _ _ _ _ _ htb]; rfl
    have fb2 : wb.frozen? ⟨w2.heap.size, 2, none⟩ = false := by simp [World.frozen?, htb]
    obtain ⟨w3, hw3⟩ : ∃ w3, w3 = wb.setCell ⟨w2.heap.size, 2, none⟩ (.pointer (some ⟨bq, 0, none⟩)) := ⟨_, rfl⟩
    have ht3 : w3.heap[w2.heap.size]? = some (.cells #[.int .u64 (en : Int), .int .u64 (sn : Int), .pointer (some ⟨bq, 0, none⟩)] KO.t (0, 0)) := by rw [hw3]; exact heap_setCell_same wb w2.heap.size 2 _ _ _ htb
    have hb3 : Below w1.heap.size w1 w3 := by rw [hw3]; exact (below_next HBA.out hbbb).setCell (p := ⟨w2.heap.size, 2, none⟩) HZ12.out _
    have hG3 : ∀ c, Gb c → w2.heap.size < c := fun c hc => by have := hGb c hc; omega
    have hbx3 : RBx w3 (some ⟨bq, 0, none⟩) (some (List.replicate cn [])) Gb := by
      rw [hw3]
      exact hbb.kept (by simp) (fun c hc => Below.heap_setCell _ _ _ _ (fun e => by have h9 := hG3 c hc; simp only at e; omega))
    have HW3 : Hid (w3 = _) := hw3
    have HB3 : Hid _ := hb3
    have HT3 : Hid _ := ht3
    have HG3 : Hid _ := hG3
    have HX3 : Hid _ := hbx3
    have HQC : Hid (∀ u, Below w3.heap.size w3 u → Calls Tryz.prog 76 #[.pointer (some ⟨bq, 0, none⟩)] u fun e w' => e = .returned (.int .i64 (cn : Int)) ∧ w' = u) := fun u hu => by
      have h9 := qcount (HX3.out.below hu)
      have e9 : cntS (some (List.replicate cn ([] : Seg))) = cn := List.length_replicate
      rw [e9] at h9
      exact h9
    have hk3 : ∀ u, Below w3.heap.size w3 u → u.cell? ⟨w2.heap.size, 2, none⟩ = some (.pointer (some ⟨bq, 0, none⟩)) ∧ u.cell? ⟨w.heap.size + 1, 5, none⟩ = some (.int .i64 (cn : Int)) := fun u hu => by
      have h9 := (hu.block _ (Array.getElem?_eq_some_iff.1 HT3.out).1).trans HT3.out
      have h8 := ((below_next HB3.out hu).block _ (Array.getElem?_eq_some_iff.1 HU1.out).1).trans HU1.out
      exact ⟨by rw [cell_of_row _ _ _ _ _ _ h9]; rfl, (unBox h8).2.2.2.2.2.1⟩
    clear hbb hGb hbbb hla htb hw3 ht3 hb3 hG3 hbx3 hs20 hs21 hu5
    go_upto_region 6 with fail
    rw [← HW3.out]
    clear tb2 fb2
    refine wp_region_held_drew (S := (fun u => Below w3.heap.size w3 u)) (by kernel_rfl) (by first | exact (Below.refl _ _).drew | assumption) (fun hHeld => ?_)
    refine tz (i := 0) 33 rfl rfl hHeld ?_
    simp only [pS]
    refine tz (i := 1) 34 rfl rfl hHeld ?_
    simp only [pS]
    refine tz (i := 3) 36 rfl rfl hHeld ?_
    simp only [pS]
    refine tz (i := 4) 37 rfl rfl hHeld ?_
    simp only [pS]
    refine run_at (i := 2) rfl (by kernel_rfl) (by rfl) (fun K hK => ?_)
    simp only [List.getElem_toArray, List.getElem_cons_zero, List.getElem_cons_succ]
    go_simp
    (go_at_call 76; refine Calls.mono (HQC.out _ (by assumption)) ?_; rintro e u4 ⟨rfl, hu4⟩; subst hu4)
    go_wp2_with fail
    refine hK.out _ _ (by first | exact (Below.refl _ _).drew | assumption) ?_
    clear hK K
    intro hHeld2
    clear hHeld
    have hHeld := hHeld2
    clear hHeld2
    try simp only [pS]
    refine tz (i := 5) 38 rfl rfl hHeld ?_
    simp only [pS]
    refine wpAnyH_done (by kernel_rfl) ?_ _
    obtain ⟨w4, hw4⟩ : ∃ w4, w4 = w3.drew := ⟨_, rfl⟩
    have hb4 : Below w1.heap.size w1 w4 := by rw [hw4]; exact below_next HB3.out (Below.refl _ _).drew
    rw [← hw4]
    have hb34 : Below w3.heap.size w3 w4 := by rw [hw4]; exact (Below.refl _ _).drew
    have HB4 : Hid (Below w.heap.size w w4) := below_next HB1.out hb4
    have HA4 : Hid _ := (hb4.block _ (Array.getElem?_eq_some_iff.1 HA1.out).1).trans HA1.out
    have HU4 : Hid _ := (hb4.block _ (Array.getElem?_eq_some_iff.1 HU1.out).1).trans HU1.out
    have HT4 : Hid _ := (hb34.block _ (Array.getElem?_eq_some_iff.1 HT3.out).1).trans HT3.out
    have HX4 : Hid _ := HX3.out.below hb34
    have HPU : Hid (Calls _ _ _ w4 _) := qput HX4.out ui da dn dc ux HDN.out (HXD.out w4 hb4) HDZ.out (by have := HDN.out; omega)
    have hu4 := unBox HU4.out
    have ht4 : w4.cell? ⟨w2.heap.size, 2, none⟩ = some (.pointer (some ⟨bq, 0, none⟩)) := by rw [cell_of_row _ _ _ _ _ _ HT4.out]; rfl
    have HZ2 : Hid (w.heap.size + 3 ≤ w2.heap.size ∧ w2.heap.size < w4.heap.size) := ⟨HZ2a.out, (Array.getElem?_eq_some_iff.1 HT4.out).1⟩
    clear hb4 hw4 hb34 hk3 hHeld
    go_wp2_with fail
    refine Calls.mono HPU.out ?_
    rintro e5 w5 ⟨rfl, hl5⟩
    obtain ⟨F5, hb5, hf5⟩ := hl5.ex
    have hc5 := hl5.chg
    have HB5 : Hid (Below w.heap.size w w5) := HB4.out.trans (hc5.below (B := w.heap.size) (fun c hc => by have := HG3.out c hc; have := HZ2a.out; omega) HB4.out.size)
    have HA5 : Hid _ := (hc5.block _ (Array.getElem?_eq_some_iff.1 HA4.out).1 (fun h9 => by have := HG3.out _ h9; have := HZ2a.out; omega)).trans HA4.out
    have HT5 : Hid _ := (hc5.block _ (Array.getElem?_eq_some_iff.1 HT4.out).1 (fun h9 => by have := HG3.out _ h9; omega)).trans HT4.out
    have HF5 : Hid (∀ c, F5 c → w.heap.size + 3 ≤ c) := fun c hc => by
      have h7 := HZ2.out
      rcases hf5 c hc with h9 | h9
      · have := HG3.out c h9; omega
      · omega
    obtain ⟨er, her⟩ : ∃ er, er = putE (some (List.replicate cn [])) ui ux := ⟨_, rfl⟩
    rw [← her]
    have h0 : ¬ er = 0 := fun h9 => by have h8 := HOK.out; rw [← her, h9] at h8; exact absurd h8 (by decide)
    have h3 : ¬ er = 3 := fun h9 => by have h8 := HOK.out; rw [← her, h9] at h8; exact absurd h8 (by decide)
    have h0b : (er != 0) = true := by simp [h0]
    have h3b : (er != 3) = true := by simp [h3]
    obtain ⟨b0, b1, b2, b3, f0, f1, f2, f3⟩ := ansCellR HA5.out
    clear hl5 hb5 hf5 hc5 her hu4 ht4 h0 h3
    go_wp2
    have hST : Chg (fun b => b = w.heap.size + 2) w5 ((((w5.setCell ⟨w.heap.size + 2, 0, none⟩ (.int .i64 2)).setCell ⟨w.heap.size + 2, 1, none⟩ (.int .i64 0)).setCell ⟨w.heap.size + 2, 2, none⟩ (.slice none 0 0)).setCell ⟨w.heap.size + 2, 3, none⟩ (.slice none 0 0)) := Chg.of_grown ((((gset1 w5 (w.heap.size + 2) 0 _).trans' (gset1 _ (w.heap.size + 2) 1 _)).trans' (gset1 _ (w.heap.size + 2) 2 _)).trans' (gset1 _ (w.heap.size + 2) 3 _)) (fun b e => (Option.some.inj e).symm)
    exact bodyPost_ret (v := ansV ⟨2, 0, none⟩ none none 0 0 0 0) (by simp [results, Tryz.results52, go_sem, b0, b1, b2, b3, f0, f1, f2, f3]) rfl (by rw [HT.out.1, HT.out.2]; exact TkV.same HH.out (HB5.out.trans (Below.mono (hST.below (B := w.heap.size) (fun i hi => by omega) HB5.out.size) (Nat.le_refl _))) 2 0)
end
end Go.Proofs.YtdoikcolkbjnfaaGreat
namespace Go.Proofs.YtdoikcolkbjnfaaGreat
set_option linter.unusedVariables false
set_option linter.unusedSimpArgs false
open Go.RowKit Go.Maps
section
variable {w w' : World} {q : Nat} {vo vs : Value} {J : Ib} {E : List (Ss × Bg)}
set_option maxRecDepth 20000
set_option maxHeartbeats 6400000
theorem rseg_nroom (h : Rv w q vo vs J E) (uk : Int) (en sn : Nat) (pa ui uc : Int) (ux : List UInt8) (ucd : Int) (ul : List Rg) (da : Option Addr) (dn dc : Nat) (ga : Option Addr) (gn gc : Nat) (hn : dn = ux.length) (hx : Rd w da ux) (hdz : da = none → dc = 0) (hxl : ux.length ≤ 1024) (cn : Nat) (huc : (cn : Int) = uc) (hc1 : 1 ≤ cn) (hc2 : cn ≤ 64) (hnO : (en, sn) ∉ ks J.O) (hnh : (en, sn) ∉ ks J.H) (hep : en = J.ep) (her : putE (some (List.replicate cn [])) ui ux = 0) (hfl : E.length < J.mo) : Calls Tryz.prog 52 #[.pointer (some ⟨q, 0, none⟩), sv (en, sn), unV (⟨uk, (en : Int), (sn : Int), pa, ui, uc, ux, ucd, ul⟩ : Un) da dn dc ga gn gc] w fun e w' => TkV w q vo vs E (segI J (⟨uk, (en : Int), (sn : Int), pa, ui, uc, ux, ucd, ul⟩ : Un)) (segA J (⟨uk, (en : Int), (sn : Int), pa, ui, uc, ux, ucd, ul⟩ : Un)) e w' := by
  subst huc
  obtain ⟨SP, hSP⟩ : ∃ SP, SP = putL (List.replicate cn []) ui ux := ⟨_, rfl⟩
  obtain ⟨O9, hO9⟩ : ∃ O9, O9 = pt J.mo J.O (en, sn) SP := ⟨_, rfl⟩
  have hb : boxU J (⟨uk, (en : Int), (sn : Int), pa, ui, (cn : Int), ux, ucd, ul⟩ : Un) = List.replicate cn [] := by unfold boxU; rw [show lk J.O (sesU (⟨uk, (en : Int), (sn : Int), pa, ui, (cn : Int), ux, ucd, ul⟩ : Un)) = none from lk_none.2 hnO]; show List.replicate (cn : Int).toNat [] = _; rw [Int.toNat_natCast]
  have HT : Hid (segI J (⟨uk, (en : Int), (sn : Int), pa, ui, (cn : Int), ux, ucd, ul⟩ : Un) = { J with O := O9 } ∧ segA J (⟨uk, (en : Int), (sn : Int), pa, ui, (cn : Int), ux, ucd, ul⟩ : Un) = tellA SP) := by
    have h9 : lk J.H (sesU (⟨uk, (en : Int), (sn : Int), pa, ui, (cn : Int), ux, ucd, ul⟩ : Un)) = none := lk_none.2 hnh
    have h8 : goesU J (⟨uk, (en : Int), (sn : Int), pa, ui, (cn : Int), ux, ucd, ul⟩ : Un) = true := by
      unfold goesU
      rw [hb]
      show (decide ((List.replicate cn ([] : Seg)).length = (cn : Int).toNat) && okE (putE (some (List.replicate cn [])) ui ux)) = true
      rw [her, decide_eq_true (by rw [List.length_replicate, Int.toNat_natCast])]
      decide
    unfold Hid segI segA
    rw [h9]
    simp only [h8]
    rw [hb, hO9, hSP]
    exact ⟨rfl, rfl⟩
  have HER : Hid _ := her
  have HFL : Hid _ := hfl
  have HSP : Hid _ := hSP.symm
  have HO9 : Hid _ := hO9
  clear hSP hO9 her hfl hb
  have HC1 : Hid _ := hc1
  have HC2 : Hid _ := hc2
  have HNO : Hid _ := hnO
  have HNH : Hid _ := hnh
  have HEP : Hid (((en, sn) : Ss).1 = J.ep) := hep
  have HDN : Hid _ := hn
  have HDZ : Hid _ := hdz
  obtain ⟨w1, hw1⟩ : ∃ w1, w1 = ((w.alloc (.cells #[.int .u64 (en : Int), .int .u64 (sn : Int)] tRs)).alloc (.cells (unC uk (en : Int) (sn : Int) pa ui (cn : Int) da dn dc ucd ga gn gc) tUn)).alloc (.cells #[.int .i64 0, .int .i64 0, .slice none 0 0, .slice none 0 0] tRa) := ⟨_, rfl⟩
  have hb1 : Below w.heap.size w w1 := by rw [hw1]; exact al (al (al (Below.refl _ _) _) _) _
  have hz1 : w1.heap.size = w.heap.size + 3 := by rw [hw1]; simp
  have hS1 : w1.heap[w.heap.size]? = some (.cells #[.int .u64 (en : Int), .int .u64 (sn : Int)] tRs (0, 0)) := by
    rw [hw1]
    exact ((al (al (Below.refl _ (w.alloc (.cells #[.int .u64 (en : Int), .int .u64 (sn : Int)] tRs))) _) _).block _ (by simp)).trans (heap_alloc_new _ _)
  have hU1 : w1.heap[w.heap.size + 1]? = some (.cells (unC uk (en : Int) (sn : Int) pa ui (cn : Int) da dn dc ucd ga gn gc) tUn (0, 0)) := by
    rw [hw1]
    have h9 := heap_alloc_new (w.alloc (.cells #[.int .u64 (en : Int), .int .u64 (sn : Int)] tRs)) (.cells (unC uk (en : Int) (sn : Int) pa ui (cn : Int) da dn dc ucd ga gn gc) tUn)
    rw [World.size_alloc] at h9
    exact ((al (Below.refl _ ((w.alloc (.cells #[.int .u64 (en : Int), .int .u64 (sn : Int)] tRs)).alloc (.cells (unC uk (en : Int) (sn : Int) pa ui (cn : Int) da dn dc ucd ga gn gc) tUn))) _).block _ (by simp)).trans h9
  have hA1 : w1.heap[w.heap.size + 2]? = some (.cells #[.int .i64 0, .int .i64 0, .slice none 0 0, .slice none 0 0] tRa (0, 0)) := by
    rw [hw1]
    have h9 := heap_alloc_new ((w.alloc (.cells #[.int .u64 (en : Int), .int .u64 (sn : Int)] tRs)).alloc (.cells (unC uk (en : Int) (sn : Int) pa ui (cn : Int) da dn dc ucd ga gn gc) tUn)) (.cells #[.int .i64 0, .int .i64 0, .slice none 0 0, .slice none 0 0] tRa)
    rw [World.size_alloc, World.size_alloc] at h9
    exact h9
  have hR1 := h.below hb1
  have HOP : Hid (Calls _ _ _ w1 _) := ropen_t hR1.m (en, sn) (by have := h.lenO; omega)
  have HR1 : Hid _ := hR1
  have HH : Hid _ := h
  have HB1 : Hid _ := hb1
  have HW1 : Hid (w1 = _) := hw1
  have HZ1 : Hid _ := hz1
  have HS1 : Hid _ := hS1
  have HU1 : Hid _ := hU1
  have HA1 : Hid _ := hA1
  have HXD : Hid (∀ u, Below w1.heap.size w1 u → Rd u da ux) := fun u hu => Rd.below hx (below_next hb1 hu)
  clear h hR1 hb1 hw1 hz1 hS1 hU1 hA1 hn hx hdz hnh hnO hep hc1 hc2
  go_enter Tryz.func52, Tryz.ntmps52
  go_wp2_with fail
  rw [← HW1.out]
  refine Calls.mono HOP.out ?_
  rintro e2 w2 ⟨hfd, hb2⟩
  rcases hfd with ⟨i, hi, hix, rfl⟩ | ⟨hno, rfl⟩
  · exact absurd (by rw [HH.out.ksO, ← ks_mp Bg.q, ← hix]; exact mem_ks (List.getElem_mem _)) HNO.out
  · have hs2 : w2.heap[w.heap.size]? = _ := (hb2.block _ (Array.getElem?_eq_some_iff.1 HS1.out).1).trans HS1.out
    have hs20 : w2.cell? ⟨w.heap.size, 0, none⟩ = some (.int .u64 (en : Int)) := by rw [cell_of_row _ _ _ _ _ _ hs2]; rfl
    have hs21 : w2.cell? ⟨w.heap.size, 1, none⟩ = some (.int .u64 (sn : Int)) := by rw [cell_of_row _ _ _ _ _ _ hs2]; rfl
    obtain ⟨a1, c1, hv1, -, -, -, -⟩ := OwnG.val HR1.out.m.ro
    subst hv1
    obtain ⟨n1, hn1⟩ : ∃ n1, n1 = (mp Bg.q E).length := ⟨_, rfl⟩
    rw [← hn1] at HR1
    have HHn : Hid (Rv w q (.slice a1 n1 c1) vs J E) := by have h9 := HH.out; rw [← hn1] at h9; exact h9
    have HN1 : Hid _ := hn1
    obtain ⟨wa, hwa⟩ : ∃ wa, wa = w2.alloc (.cells #[.int .u64 (en : Int), .int .u64 (sn : Int), .pointer none] KO.t) := ⟨_, rfl⟩
    have hba : Below w1.heap.size w1 wa := by rw [hwa]; exact al hb2 _
    have hta : wa.heap[w2.heap.size]? = some (.cells #[.int .u64 (en : Int), .int .u64 (sn : Int), .pointer none] KO.t (0, 0)) := by rw [hwa]; exact heap_alloc_new _ _
    have HNW : Hid (Calls _ _ _ wa _) := qnew (cn : Int) wa
    have hUa := (hba.block _ (Array.getElem?_eq_some_iff.1 HU1.out).1).trans HU1.out
    have hua := unBox hUa
    have HWA : Hid (wa = _) := hwa
    have HBA : Hid _ := hba
    have HTA : Hid _ := hta
    have HZ2a : Hid (w.heap.size + 3 ≤ w2.heap.size) := by unfold Hid; rw [← HZ1.out]; exact hb2.size
    have HZ12 : Hid (w1.heap.size ≤ w2.heap.size) := hb2.size
    have hu5 : ∀ o, (w2.alloc o).cell? ⟨w.heap.size + 1, 5, none⟩ = some (.int .i64 (cn : Int)) := fun o => by
      have h9 := ((al hb2 o).block _ (Array.getElem?_eq_some_iff.1 HU1.out).1).trans HU1.out
      exact (unBox h9).2.2.2.2.2.1
    clear hb2 hs2 hn1 hba hta hUa hwa hno hua
    go_wp2_with fail
    rw [← HWA.out]
    refine Calls.mono HNW.out ?_
    rintro e3 wb ⟨qv, Gb, rfl, -, hbb, hGb, hbbb⟩
    rw [newSt_n HC1.out HC2.out] at hbb
    obtain ⟨bq, hbq⟩ := hbb.ptr
    subst hbq
    have hla : w2.heap.size < wa.heap.size := (Array.getElem?_eq_some_iff.1 HTA.out).1
    have htb := (hbbb.block _ hla).trans HTA.out
    have tb2 : wb.cell? ⟨w2.heap.size, 2, none⟩ = some (.pointer none) := by rw [cell_of_row _ _ _ _ _ _ htb]; rfl
    have fb2 : wb.frozen? ⟨w2.heap.size, 2, none⟩ = false := by simp [World.frozen?, htb]
    obtain ⟨w3, hw3⟩ : ∃ w3, w3 = wb.setCell ⟨w2.heap.size, 2, none⟩ (.pointer (some ⟨bq, 0, none⟩)) := ⟨_, rfl⟩
    have ht3 : w3.heap[w2.heap.size]? = some (.cells #[.int .u64 (en : Int), .int .u64 (sn : Int), .pointer (some ⟨bq, 0, none⟩)] KO.t (0, 0)) := by rw [hw3]; exact heap_setCell_same wb w2.heap.size 2 _ _ _ htb
    have hb3 : Below w1.heap.size w1 w3 := by rw [hw3]; exact (below_next HBA.out hbbb).setCell (p := ⟨w2.heap.size, 2, none⟩) HZ12.out _
    have hG3 : ∀ c, Gb c → w2.heap.size < c := fun c hc => by have := hGb c hc; omega
    have hbx3 : RBx w3 (some ⟨bq, 0, none⟩) (some (List.replicate cn [])) Gb := by
      rw [hw3]
      exact hbb.kept (by simp) (fun c hc => Below.heap_setCell _ _ _ _ (fun e => by have h9 := hG3 c hc; simp only at e; omega))
    have HW3 : Hid (w3 = _) := hw3
    have HB3 : Hid _ := hb3
    have HT3 : Hid _ := ht3
    have HG3 : Hid _ := hG3
    have HX3 : Hid _ := hbx3
    have HQC : Hid (∀ u, Below w3.heap.size w3 u → Calls Tryz.prog 76 #[.pointer (some ⟨bq, 0, none⟩)] u fun e w' => e = .returned (.int .i64 (cn : Int)) ∧ w' = u) := fun u hu => by
      have h9 := qcount (HX3.out.below hu)
      have e9 : cntS (some (List.replicate cn ([] : Seg))) = cn := List.length_replicate
      rw [e9] at h9
      exact h9
    have hk3 : ∀ u, Below w3.heap.size w3 u → u.cell? ⟨w2.heap.size, 2, none⟩ = some (.pointer (some ⟨bq, 0, none⟩)) ∧ u.cell? ⟨w.heap.size + 1, 5, none⟩ = some (.int .i64 (cn : Int)) := fun u hu => by
      have h9 := (hu.block _ (Array.getElem?_eq_some_iff.1 HT3.out).1).trans HT3.out
      have h8 := ((below_next HB3.out hu).block _ (Array.getElem?_eq_some_iff.1 HU1.out).1).trans HU1.out
      exact ⟨by rw [cell_of_row _ _ _ _ _ _ h9]; rfl, (unBox h8).2.2.2.2.2.1⟩
    clear hbb hGb hbbb hla htb hw3 ht3 hb3 hG3 hbx3 hs20 hs21 hu5
    go_upto_region 6 with fail
    rw [← HW3.out]
    clear tb2 fb2
    refine wp_region_held_drew (S := (fun u => Below w3.heap.size w3 u)) (by kernel_rfl) (by first | exact (Below.refl _ _).drew | assumption) (fun hHeld => ?_)
    refine tz (i := 0) 33 rfl rfl hHeld ?_
    simp only [pS]
    refine tz (i := 1) 34 rfl rfl hHeld ?_
    simp only [pS]
    refine tz (i := 3) 36 rfl rfl hHeld ?_
    simp only [pS]
    refine tz (i := 4) 37 rfl rfl hHeld ?_
    simp only [pS]
    refine run_at (i := 2) rfl (by kernel_rfl) (by rfl) (fun K hK => ?_)
    simp only [List.getElem_toArray, List.getElem_cons_zero, List.getElem_cons_succ]
    go_simp
    (go_at_call 76; refine Calls.mono (HQC.out _ (by assumption)) ?_; rintro e u4 ⟨rfl, hu4⟩; subst hu4)
    go_wp2_with fail
    refine hK.out _ _ (by first | exact (Below.refl _ _).drew | assumption) ?_
    clear hK K
    intro hHeld2
    clear hHeld
    have hHeld := hHeld2
    clear hHeld2
    try simp only [pS]
    refine tz (i := 5) 38 rfl rfl hHeld ?_
    simp only [pS]
    refine wpAnyH_done (by kernel_rfl) ?_ _
    obtain ⟨w4, hw4⟩ : ∃ w4, w4 = w3.drew := ⟨_, rfl⟩
    have hb4 : Below w1.heap.size w1 w4 := by rw [hw4]; exact below_next HB3.out (Below.refl _ _).drew
    rw [← hw4]
    have hb34 : Below w3.heap.size w3 w4 := by rw [hw4]; exact (Below.refl _ _).drew
    have HB4 : Hid (Below w.heap.size w w4) := below_next HB1.out hb4
    have HA4 : Hid _ := (hb4.block _ (Array.getElem?_eq_some_iff.1 HA1.out).1).trans HA1.out
    have HU4 : Hid _ := (hb4.block _ (Array.getElem?_eq_some_iff.1 HU1.out).1).trans HU1.out
    have HT4 : Hid _ := (hb34.block _ (Array.getElem?_eq_some_iff.1 HT3.out).1).trans HT3.out
    have HX4 : Hid _ := HX3.out.below hb34
    have HPU : Hid (Calls _ _ _ w4 _) := qput HX4.out ui da dn dc ux HDN.out (HXD.out w4 hb4) HDZ.out (by have := HDN.out; omega)
    have hu4 := unBox HU4.out
    have ht4 : w4.cell? ⟨w2.heap.size, 2, none⟩ = some (.pointer (some ⟨bq, 0, none⟩)) := by rw [cell_of_row _ _ _ _ _ _ HT4.out]; rfl
    have HZ2 : Hid (w.heap.size + 3 ≤ w2.heap.size ∧ w2.heap.size < w4.heap.size) := ⟨HZ2a.out, (Array.getElem?_eq_some_iff.1 HT4.out).1⟩
    clear hb4 hw4 hb34 hk3 hHeld
    go_wp2_with fail
    refine Calls.mono HPU.out ?_
    rintro e5 w5 ⟨rfl, hl5⟩
    obtain ⟨F5, hb5, hf5⟩ := hl5.ex
    have hc5 := hl5.chg
    have HB5 : Hid (Below w.heap.size w w5) := HB4.out.trans (hc5.below (B := w.heap.size) (fun c hc => by have := HG3.out c hc; have := HZ2a.out; omega) HB4.out.size)
    have HA5 : Hid _ := (hc5.block _ (Array.getElem?_eq_some_iff.1 HA4.out).1 (fun h9 => by have := HG3.out _ h9; have := HZ2a.out; omega)).trans HA4.out
    have HT5 : Hid _ := (hc5.block _ (Array.getElem?_eq_some_iff.1 HT4.out).1 (fun h9 => by have := HG3.out _ h9; omega)).trans HT4.out
    have HF5 : Hid (∀ c, F5 c → w.heap.size + 3 ≤ c) := fun c hc => by
      have h7 := HZ2.out
      rcases hf5 c hc with h9 | h9
      · have := HG3.out c h9; omega
      · omega
    obtain ⟨er, her⟩ : ∃ er, er = putE (some (List.replicate cn [])) ui ux := ⟨_, rfl⟩
    rw [← her]
    have h0 : er = 0 := by rw [her]; exact HER.out
    have h0b : (er != 0) = false := by rw [h0]; decide
    have hS5 : putS (some (List.replicate cn [])) ui ux = some SP := by rw [putS_L, HSP.out]
    rw [hS5] at hb5
    have HX5 : Hid _ := hb5
    obtain ⟨mo, hmo⟩ : ∃ mo, mo = J.mo := ⟨_, rfl⟩
    have HMO : Hid _ := hmo
    have hm5 := (HHn.out.below HB5.out).m
    rw [← hmo] at hm5
    have hk13 : w5.cell? ⟨q, 3, none⟩ = some (.slice a1 n1 c1) ∧ w5.cell? ⟨q, 0, none⟩ = some (.int .i64 (mo : Int)) := ⟨hm5.cell.2.2.2.1, hm5.cell.1⟩
    have hge : ¬ (mo : Int) ≤ (n1 : Int) := by rw [HN1.out, hmo, len_mp]; have := HFL.out; omega
    clear hl5 hb5 hf5 hc5 her hu4 ht4 h0 hS5 hm5 hmo
    go_wp2_with fail
    refine wp_region_noPanic ?_
    refine wp_region_held_drew (S := (fun u => u.cell? ⟨q, 3, none⟩ = some (.slice a1 n1 c1) ∧ u.cell? ⟨q, 0, none⟩ = some (.int .i64 (mo : Int)))) (by kernel_rfl) (by first | exact hk13 | assumption) (fun hHeld => ?_)
    refine tz (i := 0) 59 rfl rfl hHeld ?_
    simp only [pS]
    refine tz (i := 1) 60 rfl rfl hHeld ?_
    simp only [pS]
    refine tz (i := 2) 61 rfl rfl hHeld ?_
    simp only [pS]
    refine tz (i := 3) 62 rfl rfl hHeld ?_
    simp only [pS]
    refine tz (i := 4) 63 rfl rfl hHeld ?_
    simp only [pS]
    refine tz (i := 5) 64 rfl rfl hHeld ?_
    simp only [pS]
    refine tz (i := 6) 65 rfl rfl hHeld ?_
    simp only [pS]
    refine tz (i := 7) 66 rfl rfl hHeld ?_
    simp only [pS]
    refine tz (i := 8) 67 rfl rfl hHeld ?_
    simp only [pS]
    refine tz (i := 9) 68 rfl rfl hHeld ?_
    simp only [pS]
    refine wpAnyH_done (by kernel_rfl) ?_ _
    refine NoPanic.normal ?_
    obtain ⟨wc, hwc⟩ : ∃ wc, wc = w5.drew := ⟨_, rfl⟩
    have hbc : Below w5.heap.size w5 wc := by rw [hwc]; exact (Below.refl _ _).drew
    rw [← hwc]
    have HBC : Hid (Below w.heap.size w wc) := below_next HB5.out hbc
    have HAC : Hid _ := (hbc.block _ (Array.getElem?_eq_some_iff.1 HA5.out).1).trans HA5.out
    have HTC : Hid _ := (hbc.block _ (Array.getElem?_eq_some_iff.1 HT5.out).1).trans HT5.out
    have HXC : Hid _ := HX5.out.below hbc
    clear hbc hwc hHeld hk13
    obtain ⟨w6, hw6⟩ : ∃ w6, w6 = wc := ⟨_, rfl⟩
    have HSX : Hid (SgX w w6 q w2.heap.size (.slice a1 n1 c1) vs J E (en, sn) bq SP O9) := by rw [HO9.out, hw6]; exact SgX.new HHn.out HBC.out HNO.out HAC.out HTC.out HZ2a.out HXC.out HF5.out HFL.out HEP.out HNH.out
    rw [← hw6]
    clear hw6
    obtain ⟨v6, E0, bF, F6, hsg, hsub, hdj, hbF, hO, hok, hl0⟩ := HSX.out.ex
    obtain ⟨a6, c6, hv6, -, -, -, -⟩ := OwnG.val hsg.m.ro
    obtain ⟨X6, hX6⟩ : ∃ X6, X6 = mp Bg.q E0 := ⟨_, rfl⟩
    obtain ⟨n6, hn6⟩ : ∃ n6, n6 = X6.length := ⟨_, rfl⟩
    rw [← hX6, ← hn6] at hv6
    subst hv6
    have hm6 := hsg.m
    rw [← hX6] at hm6
    have hnl : n6 ≤ 64 := by rw [hn6, hX6, len_mp]; exact hl0
    have HOW : Hid (∀ u, Below w6.heap.size w6 u → OwnG KO u 0 (.slice a6 n6 c6) X6) := fun u hu => OwnG.below hm6.ro hu
    have HCQ : Hid (∀ u, Below w6.heap.size w6 u → u.cell? ⟨q, 3, none⟩ = some (.slice a6 n6 c6)) := fun u hu => (hm6.below hu).cell.2.2.2.1
    have HCS : Hid (∀ u, Below w6.heap.size w6 u → _) := fun u hu => opK ((hu.block _ (Array.getElem?_eq_some_iff.1 hsg.o).1).trans hsg.o)
    have HQ : Hid (∀ u u', Below w6.heap.size w6 u → u.grownBy u' (Value.slice a6 n6 c6).ownBlock → u'.cell? ⟨q, 3, none⟩ = some (.slice a6 n6 c6) ∧ u'.frozen? ⟨q, 3, none⟩ = false) := fun u u' hu hg => by
      have h9 := hm6.below hu
      have h8 : u'.heap[q]? = u.heap[q]? := hg.block q (Array.getElem?_eq_some_iff.1 h9.hp).1 (fun e => h9.oq e.symm)
      exact ⟨(World.cell?_of_block h8).trans h9.cell.2.2.2.1, (World.frozen?_of_block h8).trans (h9.fz 3)⟩
    have HPH : Hid (∀ (u u' : World) (gz nz cz : Nat), Below w6.heap.size w6 u → OwnG KO u' 0 (.slice (some ⟨gz, 0, none⟩) nz cz) (X6 ++ [((en, sn), bq)]) → u.grownBy u' (Value.slice a6 n6 c6).ownBlock → ((Value.slice a6 n6 c6).ownBlock = some gz ∨ u.heap.size ≤ gz) → SgU w (u'.setCell ⟨q, 3, none⟩ (.slice (some ⟨gz, 0, none⟩) nz cz)) q w2.heap.size (.slice a1 n1 c1) vs J E O9 bq SP) := fun u u' gz nz cz hb ho hg ha => hsg.push HHn.out hsub hdj hbF hO hok hb (by rw [← hX6]; exact ho) hg ha
    have HLE : Hid (n6 = X6.length) := hn6
    clear hsg hsub hdj hbF hO hok hl0 hX6 hn6 hm6
    go_wp2_with fail
    refine wp_region_noPanic ?_
    refine wp_region_late_drew (S := (fun u => Below w6.heap.size w6 u)) (X := [7, 8, 9, 10]) (by kernel_rfl) (by with_reducible first | exact (Below.refl _ _).drew | exact al (Below.refl _ _).drew _ | exact al hHeld _ | exact (al (Below.refl _ _) _).drew) (fun hHeld => ?_)
    refine take_atA (i := 0) 71 (v := ?_) rfl rfl (by kernel_rfl) (by kernel_rfl) (by kernel_rfl) (by decide) (fun _ _ _ h => h) (by rfl) ?_ hHeld ?_
    rotate_left
    · (intro w; go_simp; try with_reducible rfl)
    simp only [pS]
    refine take_atA (i := 1) 72 (v := ?_) rfl rfl (by kernel_rfl) (by kernel_rfl) (by kernel_rfl) (by decide) (fun _ _ _ h => h) (by rfl) ?_ hHeld ?_
    rotate_left
    · (intro w; go_simp; try with_reducible rfl)
    simp only [pS]
    refine take_atA (i := 2) 73 (v := ?_) rfl rfl (by kernel_rfl) (by kernel_rfl) (by kernel_rfl) (by decide) (fun _ _ _ h => h) (by rfl) ?_ hHeld ?_
    rotate_left
    · (intro w; go_simp; try with_reducible rfl)
    simp only [pS]
    refine take_atA (i := 3) 74 (v := ?_) rfl rfl (by kernel_rfl) (by kernel_rfl) (by kernel_rfl) (by decide) (fun _ _ _ h => h) (by rfl) ?_ hHeld ?_
    rotate_left
    · (intro w; go_simp; try with_reducible rfl)
    simp only [pS]
    refine take_atL (i := 4) 75 (v := .slice a6 n6 c6) rfl rfl (by kernel_rfl) (by kernel_rfl) (by kernel_rfl) (by kernel_rfl) (fun _ _ _ h => h) (by rfl) ?_ hHeld ?_
    · (intro w hSw; have hc9 := HCQ.out _ hSw; go_simp; try with_reducible rfl)
    simp only [pS]
    refine take_atL (i := 5) 76 (v := .agg #[.int .u64 (en : Int), .int .u64 (sn : Int), .pointer (some ⟨bq, 0, none⟩)]) rfl rfl (by kernel_rfl) (by kernel_rfl) (by kernel_rfl) (by kernel_rfl) (fun _ _ _ h => h) (by rfl) ?_ hHeld ?_
    · (intro w hSw; have hc9 := HCS.out _ hSw; go_simp; try with_reducible rfl)
    simp only [pS]
    refine run_atL (i := 6) rfl (by kernel_rfl) (by rfl) (fun K hK => ?_)
    simp only [List.getElem_toArray, List.getElem_cons_zero, List.getElem_cons_succ]
    go_simp
    go_wp2_with fail
    refine hK.out _ _ (by with_reducible first | exact (Below.refl _ _).drew | exact al (Below.refl _ _).drew _ | exact al hHeld _ | exact (al (Below.refl _ _) _).drew) ?_
    clear hK K
    intro hHeld2
    clear hHeld
    have hHeld := hHeld2
    clear hHeld2
    try simp only [pS]
    refine run_atLate (i := 7) rfl (by kernel_rfl) (by decide) (by rfl) (fun K hK => ?_)
    simp only [List.getElem_toArray, List.getElem_cons_zero, List.getElem_cons_succ]
    (refine wpo_appG1 (K := KO) _ _ rfl 0 (.slice a6 n6 c6) X6 ((en, sn), bq) n6 HLE.out ⟨w6.heap.size, 0, none⟩ 1 rfl (HOW.out _ (al (Below.refl _ _).drew _)) rfl (rdG_lit (K := KO) (heap_alloc_new _ _) rfl) (by show (n6 + 1) * 24 ≤ _; omega) (by simp only [maxLen]; omega) (Nat.zero_le _) ?_; intro g8 c8 w8 hown8 hg8 hat8; obtain ⟨hcq, hfq⟩ := HQ.out _ _ (al (Below.refl _ _).drew _) hg8; have HO8 : Hid _ := hown8; have HG8 : Hid _ := hg8; have HT8 : Hid _ := hat8; clear hown8 hg8 hat8)
    refine hK.out _ _ ?_
    clear hK K
    try simp only [pS]
    refine val_atLate (i := 8) 79 (v := ?_) rfl rfl (by kernel_rfl) (by decide) (by rfl) ?_ ?_
    rotate_left
    · (go_simp; try with_reducible rfl)
    simp only [pS]
    refine val_atLate (i := 9) 80 (v := ?_) rfl rfl (by kernel_rfl) (by decide) (by rfl) ?_ ?_
    rotate_left
    · (go_simp; try with_reducible rfl)
    simp only [pS]
    refine run_atLate (i := 10) rfl (by kernel_rfl) (by decide) (by rfl) (fun K hK => ?_)
    simp only [List.getElem_toArray, List.getElem_cons_zero, List.getElem_cons_succ]
    go_simp
    go_wp2_with fail
    refine hK.out _ _ ?_
    clear hK K
    try simp only [pS]
    refine doneL (by kernel_rfl) ?_ _
    refine NoPanic.normal ?_
    have HU8 : Hid (Below w6.heap.size w6 (w6.drew.alloc (.cells #[.int .u64 (en : Int), .int .u64 (sn : Int), .pointer (some ⟨bq, 0, none⟩)] KO.t))) := al (Below.refl _ _).drew _
    have hsu := HPH.out _ _ _ _ _ HU8.out HO8.out HG8.out HT8.out
    obtain ⟨w9, hw9⟩ : ∃ w9, w9 = w8.setCell ⟨q, 3, none⟩ (.slice (some ⟨g8, 0, none⟩) (n6 + 1) c8) := ⟨_, rfl⟩
    rw [← hw9] at hsu ⊢
    have ht9 := hsu.o
    obtain ⟨F9, hbx9⟩ := hsu.bx
    have HQW : Hid (Calls _ _ _ w9 _) := qwhole hbx9
    have HQG : Hid (∀ u, Below w9.heap.size w9 u → Calls _ _ _ u _) := fun u hu => qgot (hbx9.below hu)
    have HXL : Hid _ := wholeX_leR hbx9
    have HSU : Hid _ := hsu
    have HTT : Hid (∀ u, Below w9.heap.size w9 u → u.cell? ⟨w2.heap.size, 2, none⟩ = some (.pointer (some ⟨bq, 0, none⟩))) := fun u hu => (hu.cell (World.block_lt_of_cell? _ _ ht9)).trans ht9
    clear hsu hbx9 hw9 hcq hfq
    go_wp2_with fail
    refine Calls.mono HQW.out ?_
    rintro e10 w10 ⟨u10, rfl, hown10, hb10⟩
    obtain ⟨ao, cap, rfl, -, -, -, -, -⟩ := Own.val hown10
    obtain ⟨N, hN⟩ : ∃ N, N = (wholeX (some SP)).length := ⟨_, rfl⟩
    rw [← hN]
    have hA10 := (hb10.block _ (Array.getElem?_eq_some_iff.1 HSU.out.an).1).trans HSU.out.an
    have HO10 : Hid (Own w10 w9.heap.size (.slice ao N cap) (wholeX (some SP))) := by rw [hN]; exact hown10
    have HB10 : Hid _ := hb10
    by_cases hwh : wholeB (some SP) = true
    · rw [hwh]
      obtain ⟨b0, b1, b2, b3, f0, f1, f2, f3⟩ := ansCellR hA10
      have HWH : Hid _ := hwh
      clear hown10 hb10 hN hA10 hwh ht9
      go_wp2
      have hST : Chg (fun b => b = w.heap.size + 2) w10 ((((w10.setCell ⟨w.heap.size + 2, 0, none⟩ (.int .i64 4)).setCell ⟨w.heap.size + 2, 1, none⟩ (.int .i64 0)).setCell ⟨w.heap.size + 2, 2, none⟩ (.slice none 0 0)).setCell ⟨w.heap.size + 2, 3, none⟩ (.slice ao N cap)) := Chg.of_grown ((((gset1 w10 (w.heap.size + 2) 0 _).trans' (gset1 _ (w.heap.size + 2) 1 _)).trans' (gset1 _ (w.heap.size + 2) 2 _)).trans' (gset1 _ (w.heap.size + 2) 3 _)) (fun b e => (Option.some.inj e).symm)
      exact bodyPost_ret (v := ansV ⟨4, 0, some SP⟩ none ao 0 0 N cap) (by simp [results, Tryz.results52, go_sem, b0, b1, b2, b3, f0, f1, f2, f3]) rfl (by rw [HT.out.1, HT.out.2, tell_w HWH.out]; have h9 := HSU.out.fin (rs := []) HB10.out hST ⟨OwnR.nil _ _, HO10.out, ansR_w HWH.out, by simp, HXL.out⟩; rw [HN1.out] at h9; exact h9)
    · rw [show wholeB (some SP) = false by simpa using hwh]
      have ht10 := HTT.out w10 hb10
      have HG10 : Hid (Calls _ _ _ w10 _) := HQG.out w10 hb10
      have HWH : Hid _ := hwh
      have HA10 : Hid _ := hA10
      clear hown10 hb10 hN hA10 hwh ht9
      go_wp2_with fail
      refine Calls.mono HG10.out ?_
      rintro e11 w11 ⟨v11, rs, rfl, hown11, hgot, hlen, hb11⟩
      obtain ⟨ga', gc', rfl, -, -, -, -, -⟩ := OwnR.val hown11
      have hA11 := (hb11.block _ (Array.getElem?_eq_some_iff.1 HA10.out).1).trans HA10.out
      obtain ⟨b0, b1, b2, b3, f0, f1, f2, f3⟩ := ansCellR hA11
      obtain ⟨M, hM⟩ : ∃ M, M = rs.length := ⟨_, rfl⟩
      rw [← hM]
      have HO11 : Hid (OwnR w11 w9.heap.size (.slice ga' M gc') rs) := by rw [hM]; exact OwnR.base hown11 HB10.out.size
      have HGT : Hid _ := hgot
      have HL : Hid _ := hlen
      have HB11 : Hid (Below w9.heap.size w9 w11) := below_next HB10.out hb11
      clear hown11 hgot hlen hb11 hM hA11 ht10
      go_wp2
      have hST : Chg (fun b => b = w.heap.size + 2) w11 ((((w11.setCell ⟨w.heap.size + 2, 0, none⟩ (.int .i64 3)).setCell ⟨w.heap.size + 2, 1, none⟩ (.int .i64 0)).setCell ⟨w.heap.size + 2, 2, none⟩ (.slice ga' M gc')).setCell ⟨w.heap.size + 2, 3, none⟩ (.slice none 0 0)) := Chg.of_grown ((((gset1 w11 (w.heap.size + 2) 0 _).trans' (gset1 _ (w.heap.size + 2) 1 _)).trans' (gset1 _ (w.heap.size + 2) 2 _)).trans' (gset1 _ (w.heap.size + 2) 3 _)) (fun b e => (Option.some.inj e).symm)
      exact bodyPost_ret (v := ansV ⟨3, 0, some SP⟩ ga' none M gc' 0 0) (by simp [results, Tryz.results52, go_sem, b0, b1, b2, b3, f0, f1, f2, f3]) rfl (by rw [HT.out.1, HT.out.2, tell_n HWH.out]; have h9 := HSU.out.fin (xs := []) HB11.out hST ⟨HO11.out, World.ownsRow_nil _ _ _ _, ansR_n HWH.out HGT.out, HL.out, by simp⟩; rw [HN1.out] at h9; exact h9)
end
end Go.Proofs.YtdoikcolkbjnfaaGreat
namespace Go.Proofs.YtdoikcolkbjnfaaGreat
set_option linter.unusedVariables false
set_option linter.unusedSimpArgs false
open Go.RowKit Go.Maps
section
variable {w w' : World} {q : Nat} {vo vs : Value} {J : Ib} {E : List (Ss × Bg)}
set_option maxRecDepth 20000
set_option maxHeartbeats 6400000
theorem rseg_nfull (h : Rv w q vo vs J E) (uk : Int) (en sn : Nat) (pa ui uc : Int) (ux : List UInt8) (ucd : Int) (ul : List Rg) (da : Option Addr) (dn dc : Nat) (ga : Option Addr) (gn gc : Nat) (hn : dn = ux.length) (hx : Rd w da ux) (hdz : da = none → dc = 0) (hxl : ux.length ≤ 1024) (cn : Nat) (huc : (cn : Int) = uc) (hc1 : 1 ≤ cn) (hc2 : cn ≤ 64) (hnO : (en, sn) ∉ ks J.O) (hnh : (en, sn) ∉ ks J.H) (hep : en = J.ep) (her : putE (some (List.replicate cn [])) ui ux = 0) (hfl : J.mo ≤ E.length) : Calls Tryz.prog 52 #[.pointer (some ⟨q, 0, none⟩), sv (en, sn), unV (⟨uk, (en : Int), (sn : Int), pa, ui, uc, ux, ucd, ul⟩ : Un) da dn dc ga gn gc] w fun e w' => TkV w q vo vs E (segI J (⟨uk, (en : Int), (sn : Int), pa, ui, uc, ux, ucd, ul⟩ : Un)) (segA J (⟨uk, (en : Int), (sn : Int), pa, ui, uc, ux, ucd, ul⟩ : Un)) e w' := by
  subst huc
  obtain ⟨SP, hSP⟩ : ∃ SP, SP = putL (List.replicate cn []) ui ux := ⟨_, rfl⟩
  obtain ⟨O9, hO9⟩ : ∃ O9, O9 = pt J.mo J.O (en, sn) SP := ⟨_, rfl⟩
  have hb : boxU J (⟨uk, (en : Int), (sn : Int), pa, ui, (cn : Int), ux, ucd, ul⟩ : Un) = List.replicate cn [] := by unfold boxU; rw [show lk J.O (sesU (⟨uk, (en : Int), (sn : Int), pa, ui, (cn : Int), ux, ucd, ul⟩ : Un)) = none from lk_none.2 hnO]; show List.replicate (cn : Int).toNat [] = _; rw [Int.toNat_natCast]
  have HT : Hid (segI J (⟨uk, (en : Int), (sn : Int), pa, ui, (cn : Int), ux, ucd, ul⟩ : Un) = { J with O := O9 } ∧ segA J (⟨uk, (en : Int), (sn : Int), pa, ui, (cn : Int), ux, ucd, ul⟩ : Un) = tellA SP) := by
    have h9 : lk J.H (sesU (⟨uk, (en : Int), (sn : Int), pa, ui, (cn : Int), ux, ucd, ul⟩ : Un)) = none := lk_none.2 hnh
    have h8 : goesU J (⟨uk, (en : Int), (sn : Int), pa, ui, (cn : Int), ux, ucd, ul⟩ : Un) = true := by
      unfold goesU
      rw [hb]
      show (decide ((List.replicate cn ([] : Seg)).length = (cn : Int).toNat) && okE (putE (some (List.replicate cn [])) ui ux)) = true
      rw [her, decide_eq_true (by rw [List.length_replicate, Int.toNat_natCast])]
      decide
    unfold Hid segI segA
    rw [h9]
    simp only [h8]
    rw [hb, hO9, hSP]
    exact ⟨rfl, rfl⟩
  have HER : Hid _ := her
  have HFL : Hid _ := hfl
  have HSP : Hid _ := hSP.symm
  have HO9 : Hid _ := hO9
  clear hSP hO9 her hfl hb
  have HC1 : Hid _ := hc1
  have HC2 : Hid _ := hc2
  have HNO : Hid _ := hnO
  have HNH : Hid _ := hnh
  have HEP : Hid (((en, sn) : Ss).1 = J.ep) := hep
  have HDN : Hid _ := hn
  have HDZ : Hid _ := hdz
  obtain ⟨w1, hw1⟩ : ∃ w1, w1 = ((w.alloc (.cells #[.int .u64 (en : Int), .int .u64 (sn : Int)] tRs)).alloc (.cells (unC uk (en : Int) (sn : Int) pa ui (cn : Int) da dn dc ucd ga gn gc) tUn)).alloc (.cells #[.int .i64 0, .int .i64 0, .slice none 0 0, .slice none 0 0] tRa) := ⟨_, rfl⟩
  have hb1 : Below w.heap.size w w1 := by rw [hw1]; exact al (al (al (Below.refl _ _) _) _) _
  have hz1 : w1.heap.size = w.heap.size + 3 := by rw [hw1]; simp
  have hS1 : w1.heap[w.heap.size]? = some (.cells #[.int .u64 (en : Int), .int .u64 (sn : Int)] tRs (0, 0)) := by
    rw [hw1]
    exact ((al (al (Below.refl _ (w.alloc (.cells #[.int .u64 (en : Int), .int .u64 (sn : Int)] tRs))) _) _).block _ (by simp)).trans (heap_alloc_new _ _)
  have hU1 : w1.heap[w.heap.size + 1]? = some (.cells (unC uk (en : Int) (sn : Int) pa ui (cn : Int) da dn dc ucd ga gn gc) tUn (0, 0)) := by
    rw [hw1]
    have h9 := heap_alloc_new (w.alloc (.cells #[.int .u64 (en : Int), .int .u64 (sn : Int)] tRs)) (.cells (unC uk (en : Int) (sn : Int) pa ui (cn : Int) da dn dc ucd ga gn gc) tUn)
    rw [World.size_alloc] at h9
    exact ((al (Below.refl _ ((w.alloc (.cells #[.int .u64 (en : Int), .int .u64 (sn : Int)] tRs)).alloc (.cells (unC uk (en : Int) (sn : Int) pa ui (cn : Int) da dn dc ucd ga gn gc) tUn))) _).block _ (by simp)).trans h9
  have hA1 : w1.heap[w.heap.size + 2]? = some (.cells #[.int .i64 0, .int .i64 0, .slice none 0 0, .slice none 0 0] tRa (0, 0)) := by
    rw [hw1]
    have h9 := heap_alloc_new ((w.alloc (.cells #[.int .u64 (en : Int), .int .u64 (sn : Int)] tRs)).alloc (.cells (unC uk (en : Int) (sn : Int) pa ui (cn : Int) da dn dc ucd ga gn gc) tUn)) (.cells #[.int .i64 0, .int .i64 0, .slice none 0 0, .slice none 0 0] tRa)
    rw [World.size_alloc, World.size_alloc] at h9
    exact h9
  have hR1 := h.below hb1
  have HOP : Hid (Calls _ _ _ w1 _) := ropen_t hR1.m (en, sn) (by have := h.lenO; omega)
  have HR1 : Hid _ := hR1
  have HH : Hid _ := h
  have HB1 : Hid _ := hb1
  have HW1 : Hid (w1 = _) := hw1
  have HZ1 : Hid _ := hz1
  have HS1 : Hid _ := hS1
  have HU1 : Hid _ := hU1
  have HA1 : Hid _ := hA1
  have HXD : Hid (∀ u, Below w1.heap.size w1 u → Rd u da ux) := fun u hu => Rd.below hx (below_next hb1 hu)
  clear h hR1 hb1 hw1 hz1 hS1 hU1 hA1 hn hx hdz hnh hnO hep hc1 hc2
  go_enter Tryz.func52, Tryz.ntmps52
  go_wp2_with fail
  rw [← HW1.out]
  refine Calls.mono HOP.out ?_
  rintro e2 w2 ⟨hfd, hb2⟩
  rcases hfd with ⟨i, hi, hix, rfl⟩ | ⟨hno, rfl⟩
  · exact absurd (by rw [HH.out.ksO, ← ks_mp Bg.q, ← hix]; exact mem_ks (List.getElem_mem _)) HNO.out
  · have hs2 : w2.heap[w.heap.size]? = _ := (hb2.block _ (Array.getElem?_eq_some_iff.1 HS1.out).1).trans HS1.out
    have hs20 : w2.cell? ⟨w.heap.size, 0, none⟩ = some (.int .u64 (en : Int)) := by rw [cell_of_row _ _ _ _ _ _ hs2]; rfl
    have hs21 : w2.cell? ⟨w.heap.size, 1, none⟩ = some (.int .u64 (sn : Int)) := by rw [cell_of_row _ _ _ _ _ _ hs2]; rfl
    obtain ⟨a1, c1, hv1, -, -, -, -⟩ := OwnG.val HR1.out.m.ro
    subst hv1
    obtain ⟨n1, hn1⟩ : ∃ n1, n1 = (mp Bg.q E).length := ⟨_, rfl⟩
    rw [← hn1] at HR1
    have HHn : Hid (Rv w q (.slice a1 n1 c1) vs J E) := by have h9 := HH.out; rw [← hn1] at h9; exact h9
    have HN1 : Hid _ := hn1
    obtain ⟨wa, hwa⟩ : ∃ wa, wa = w2.alloc (.cells #[.int .u64 (en : Int), .int .u64 (sn : Int), .pointer none] KO.t) := ⟨_, rfl⟩
    have hba : Below w1.heap.size w1 wa := by rw [hwa]; exact al hb2 _
    have hta : wa.heap[w2.heap.size]? = some (.cells #[.int .u64 (en : Int), .int .u64 (sn : Int), .pointer none] KO.t (0, 0)) := by rw [hwa]; exact heap_alloc_new _ _
    have HNW : Hid (Calls _ _ _ wa _) := qnew (cn : Int) wa
    have hUa := (hba.block _ (Array.getElem?_eq_some_iff.1 HU1.out).1).trans HU1.out
    have hua := unBox hUa
    have HWA : Hid (wa = _) := hwa
    have HBA : Hid _ := hba
    have HTA : Hid _ := hta
    have HZ2a : Hid (w.heap.size + 3 ≤ w2.heap.size) := by unfold Hid; rw [← HZ1.out]; exact hb2.size
    have HZ12 : Hid (w1.heap.size ≤ w2.heap.size) := hb2.size
    have hu5 : ∀ o, (w2.alloc o).cell? ⟨w.heap.size + 1, 5, none⟩ = some (.int .i64 (cn : Int)) := fun o => by
      have h9 := ((al hb2 o).block _ (Array.getElem?_eq_some_iff.1 HU1.out).1).trans HU1.out
      exact (unBox h9).2.2.2.2.2.1
    clear hb2 hs2 hn1 hba hta hUa hwa hno hua
    go_wp2_with fail
    rw [← HWA.out]
    refine Calls.mono HNW.out ?_
    rintro e3 wb ⟨qv, Gb, rfl, -, hbb, hGb, hbbb⟩
    rw [newSt_n HC1.out HC2.out] at hbb
    obtain ⟨bq, hbq⟩ := hbb.ptr
    subst hbq
    have hla : w2.heap.size < wa.heap.size := (Array.getElem?_eq_some_iff.1 HTA.out).1
    have htb := (hbbb.block _ hla).trans HTA.out
    have tb2 : wb.cell? ⟨w2.heap.size, 2, none⟩ = some (.pointer none) := by rw [cell_of_row _ _ _ _ _ _ htb]; rfl
    have fb2 : wb.frozen? ⟨w2.heap.size, 2, none⟩ = false := by simp [World.frozen?, htb]
    obtain ⟨w3, hw3⟩ : ∃ w3, w3 = wb.setCell ⟨w2.heap.size, 2, none⟩ (.pointer (some ⟨bq, 0, none⟩)) := ⟨_, rfl⟩
    have ht3 : w3.heap[w2.heap.size]? = some (.cells #[.int .u64 (en : Int), .int .u64 (sn : Int), .pointer (some ⟨bq, 0, none⟩)] KO.t (0, 0)) := by rw [hw3]; exact heap_setCell_same wb w2.heap.size 2 _ _ _ htb
    have hb3 : Below w1.heap.size w1 w3 := by rw [hw3]; exact (below_next HBA.out hbbb).setCell (p := ⟨w2.heap.size, 2, none⟩) HZ12.out _
    have hG3 : ∀ c, Gb c → w2.heap.size < c := fun c hc => by have := hGb c hc; omega
    have hbx3 : RBx w3 (some ⟨bq, 0, none⟩) (some (List.replicate cn [])) Gb := by
      rw [hw3]
      exact hbb.kept (by simp) (fun c hc => Below.heap_setCell _ _ _ _ (fun e => by have h9 := hG3 c hc; simp only at e; omega))
    have HW3 : Hid (w3 = _) := hw3
    have HB3 : Hid _ := hb3
    have HT3 : Hid _ := ht3
    have HG3 : Hid _ := hG3
    have HX3 : Hid _ := hbx3
    have HQC : Hid (∀ u, Below w3.heap.size w3 u → Calls Tryz.prog 76 #[.pointer (some ⟨bq, 0, none⟩)] u fun e w' => e = .returned (.int .i64 (cn : Int)) ∧ w' = u) := fun u hu => by
      have h9 := qcount (HX3.out.below hu)
      have e9 : cntS (some (List.replicate cn ([] : Seg))) = cn := List.length_replicate
      rw [e9] at h9
      exact h9
    have hk3 : ∀ u, Below w3.heap.size w3 u → u.cell? ⟨w2.heap.size, 2, none⟩ = some (.pointer (some ⟨bq, 0, none⟩)) ∧ u.cell? ⟨w.heap.size + 1, 5, none⟩ = some (.int .i64 (cn : Int)) := fun u hu => by
      have h9 := (hu.block _ (Array.getElem?_eq_some_iff.1 HT3.out).1).trans HT3.out
      have h8 := ((below_next HB3.out hu).block _ (Array.getElem?_eq_some_iff.1 HU1.out).1).trans HU1.out
      exact ⟨by rw [cell_of_row _ _ _ _ _ _ h9]; rfl, (unBox h8).2.2.2.2.2.1⟩
    clear hbb hGb hbbb hla htb hw3 ht3 hb3 hG3 hbx3 hs20 hs21 hu5
    go_upto_region 6 with fail
    rw [← HW3.out]
    clear tb2 fb2
    refine wp_region_held_drew (S := (fun u => Below w3.heap.size w3 u)) (by kernel_rfl) (by first | exact (Below.refl _ _).drew | assumption) (fun hHeld => ?_)
    refine tz (i := 0) 33 rfl rfl hHeld ?_
    simp only [pS]
    refine tz (i := 1) 34 rfl rfl hHeld ?_
    simp only [pS]
    refine tz (i := 3) 36 rfl rfl hHeld ?_
    simp only [pS]
    refine tz (i := 4) 37 rfl rfl hHeld ?_
    simp only [pS]
    refine run_at (i := 2) rfl (by kernel_rfl) (by rfl) (fun K hK => ?_)
    simp only [List.getElem_toArray, List.getElem_cons_zero, List.getElem_cons_succ]
    go_simp
    (go_at_call 76; refine Calls.mono (HQC.out _ (by assumption)) ?_; rintro e u4 ⟨rfl, hu4⟩; subst hu4)
    go_wp2_with fail
    refine hK.out _ _ (by first | exact (Below.refl _ _).drew | assumption) ?_
    clear hK K
    intro hHeld2
    clear hHeld
    have hHeld := hHeld2
    clear hHeld2
    try simp only [pS]
    refine tz (i := 5) 38 rfl rfl hHeld ?_
    simp only [pS]
    refine wpAnyH_done (by kernel_rfl) ?_ _
    obtain ⟨w4, hw4⟩ : ∃ w4, w4 = w3.drew := ⟨_, rfl⟩
    have hb4 : Below w1.heap.size w1 w4 := by rw [hw4]; exact below_next HB3.out (Below.refl _ _).drew
    rw [← hw4]
    have hb34 : Below w3.heap.size w3 w4 := by rw [hw4]; exact (Below.refl _ _).drew
    have HB4 : Hid (Below w.heap.size w w4) := below_next HB1.out hb4
    have HA4 : Hid _ := (hb4.block _ (Array.getElem?_eq_some_iff.1 HA1.out).1).trans HA1.out
    have HU4 : Hid _ := (hb4.block _ (Array.getElem?_eq_some_iff.1 HU1.out).1).trans HU1.out
    have HT4 : Hid _ := (hb34.block _ (Array.getElem?_eq_some_iff.1 HT3.out).1).trans HT3.out
    have HX4 : Hid _ := HX3.out.below hb34
    have HPU : Hid (Calls _ _ _ w4 _) := qput HX4.out ui da dn dc ux HDN.out (HXD.out w4 hb4) HDZ.out (by have := HDN.out; omega)
    have hu4 := unBox HU4.out
    have ht4 : w4.cell? ⟨w2.heap.size, 2, none⟩ = some (.pointer (some ⟨bq, 0, none⟩)) := by rw [cell_of_row _ _ _ _ _ _ HT4.out]; rfl
    have HZ2 : Hid (w.heap.size + 3 ≤ w2.heap.size ∧ w2.heap.size < w4.heap.size) := ⟨HZ2a.out, (Array.getElem?_eq_some_iff.1 HT4.out).1⟩
    clear hb4 hw4 hb34 hk3 hHeld
    go_wp2_with fail
    refine Calls.mono HPU.out ?_
    rintro e5 w5 ⟨rfl, hl5⟩
    obtain ⟨F5, hb5, hf5⟩ := hl5.ex
    have hc5 := hl5.chg
    have HB5 : Hid (Below w.heap.size w w5) := HB4.out.trans (hc5.below (B := w.heap.size) (fun c hc => by have := HG3.out c hc; have := HZ2a.out; omega) HB4.out.size)
    have HA5 : Hid _ := (hc5.block _ (Array.getElem?_eq_some_iff.1 HA4.out).1 (fun h9 => by have := HG3.out _ h9; have := HZ2a.out; omega)).trans HA4.out
    have HT5 : Hid _ := (hc5.block _ (Array.getElem?_eq_some_iff.1 HT4.out).1 (fun h9 => by have := HG3.out _ h9; omega)).trans HT4.out
    have HF5 : Hid (∀ c, F5 c → w.heap.size + 3 ≤ c) := fun c hc => by
      have h7 := HZ2.out
      rcases hf5 c hc with h9 | h9
      · have := HG3.out c h9; omega
      · omega
    obtain ⟨er, her⟩ : ∃ er, er = putE (some (List.replicate cn [])) ui ux := ⟨_, rfl⟩
    rw [← her]
    have h0 : er = 0 := by rw [her]; exact HER.out
    have h0b : (er != 0) = false := by rw [h0]; decide
    have hS5 : putS (some (List.replicate cn [])) ui ux = some SP := by rw [putS_L, HSP.out]
    rw [hS5] at hb5
    have HX5 : Hid _ := hb5
    obtain ⟨mo, hmo⟩ : ∃ mo, mo = J.mo := ⟨_, rfl⟩
    have HMO : Hid _ := hmo
    have hm5 := (HHn.out.below HB5.out).m
    rw [← hmo] at hm5
    have hk13 : w5.cell? ⟨q, 3, none⟩ = some (.slice a1 n1 c1) ∧ w5.cell? ⟨q, 0, none⟩ = some (.int .i64 (mo : Int)) := ⟨hm5.cell.2.2.2.1, hm5.cell.1⟩
    have hge : (mo : Int) ≤ (n1 : Int) := by rw [HN1.out, hmo, len_mp]; have := HFL.out; omega
    clear hl5 hb5 hf5 hc5 her hu4 ht4 h0 hS5 hm5 hmo
    go_wp2_with fail
    refine wp_region_noPanic ?_
    refine wp_region_held_drew (S := (fun u => u.cell? ⟨q, 3, none⟩ = some (.slice a1 n1 c1) ∧ u.cell? ⟨q, 0, none⟩ = some (.int .i64 (mo : Int)))) (by kernel_rfl) (by first | exact hk13 | assumption) (fun hHeld => ?_)
    refine tz (i := 0) 59 rfl rfl hHeld ?_
    simp only [pS]
    refine tz (i := 1) 60 rfl rfl hHeld ?_
    simp only [pS]
    refine tz (i := 2) 61 rfl rfl hHeld ?_
    simp only [pS]
    refine tz (i := 3) 62 rfl rfl hHeld ?_
    simp only [pS]
    refine tz (i := 4) 63 rfl rfl hHeld ?_
    simp only [pS]
    refine tz (i := 5) 64 rfl rfl hHeld ?_
    simp only [pS]
    refine tz (i := 6) 65 rfl rfl hHeld ?_
    simp only [pS]
    refine tz (i := 7) 66 rfl rfl hHeld ?_
    simp only [pS]
    refine tz (i := 8) 67 rfl rfl hHeld ?_
    simp only [pS]
    refine tz (i := 9) 68 rfl rfl hHeld ?_
    simp only [pS]
    refine wpAnyH_done (by kernel_rfl) ?_ _
    refine NoPanic.normal ?_
    obtain ⟨wc, hwc⟩ : ∃ wc, wc = w5.drew := ⟨_, rfl⟩
    have hbc : Below w5.heap.size w5 wc := by rw [hwc]; exact (Below.refl _ _).drew
    rw [← hwc]
    have HBC : Hid (Below w.heap.size w wc) := below_next HB5.out hbc
    have HAC : Hid _ := (hbc.block _ (Array.getElem?_eq_some_iff.1 HA5.out).1).trans HA5.out
    have HTC : Hid _ := (hbc.block _ (Array.getElem?_eq_some_iff.1 HT5.out).1).trans HT5.out
    have HXC : Hid _ := HX5.out.below hbc
    clear hbc hwc hHeld hk13
    have HOU : Hid (Calls _ _ _ wc _) := rout_t (HHn.out.below HBC.out).m 0 (by rw [len_mp]; have := HFL.out; have := HHn.out.ok.o0; omega) (by have := HHn.out.lenO; omega)
    go_wp2_with fail
    refine Calls.mono HOU.out ?_
    rintro e6 w6 ⟨rfl, v6', hm6', hf6', hc6'⟩
    have HSX : Hid (SgX w w6 q w2.heap.size (.slice a1 n1 c1) vs J E (en, sn) bq SP O9) := by rw [HO9.out]; exact SgX.full HHn.out HBC.out HNO.out HAC.out HTC.out HZ2a.out HXC.out HF5.out HFL.out hm6' hf6' hc6' HEP.out HNH.out
    clear hm6' hf6' hc6'
    obtain ⟨v6, E0, bF, F6, hsg, hsub, hdj, hbF, hO, hok, hl0⟩ := HSX.out.ex
    obtain ⟨a6, c6, hv6, -, -, -, -⟩ := OwnG.val hsg.m.ro
    obtain ⟨X6, hX6⟩ : ∃ X6, X6 = mp Bg.q E0 := ⟨_, rfl⟩
    obtain ⟨n6, hn6⟩ : ∃ n6, n6 = X6.length := ⟨_, rfl⟩
    rw [← hX6, ← hn6] at hv6
    subst hv6
    have hm6 := hsg.m
    rw [← hX6] at hm6
    have hnl : n6 ≤ 64 := by rw [hn6, hX6, len_mp]; exact hl0
    have HOW : Hid (∀ u, Below w6.heap.size w6 u → OwnG KO u 0 (.slice a6 n6 c6) X6) := fun u hu => OwnG.below hm6.ro hu
    have HCQ : Hid (∀ u, Below w6.heap.size w6 u → u.cell? ⟨q, 3, none⟩ = some (.slice a6 n6 c6)) := fun u hu => (hm6.below hu).cell.2.2.2.1
    have HCS : Hid (∀ u, Below w6.heap.size w6 u → _) := fun u hu => opK ((hu.block _ (Array.getElem?_eq_some_iff.1 hsg.o).1).trans hsg.o)
    have HQ : Hid (∀ u u', Below w6.heap.size w6 u → u.grownBy u' (Value.slice a6 n6 c6).ownBlock → u'.cell? ⟨q, 3, none⟩ = some (.slice a6 n6 c6) ∧ u'.frozen? ⟨q, 3, none⟩ = false) := fun u u' hu hg => by
      have h9 := hm6.below hu
      have h8 : u'.heap[q]? = u.heap[q]? := hg.block q (Array.getElem?_eq_some_iff.1 h9.hp).1 (fun e => h9.oq e.symm)
      exact ⟨(World.cell?_of_block h8).trans h9.cell.2.2.2.1, (World.frozen?_of_block h8).trans (h9.fz 3)⟩
    have HPH : Hid (∀ (u u' : World) (gz nz cz : Nat), Below w6.heap.size w6 u → OwnG KO u' 0 (.slice (some ⟨gz, 0, none⟩) nz cz) (X6 ++ [((en, sn), bq)]) → u.grownBy u' (Value.slice a6 n6 c6).ownBlock → ((Value.slice a6 n6 c6).ownBlock = some gz ∨ u.heap.size ≤ gz) → SgU w (u'.setCell ⟨q, 3, none⟩ (.slice (some ⟨gz, 0, none⟩) nz cz)) q w2.heap.size (.slice a1 n1 c1) vs J E O9 bq SP) := fun u u' gz nz cz hb ho hg ha => hsg.push HHn.out hsub hdj hbF hO hok hb (by rw [← hX6]; exact ho) hg ha
    have HLE : Hid (n6 = X6.length) := hn6
    clear hsg hsub hdj hbF hO hok hl0 hX6 hn6 hm6
    go_wp2_with fail
    refine wp_region_noPanic ?_
    refine wp_region_late_drew (S := (fun u => Below w6.heap.size w6 u)) (X := [7, 8, 9, 10]) (by kernel_rfl) (by with_reducible first | exact (Below.refl _ _).drew | exact al (Below.refl _ _).drew _ | exact al hHeld _ | exact (al (Below.refl _ _) _).drew) (fun hHeld => ?_)
    refine take_atA (i := 0) 71 (v := ?_) rfl rfl (by kernel_rfl) (by kernel_rfl) (by kernel_rfl) (by decide) (fun _ _ _ h => h) (by rfl) ?_ hHeld ?_
    rotate_left
    · (intro w; go_simp; try with_reducible rfl)
    simp only [pS]
    refine take_atA (i := 1) 72 (v := ?_) rfl rfl (by kernel_rfl) (by kernel_rfl) (by kernel_rfl) (by decide) (fun _ _ _ h => h) (by rfl) ?_ hHeld ?_
    rotate_left
    · (intro w; go_simp; try with_reducible rfl)
    simp only [pS]
    refine take_atA (i := 2) 73 (v := ?_) rfl rfl (by kernel_rfl) (by kernel_rfl) (by kernel_rfl) (by decide) (fun _ _ _ h => h) (by rfl) ?_ hHeld ?_
    rotate_left
    · (intro w; go_simp; try with_reducible rfl)
    simp only [pS]
    refine take_atA (i := 3) 74 (v := ?_) rfl rfl (by kernel_rfl) (by kernel_rfl) (by kernel_rfl) (by decide) (fun _ _ _ h => h) (by rfl) ?_ hHeld ?_
    rotate_left
    · (intro w; go_simp; try with_reducible rfl)
    simp only [pS]
    refine take_atL (i := 4) 75 (v := .slice a6 n6 c6) rfl rfl (by kernel_rfl) (by kernel_rfl) (by kernel_rfl) (by kernel_rfl) (fun _ _ _ h => h) (by rfl) ?_ hHeld ?_
    · (intro w hSw; have hc9 := HCQ.out _ hSw; go_simp; try with_reducible rfl)
    simp only [pS]
    refine take_atL (i := 5) 76 (v := .agg #[.int .u64 (en : Int), .int .u64 (sn : Int), .pointer (some ⟨bq, 0, none⟩)]) rfl rfl (by kernel_rfl) (by kernel_rfl) (by kernel_rfl) (by kernel_rfl) (fun _ _ _ h => h) (by rfl) ?_ hHeld ?_
    · (intro w hSw; have hc9 := HCS.out _ hSw; go_simp; try with_reducible rfl)
    simp only [pS]
    refine run_atL (i := 6) rfl (by kernel_rfl) (by rfl) (fun K hK => ?_)
    simp only [List.getElem_toArray, List.getElem_cons_zero, List.getElem_cons_succ]
    go_simp
    go_wp2_with fail
    refine hK.out _ _ (by with_reducible first | exact (Below.refl _ _).drew | exact al (Below.refl _ _).drew _ | exact al hHeld _ | exact (al (Below.refl _ _) _).drew) ?_
    clear hK K
    intro hHeld2
    clear hHeld
    have hHeld := hHeld2
    clear hHeld2
    try simp only [pS]
    refine run_atLate (i := 7) rfl (by kernel_rfl) (by decide) (by rfl) (fun K hK => ?_)
    simp only [List.getElem_toArray, List.getElem_cons_zero, List.getElem_cons_succ]
    (refine wpo_appG1 (K := KO) _ _ rfl 0 (.slice a6 n6 c6) X6 ((en, sn), bq) n6 HLE.out ⟨w6.heap.size, 0, none⟩ 1 rfl (HOW.out _ (al (Below.refl _ _).drew _)) rfl (rdG_lit (K := KO) (heap_alloc_new _ _) rfl) (by show (n6 + 1) * 24 ≤ _; omega) (by simp only [maxLen]; omega) (Nat.zero_le _) ?_; intro g8 c8 w8 hown8 hg8 hat8; obtain ⟨hcq, hfq⟩ := HQ.out _ _ (al (Below.refl _ _).drew _) hg8; have HO8 : Hid _ := hown8; have HG8 : Hid _ := hg8; have HT8 : Hid _ := hat8; clear hown8 hg8 hat8)
    refine hK.out _ _ ?_
    clear hK K
    try simp only [pS]
    refine val_atLate (i := 8) 79 (v := ?_) rfl rfl (by kernel_rfl) (by decide) (by rfl) ?_ ?_
    rotate_left
    · (go_simp; try with_reducible rfl)
    simp only [pS]
    refine val_atLate (i := 9) 80 (v := ?_) rfl rfl (by kernel_rfl) (by decide) (by rfl) ?_ ?_
    rotate_left
    · (go_simp; try with_reducible rfl)
    simp only [pS]
    refine run_atLate (i := 10) rfl (by kernel_rfl) (by decide) (by rfl) (fun K hK => ?_)
    simp only [List.getElem_toArray, List.getElem_cons_zero, List.getElem_cons_succ]
    go_simp
    go_wp2_with fail
    refine hK.out _ _ ?_
    clear hK K
    try simp only [pS]
    refine doneL (by kernel_rfl) ?_ _
    refine NoPanic.normal ?_
    have HU8 : Hid (Below w6.heap.size w6 (w6.drew.alloc (.cells #[.int .u64 (en : Int), .int .u64 (sn : Int), .pointer (some ⟨bq, 0, none⟩)] KO.t))) := al (Below.refl _ _).drew _
    have hsu := HPH.out _ _ _ _ _ HU8.out HO8.out HG8.out HT8.out
    obtain ⟨w9, hw9⟩ : ∃ w9, w9 = w8.setCell ⟨q, 3, none⟩ (.slice (some ⟨g8, 0, none⟩) (n6 + 1) c8) := ⟨_, rfl⟩
    rw [← hw9] at hsu ⊢
    have ht9 := hsu.o
    obtain ⟨F9, hbx9⟩ := hsu.bx
    have HQW : Hid (Calls _ _ _ w9 _) := qwhole hbx9
    have HQG : Hid (∀ u, Below w9.heap.size w9 u → Calls _ _ _ u _) := fun u hu => qgot (hbx9.below hu)
    have HXL : Hid _ := wholeX_leR hbx9
    have HSU : Hid _ := hsu
    have HTT : Hid (∀ u, Below w9.heap.size w9 u → u.cell? ⟨w2.heap.size, 2, none⟩ = some (.pointer (some ⟨bq, 0, none⟩))) := fun u hu => (hu.cell (World.block_lt_of_cell? _ _ ht9)).trans ht9
    clear hsu hbx9 hw9 hcq hfq
    go_wp2_with fail
    refine Calls.mono HQW.out ?_
    rintro e10 w10 ⟨u10, rfl, hown10, hb10⟩
    obtain ⟨ao, cap, rfl, -, -, -, -, -⟩ := Own.val hown10
    obtain ⟨N, hN⟩ : ∃ N, N = (wholeX (some SP)).length := ⟨_, rfl⟩
    rw [← hN]
    have hA10 := (hb10.block _ (Array.getElem?_eq_some_iff.1 HSU.out.an).1).trans HSU.out.an
    have HO10 : Hid (Own w10 w9.heap.size (.slice ao N cap) (wholeX (some SP))) := by rw [hN]; exact hown10
    have HB10 : Hid _ := hb10
    by_cases hwh : wholeB (some SP) = true
    · rw [hwh]
      obtain ⟨b0, b1, b2, b3, f0, f1, f2, f3⟩ := ansCellR hA10
      have HWH : Hid _ := hwh
      clear hown10 hb10 hN hA10 hwh ht9
      go_wp2
      have hST : Chg (fun b => b = w.heap.size + 2) w10 ((((w10.setCell ⟨w.heap.size + 2, 0, none⟩ (.int .i64 4)).setCell ⟨w.heap.size + 2, 1, none⟩ (.int .i64 0)).setCell ⟨w.heap.size + 2, 2, none⟩ (.slice none 0 0)).setCell ⟨w.heap.size + 2, 3, none⟩ (.slice ao N cap)) := Chg.of_grown ((((gset1 w10 (w.heap.size + 2) 0 _).trans' (gset1 _ (w.heap.size + 2) 1 _)).trans' (gset1 _ (w.heap.size + 2) 2 _)).trans' (gset1 _ (w.heap.size + 2) 3 _)) (fun b e => (Option.some.inj e).symm)
      exact bodyPost_ret (v := ansV ⟨4, 0, some SP⟩ none ao 0 0 N cap) (by simp [results, Tryz.results52, go_sem, b0, b1, b2, b3, f0, f1, f2, f3]) rfl (by rw [HT.out.1, HT.out.2, tell_w HWH.out]; have h9 := HSU.out.fin (rs := []) HB10.out hST ⟨OwnR.nil _ _, HO10.out, ansR_w HWH.out, by simp, HXL.out⟩; rw [HN1.out] at h9; exact h9)
    · rw [show wholeB (some SP) = false by simpa using hwh]
      have ht10 := HTT.out w10 hb10
      have HG10 : Hid (Calls _ _ _ w10 _) := HQG.out w10 hb10
      have HWH : Hid _ := hwh
      have HA10 : Hid _ := hA10
      clear hown10 hb10 hN hA10 hwh ht9
      go_wp2_with fail
      refine Calls.mono HG10.out ?_
      rintro e11 w11 ⟨v11, rs, rfl, hown11, hgot, hlen, hb11⟩
      obtain ⟨ga', gc', rfl, -, -, -, -, -⟩ := OwnR.val hown11
      have hA11 := (hb11.block _ (Array.getElem?_eq_some_iff.1 HA10.out).1).trans HA10.out
      obtain ⟨b0, b1, b2, b3, f0, f1, f2, f3⟩ := ansCellR hA11
      obtain ⟨M, hM⟩ : ∃ M, M = rs.length := ⟨_, rfl⟩
      rw [← hM]
      have HO11 : Hid (OwnR w11 w9.heap.size (.slice ga' M gc') rs) := by rw [hM]; exact OwnR.base hown11 HB10.out.size
      have HGT : Hid _ := hgot
      have HL : Hid _ := hlen
      have HB11 : Hid (Below w9.heap.size w9 w11) := below_next HB10.out hb11
      clear hown11 hgot hlen hb11 hM hA11 ht10
      go_wp2
      have hST : Chg (fun b => b = w.heap.size + 2) w11 ((((w11.setCell ⟨w.heap.size + 2, 0, none⟩ (.int .i64 3)).setCell ⟨w.heap.size + 2, 1, none⟩ (.int .i64 0)).setCell ⟨w.heap.size + 2, 2, none⟩ (.slice ga' M gc')).setCell ⟨w.heap.size + 2, 3, none⟩ (.slice none 0 0)) := Chg.of_grown ((((gset1 w11 (w.heap.size + 2) 0 _).trans' (gset1 _ (w.heap.size + 2) 1 _)).trans' (gset1 _ (w.heap.size + 2) 2 _)).trans' (gset1 _ (w.heap.size + 2) 3 _)) (fun b e => (Option.some.inj e).symm)
      exact bodyPost_ret (v := ansV ⟨3, 0, some SP⟩ ga' none M gc' 0 0) (by simp [results, Tryz.results52, go_sem, b0, b1, b2, b3, f0, f1, f2, f3]) rfl (by rw [HT.out.1, HT.out.2, tell_n HWH.out]; have h9 := HSU.out.fin (xs := []) HB11.out hST ⟨HO11.out, World.ownsRow_nil _ _ _ _, ansR_n HWH.out HGT.out, HL.out, by simp⟩; rw [HN1.out] at h9; exact h9)
end
end Go.Proofs.YtdoikcolkbjnfaaGreat
