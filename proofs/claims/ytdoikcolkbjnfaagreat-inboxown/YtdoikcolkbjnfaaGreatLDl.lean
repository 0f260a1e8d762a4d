import Derived.Test.YtdoikcolkbjnfaaGreatLDi
namespace Go.Proofs.YtdoikcolkbjnfaaGreat
set_option linter.unusedVariables false
set_option linter.unusedSimpArgs false
open Go.RowKit Go.Maps
section
variable {w w' : World} {q : Nat} {vo vs : Value} {J : Ib} {E : List (Ss × Bg)}
set_option maxRecDepth 20000
set_option maxHeartbeats 6400000
theorem rseg_mis (h : Rv w q vo vs J E) (uk : Int) (en sn : Nat) (pa ui uc : Int) (ux : List UInt8) (ucd : Int) (ul : List Rg) (da : Option Addr) (dn dc : Nat) (ga : Option Addr) (gn gc : Nat) (hn : dn = ux.length) (hx : Rd w da ux) (hdz : da = none → dc = 0) (hxl : ux.length ≤ 1024) (hin : (en, sn) ∈ ks J.O) (hnh : (en, sn) ∉ ks J.H) (huc : 1 ≤ uc) (nS : Nat) (hnS : ∀ S, lk J.O (en, sn) = some S → nS = S.length) (hne : (nS : Int) ≠ uc) : Calls Tryz.prog 52 #[.pointer (some ⟨q, 0, none⟩), sv (en, sn), unV (⟨uk, (en : Int), (sn : Int), pa, ui, uc, ux, ucd, ul⟩ : Un) da dn dc ga gn gc] w fun e w' => TkV w q vo vs E (segI J (⟨uk, (en : Int), (sn : Int), pa, ui, uc, ux, ucd, ul⟩ : Un)) (segA J (⟨uk, (en : Int), (sn : Int), pa, ui, uc, ux, ucd, ul⟩ : Un)) e w' := by
  have HT : Hid (segI J (⟨uk, (en : Int), (sn : Int), pa, ui, uc, ux, ucd, ul⟩ : Un) = J ∧ segA J (⟨uk, (en : Int), (sn : Int), pa, ui, uc, ux, ucd, ul⟩ : Un) = ⟨2, 0, none⟩) := by
    have h9 : lk J.H (sesU (⟨uk, (en : Int), (sn : Int), pa, ui, uc, ux, ucd, ul⟩ : Un)) = none := lk_none.2 hnh
    have h8 : goesU J (⟨uk, (en : Int), (sn : Int), pa, ui, uc, ux, ucd, ul⟩ : Un) = false := by
      unfold goesU boxU
      cases h7 : lk J.O (sesU (⟨uk, (en : Int), (sn : Int), pa, ui, uc, ux, ucd, ul⟩ : Un)) with
      | none => exact absurd hin (lk_none.1 h7)
      | some S =>
        have h6 := hnS S h7
        rw [Option.getD_some, decide_eq_false (by show ¬ S.length = uc.toNat; omega)]
        rfl
    unfold Hid segI segA
    rw [h9]
    simp only [h8]
    exact ⟨rfl, rfl⟩
  have HIN : Hid _ := hin
  have HNS : Hid _ := hnS
  have hnq : ((nS : Int) == uc) = false := by simp [hne]
  obtain ⟨w1, hw1⟩ : ∃ w1, w1 = ((w.alloc (.cells #[.int .u64 (en : Int), .int .u64 (sn : Int)] tRs)).alloc (.cells (unC uk (en : Int) (sn : Int) pa ui uc da dn dc ucd ga gn gc) tUn)).alloc (.cells #[.int .i64 0, .int .i64 0, .slice none 0 0, .slice none 0 0] tRa) := ⟨_, rfl⟩
  have hb1 : Below w.heap.size w w1 := by rw [hw1]; exact al (al (al (Below.refl _ _) _) _) _
  have hz1 : w1.heap.size = w.heap.size + 3 := by rw [hw1]; simp
  have hS1 : w1.heap[w.heap.size]? = some (.cells #[.int .u64 (en : Int), .int .u64 (sn : Int)] tRs (0, 0)) := by
    rw [hw1]
    exact ((al (al (Below.refl _ (w.alloc (.cells #[.int .u64 (en : Int), .int .u64 (sn : Int)] tRs))) _) _).block _ (by simp)).trans (heap_alloc_new _ _)
  have hU1 : w1.heap[w.heap.size + 1]? = some (.cells (unC uk (en : Int) (sn : Int) pa ui uc da dn dc ucd ga gn gc) tUn (0, 0)) := by
    rw [hw1]
    have h9 := heap_alloc_new (w.alloc (.cells #[.int .u64 (en : Int), .int .u64 (sn : Int)] tRs)) (.cells (unC uk (en : Int) (sn : Int) pa ui uc da dn dc ucd ga gn gc) tUn)
    rw [World.size_alloc] at h9
    exact ((al (Below.refl _ ((w.alloc (.cells #[.int .u64 (en : Int), .int .u64 (sn : Int)] tRs)).alloc (.cells (unC uk (en : Int) (sn : Int) pa ui uc da dn dc ucd ga gn gc) tUn))) _).block _ (by simp)).trans h9
  have hA1 : w1.heap[w.heap.size + 2]? = some (.cells #[.int .i64 0, .int .i64 0, .slice none 0 0, .slice none 0 0] tRa (0, 0)) := by
    rw [hw1]
    have h9 := heap_alloc_new ((w.alloc (.cells #[.int .u64 (en : Int), .int .u64 (sn : Int)] tRs)).alloc (.cells (unC uk (en : Int) (sn : Int) pa ui uc da dn dc ucd ga gn gc) tUn)) (.cells #[.int .i64 0, .int .i64 0, .slice none 0 0, .slice none 0 0] tRa)
    rw [World.size_alloc, World.size_alloc] at h9
    exact h9
  have hR1 := h.below hb1
  have HOP : Hid (Calls _ _ _ w1 _) := ropen_t hR1.m (en, sn) (by have := h.lenO; omega)
  have HR1 : Hid _ := hR1
  have HH : Hid _ := h
  have HB1 : Hid _ := hb1
  have HW1 : Hid (w1 = _) := hw1
  have HZ1 : Hid _ := hz1
  have HS1 : Hid _ := hS1
  have HU1 : Hid _ := hU1
  have HA1 : Hid _ := hA1
  have HXD : Hid (∀ u, Below w1.heap.size w1 u → Rd u da ux) := fun u hu => Rd.below hx (below_next hb1 hu)
  clear h hR1 hb1 hw1 hz1 hS1 hU1 hA1 hn hx hdz hin hnh hnS
  go_enter Tryz.func52, Tryz.ntmps52
  go_wp2_with fail
  rw [← HW1.out]
  refine Calls.mono HOP.out ?_
  rintro e2 w2 ⟨hfd, hb2⟩
  rcases hfd with ⟨i, hi, hix, rfl⟩ | ⟨hno, rfl⟩
  · obtain ⟨b, hbE, hbx, hbO⟩ := HR1.out.at_ hi hix
    have hR2 := HR1.out.below hb2
    have hs2 : w2.heap[w.heap.size]? = _ := (hb2.block _ (Array.getElem?_eq_some_iff.1 HS1.out).1).trans HS1.out
    have hs20 : w2.cell? ⟨w.heap.size, 0, none⟩ = some (.int .u64 (en : Int)) := by rw [cell_of_row _ _ _ _ _ _ hs2]; rfl
    have hs21 : w2.cell? ⟨w.heap.size, 1, none⟩ = some (.int .u64 (sn : Int)) := by rw [cell_of_row _ _ _ _ _ _ hs2]; rfl
    obtain ⟨a1, c1, hv1, -, -, -, -⟩ := OwnG.val HR1.out.m.ro
    subst hv1
    obtain ⟨n1, hn1⟩ : ∃ n1, n1 = (mp Bg.q E).length := ⟨_, rfl⟩
    rw [← hn1] at HR1 hR2
    have hc2 := hR2.m.cell
    obtain ⟨g, hg, hrg⟩ := rdG_at hR2.m.ro i hi
    subst hg
    have hi0 : (0 : Int) ≤ (i : Int) := by omega
    have hin1 : (i : Int) < (n1 : Int) := by omega
    have y1 : w2.cell? ⟨g, i * 3, none⟩ = _ := hrg 0 (.int .u64 (en : Int)) (by show (KO.f (mp Bg.q E)[i])[0]? = _; rw [hbx]; rfl)
    have y2 : w2.cell? ⟨g, i * 3 + 1, none⟩ = _ := hrg 1 (.int .u64 (sn : Int)) (by show (KO.f (mp Bg.q E)[i])[1]? = _; rw [hbx]; rfl)
    have y3 : w2.cell? ⟨g, i * 3 + 2, none⟩ = _ := hrg 2 (.pointer (some ⟨b.q, 0, none⟩)) (by show (KO.f (mp Bg.q E)[i])[2]? = _; rw [hbx]; rfl)
    have z1 : ∀ o, (w2.alloc o).cell? ⟨g, i * 3, none⟩ = some (.int .u64 (en : Int)) := fun o => ((al (Below.refl _ w2) o).cell (World.block_lt_of_cell? _ _ y1)).trans y1
    have z2 : ∀ o, (w2.alloc o).cell? ⟨g, i * 3 + 1, none⟩ = some (.int .u64 (sn : Int)) := fun o => ((al (Below.refl _ w2) o).cell (World.block_lt_of_cell? _ _ y2)).trans y2
    have z3 : ∀ o, (w2.alloc o).cell? ⟨g, i * 3 + 2, none⟩ = some (.pointer (some ⟨b.q, 0, none⟩)) := fun o => ((al (Below.refl _ w2) o).cell (World.block_lt_of_cell? _ _ y3)).trans y3
    have z4 : ∀ o, (w2.alloc o).cell? ⟨q, 3, none⟩ = some (.slice (some ⟨g, 0, none⟩) n1 c1) := fun o => ((al (Below.refl _ w2) o).cell (World.block_lt_of_cell? _ _ hc2.2.2.2.1)).trans hc2.2.2.2.1
    obtain ⟨w3, hw3⟩ : ∃ w3, w3 = w2.alloc (.cells #[.int .u64 (en : Int), .int .u64 (sn : Int), .pointer (some ⟨b.q, 0, none⟩)] KO.t) := ⟨_, rfl⟩
    have hb3 : Below w1.heap.size w1 w3 := by rw [hw3]; exact al hb2 _
    have ht3 : w3.heap[w2.heap.size]? = some (.cells #[.int .u64 (en : Int), .int .u64 (sn : Int), .pointer (some ⟨b.q, 0, none⟩)] KO.t (0, 0)) := by rw [hw3]; exact heap_alloc_new _ _
    have HW3 : Hid (w3 = _) := hw3
    have HB3 : Hid _ := hb3
    have HT3 : Hid _ := ht3
    have HIX : Hid (∃ hi : i < (mp Bg.q E).length, (mp Bg.q E)[i].1 = (en, sn)) := ⟨hi, hix⟩
    have HBE : Hid _ := hbE
    have HBO : Hid _ := hbO
    have HN1 : Hid _ := hn1
    obtain ⟨P2, hP2⟩ : ∃ P2, P2 = w2.heap.size := ⟨_, rfl⟩
    clear hb2 hR2 hs2 hrg hw3 hb3 ht3 hi hix hbx hbE hbO hn1 hc2 y1 y2 y3
    go_upto_region 6 with fail
    rw [← HW3.out]
    have HQC : Hid (∀ u, Below w3.heap.size w3 u → Calls Tryz.prog 76 #[.pointer (some ⟨b.q, 0, none⟩)] u fun e w' => e = .returned (.int .i64 (nS : Int)) ∧ w' = u) := fun u hu => by
      have h9 := qcount ((HR1.out.bx _ HBE.out).below (below_next HB3.out hu))
      rw [HNS.out _ HBO.out]
      exact h9
    have hk3 : ∀ u, Below w3.heap.size w3 u → u.cell? ⟨w2.heap.size, 2, none⟩ = some (.pointer (some ⟨b.q, 0, none⟩)) ∧ u.cell? ⟨w.heap.size + 1, 5, none⟩ = some (.int .i64 uc) := fun u hu => by
      have h9 := (hu.block _ (Array.getElem?_eq_some_iff.1 HT3.out).1).trans HT3.out
      have h8 := ((below_next HB3.out hu).block _ (Array.getElem?_eq_some_iff.1 HU1.out).1).trans HU1.out
      exact ⟨by rw [cell_of_row _ _ _ _ _ _ h9]; rfl, (unBox h8).2.2.2.2.2.1⟩
    clear z1 z2 z3 z4 hs20 hs21 hP2
    refine wp_region_held_drew (S := (fun u => Below w3.heap.size w3 u)) (by kernel_rfl) (by first | exact (Below.refl _ _).drew | assumption) (fun hHeld => ?_)
    refine tz (i := 0) 33 rfl rfl hHeld ?_
    simp only [pS]
    refine tz (i := 1) 34 rfl rfl hHeld ?_
    simp only [pS]
    refine tz (i := 3) 36 rfl rfl hHeld ?_
    simp only [pS]
    refine tz (i := 4) 37 rfl rfl hHeld ?_
    simp only [pS]
    refine run_at (i := 2) rfl (by kernel_rfl) (by rfl) (fun K hK => ?_)
    simp only [List.getElem_toArray, List.getElem_cons_zero, List.getElem_cons_succ]
    go_simp
    (go_at_call 76; refine Calls.mono (HQC.out _ (by assumption)) ?_; rintro e u4 ⟨rfl, hu4⟩; subst hu4)
    go_wp2_with fail
    refine hK.out _ _ (by first | exact (Below.refl _ _).drew | assumption) ?_
    clear hK K
    intro hHeld2
    clear hHeld
    have hHeld := hHeld2
    clear hHeld2
    try simp only [pS]
    refine tz (i := 5) 38 rfl rfl hHeld ?_
    simp only [pS]
    refine wpAnyH_done (by kernel_rfl) ?_ _
    obtain ⟨w4, hw4⟩ : ∃ w4, w4 = w3.drew := ⟨_, rfl⟩
    have hb4 : Below w1.heap.size w1 w4 := by rw [hw4]; exact below_next HB3.out (Below.refl _ _).drew
    rw [← hw4]
    have HB4 : Hid (Below w.heap.size w w4) := below_next HB1.out hb4
    have hA4 := (hb4.block _ (Array.getElem?_eq_some_iff.1 HA1.out).1).trans HA1.out
    obtain ⟨b0, b1, b2, b3, f0, f1, f2, f3⟩ := ansCellR hA4
    clear hb4 hw4 hA4 hk3 hHeld
    go_wp2
    have hST : Chg (fun b => b = w.heap.size + 2) w4 ((((w4.setCell ⟨w.heap.size + 2, 0, none⟩ (.int .i64 2)).setCell ⟨w.heap.size + 2, 1, none⟩ (.int .i64 0)).setCell ⟨w.heap.size + 2, 2, none⟩ (.slice none 0 0)).setCell ⟨w.heap.size + 2, 3, none⟩ (.slice none 0 0)) := Chg.of_grown ((((gset1 w4 (w.heap.size + 2) 0 _).trans' (gset1 _ (w.heap.size + 2) 1 _)).trans' (gset1 _ (w.heap.size + 2) 2 _)).trans' (gset1 _ (w.heap.size + 2) 3 _)) (fun b e => (Option.some.inj e).symm)
    exact bodyPost_ret (v := ansV ⟨2, 0, none⟩ none none 0 0 0 0) (by simp [results, Tryz.results52, go_sem, b0, b1, b2, b3, f0, f1, f2, f3]) rfl (by rw [HT.out.1, HT.out.2]; exact TkV.same HH.out (HB4.out.trans (Below.mono (hST.below (B := w.heap.size) (fun i hi => by omega) HB4.out.size) (Nat.le_refl _))) 2 0)
  · exact absurd HIN.out (by rw [HH.out.ksO, ← ks_mp Bg.q]; exact hno)
end
end Go.Proofs.YtdoikcolkbjnfaaGreat
namespace Go.Proofs.YtdoikcolkbjnfaaGreat
set_option linter.unusedVariables false
set_option linter.unusedSimpArgs false
open Go.RowKit Go.Maps
section
variable {w w' : World} {q : Nat} {vo vs : Value} {J : Ib} {E : List (Ss × Bg)}
theorem Rv.one (h : Rv w q vo vs J E) {s : Ss} {b : Bg} (hb : (s, b) ∈ E) {x : Ss × Bg} (hx : x ∈ E) (e : x.1 = s) : x.2 = b := by
  have hn : (ks E).Nodup := by rw [← h.ksO]; exact h.ok.no
  have h1 := lk_of hn hx
  have h2 := lk_of hn hb
  rw [e, h2] at h1
  exact (Option.some.inj h1).symm
theorem Rv.far (h : Rv w q vo vs J E) {s : Ss} {b : Bg} (hb : (s, b) ∈ E) {x : Ss × Bg} (hx : x ∈ E) (e : x.1 ≠ s) {c : Nat} (h1 : x.2.F c) : ¬ b.F c := fun h2 => by
  have hs : ∀ y z : Ss × Bg, y ∈ E → z ∈ E → y ≠ z → ∀ c, y.2.F c → z.2.F c → False := fun y z hy hz hne c => by
    have hp := h.ap
    obtain ⟨i, hi, rfl⟩ := List.getElem_of_mem hy
    obtain ⟨j, hj, rfl⟩ := List.getElem_of_mem hz
    rcases Nat.lt_trichotomy i j with h9 | h9 | h9
    · exact List.pairwise_iff_getElem.1 hp i j hi hj h9 c
    · subst h9
      exact absurd rfl hne
    · exact fun p1 p2 => List.pairwise_iff_getElem.1 hp j i hj hi h9 c p2 p1
  exact hs x (s, b) hx hb (fun h9 => e (by rw [h9])) c h1 h2
/-- a box in its place is another -/
theorem Rv.up (h : Rv w q vo vs J E) {s : Ss} {b b' : Bg} (hb : (s, b) ∈ E) (hq : b'.q = b.q) (hS : b'.S = b.S) (hb' : RBx w' (some ⟨b'.q, 0, none⟩) (some b'.S) b'.F) (hF : ∀ c, b'.F c → b.F c ∨ w.heap.size ≤ c) (hc : Chg b.F w w') : Rv w' q vo vs J (upE E s b') := by
  have e1 : mp Bg.q (upE E s b') = mp Bg.q E := by
    unfold upE mp
    rw [List.map_map]
    apply List.map_congr_left
    intro x hx
    simp only [Function.comp]
    by_cases h9 : x.1 = s
    · rw [if_pos h9, hq, ← h.one hb hx h9, ← h9]
    · rw [if_neg h9]
  have e2 : mp Bg.S (upE E s b') = mp Bg.S E := upE_S E s b' (fun x hx h9 => by rw [h.one hb hx h9, hS])
  have hnb : ∀ c, b.F c → c ≠ q ∧ vo.ownBlock ≠ some c ∧ vs.ownBlock ≠ some c := fun c hc => h.nf _ hb c hc
  have hmem : ∀ x, x ∈ upE E s b' → x = (s, b') ∨ (x ∈ E ∧ x.1 ≠ s) := fun x hx => by
    obtain ⟨y, hy, rfl⟩ := List.mem_map.1 hx
    by_cases h9 : y.1 = s
    · rw [if_pos h9]; exact .inl rfl
    · rw [if_neg h9]; exact .inr ⟨hy, h9⟩
  refine ⟨by rw [e1]; exact ⟨(hc.block q (h.lt (.inl rfl)) (fun h9 => (hnb q h9).1 rfl)).trans h.m.hp, OwnG.kept h.m.ro (fun c e => hc.block c (OwnG.lt' h.m.ro e).2 (fun h9 => (hnb c h9).2.1 e)), OwnG.kept h.m.rs (fun c e => hc.block c (OwnG.lt' h.m.rs e).2 (fun h9 => (hnb c h9).2.2 e))⟩, fun x hx => ?_, ?_, fun x hx c hf => ?_, by rw [e2]; exact h.eO, h.ok⟩
  · rcases hmem x hx with rfl | ⟨h1, h2⟩
    · exact hb'
    · exact (h.bx x h1).kept hc.size (fun c hf => hc.block c ((h.bx x h1).lt c hf) (h.far hb h1 h2 hf))
  · unfold upE
    rw [List.pairwise_map]
    have hn : E.Pairwise (fun x y => x.1 ≠ y.1) := by
      have h9 : (ks E).Nodup := by rw [← h.ksO]; exact h.ok.no
      exact List.pairwise_map.1 h9
    refine (List.Pairwise.and_mem.1 (h.ap.and hn)).imp ?_
    rintro x y ⟨hx, hy, hxy, hne⟩ c
    by_cases h1 : x.1 = s
    · have h2 : y.1 ≠ s := fun h9 => hne (h1.trans h9.symm)
      rw [if_pos h1, if_neg h2]
      intro p1 p2
      rcases hF c p1 with p3 | p3
      · exact h.far hb hy h2 p2 p3
      · have := (h.bx y hy).lt c p2
        omega
    · rw [if_neg h1]
      by_cases h2 : y.1 = s
      · rw [if_pos h2]
        intro p1 p2
        rcases hF c p2 with p3 | p3
        · exact h.far hb hx h1 p1 p3
        · have := (h.bx x hx).lt c p1
          omega
      · rw [if_neg h2]
        exact hxy c
  · rcases hmem x hx with rfl | ⟨h1, h2⟩
    · rcases hF c hf with p3 | p3
      · exact hnb c p3
      · refine ⟨fun e => ?_, fun e => ?_, fun e => ?_⟩
        · have := h.lt (.inl rfl : footV q vo vs E q)
          omega
        · have := (OwnG.lt' h.m.ro e).2
          omega
        · have := (OwnG.lt' h.m.rs e).2
          omega
    · exact h.nf x h1 c hf
theorem Rv.up_foot (h : Rv w q vo vs J E) {s : Ss} {b b' : Bg} (hb : (s, b) ∈ E) (hF : ∀ c, b'.F c → b.F c ∨ w.heap.size ≤ c) {c : Nat} (hc : footV q vo vs (upE E s b') c) : footV q vo vs E c ∨ w.heap.size ≤ c := by
  rcases hc with hc | hc | hc | ⟨x, hx, hf⟩
  · exact .inl (.inl hc)
  · exact .inl (.inr (.inl hc))
  · exact .inl (.inr (.inr (.inl hc)))
  · obtain ⟨y, hy, rfl⟩ := List.mem_map.1 hx
    by_cases h9 : y.1 = s
    · rw [if_pos h9] at hf
      exact (hF c hf).imp (fun h8 => .inr (.inr (.inr ⟨_, hb, h8⟩))) id
    · rw [if_neg h9] at hf
      exact .inl (.inr (.inr (.inr ⟨y, hy, hf⟩)))
set_option maxRecDepth 20000
set_option maxHeartbeats 6400000
theorem rseg_bad (h : Rv w q vo vs J E) (uk : Int) (en sn : Nat) (pa ui uc : Int) (ux : List UInt8) (ucd : Int) (ul : List Rg) (da : Option Addr) (dn dc : Nat) (ga : Option Addr) (gn gc : Nat) (hn : dn = ux.length) (hx : Rd w da ux) (hdz : da = none → dc = 0) (hxl : ux.length ≤ 1024) (S : List Seg) (hlk : lk J.O (en, sn) = some S) (hnh : (en, sn) ∉ ks J.H) (huc : (S.length : Int) = uc) (hok : okE (putE (some S) ui ux) = false) (he0 : (putE (some S) ui ux == 0) = false) (he3 : (putE (some S) ui ux == 3) = false) : Calls Tryz.prog 52 #[.pointer (some ⟨q, 0, none⟩), sv (en, sn), unV (⟨uk, (en : Int), (sn : Int), pa, ui, uc, ux, ucd, ul⟩ : Un) da dn dc ga gn gc] w fun e w' => TkV w q vo vs E (segI J (⟨uk, (en : Int), (sn : Int), pa, ui, uc, ux, ucd, ul⟩ : Un)) (segA J (⟨uk, (en : Int), (sn : Int), pa, ui, uc, ux, ucd, ul⟩ : Un)) e w' := by
  have HT : Hid (segI J (⟨uk, (en : Int), (sn : Int), pa, ui, uc, ux, ucd, ul⟩ : Un) = J ∧ segA J (⟨uk, (en : Int), (sn : Int), pa, ui, uc, ux, ucd, ul⟩ : Un) = ⟨2, 0, none⟩) := by
    have h9 : lk J.H (sesU (⟨uk, (en : Int), (sn : Int), pa, ui, uc, ux, ucd, ul⟩ : Un)) = none := lk_none.2 hnh
    have h8 : goesU J (⟨uk, (en : Int), (sn : Int), pa, ui, uc, ux, ucd, ul⟩ : Un) = false := by
      unfold goesU boxU
      rw [show lk J.O (sesU (⟨uk, (en : Int), (sn : Int), pa, ui, uc, ux, ucd, ul⟩ : Un)) = some S from hlk, Option.getD_some, hok, Bool.and_false]
    unfold Hid segI segA
    rw [h9]
    simp only [h8]
    exact ⟨rfl, rfl⟩
  have HIN : Hid ((en, sn) ∈ ks J.O) := Classical.not_not.1 (fun h9 => by rw [lk_none.2 h9] at hlk; cases hlk)
  obtain ⟨nS, hnS⟩ : ∃ nS, nS = S.length := ⟨_, rfl⟩
  have HNS : Hid (∀ S', lk J.O (en, sn) = some S' → nS = S'.length) := fun S' h9 => by rw [hlk] at h9; cases h9; exact hnS
  rw [← hnS] at huc
  subst huc
  have HLK : Hid _ := hlk
  have HOK : Hid _ := hok
  have HE0 : Hid _ := he0
  have HE3 : Hid _ := he3
  have HDN : Hid _ := hn
  have HDZ : Hid _ := hdz
  obtain ⟨w1, hw1⟩ : ∃ w1, w1 = ((w.alloc (.cells #[.int .u64 (en : Int), .int .u64 (sn : Int)] tRs)).alloc (.cells (unC uk (en : Int) (sn : Int) pa ui (nS : Int) da dn dc ucd ga gn gc) tUn)).alloc (.cells #[.int .i64 0, .int .i64 0, .slice none 0 0, .slice none 0 0] tRa) := ⟨_, rfl⟩
  have hb1 : Below w.heap.size w w1 := by rw [hw1]; exact al (al (al (Below.refl _ _) _) _) _
  have hz1 : w1.heap.size = w.heap.size + 3 := by rw [hw1]; simp
  have hS1 : w1.heap[w.heap.size]? = some (.cells #[.int .u64 (en : Int), .int .u64 (sn : Int)] tRs (0, 0)) := by
    rw [hw1]
    exact ((al (al (Below.refl _ (w.alloc (.cells #[.int .u64 (en : Int), .int .u64 (sn : Int)] tRs))) _) _).block _ (by simp)).trans (heap_alloc_new _ _)
  have hU1 : w1.heap[w.heap.size + 1]? = some (.cells (unC uk (en : Int) (sn : Int) pa ui (nS : Int) da dn dc ucd ga gn gc) tUn (0, 0)) := by
    rw [hw1]
    have h9 := heap_alloc_new (w.alloc (.cells #[.int .u64 (en : Int), .int .u64 (sn : Int)] tRs)) (.cells (unC uk (en : Int) (sn : Int) pa ui (nS : Int) da dn dc ucd ga gn gc) tUn)
    rw [World.size_alloc] at h9
    exact ((al (Below.refl _ ((w.alloc (.cells #[.int .u64 (en : Int), .int .u64 (sn : Int)] tRs)).alloc (.cells (unC uk (en : Int) (sn : Int) pa ui (nS : Int) da dn dc ucd ga gn gc) tUn))) _).block _ (by simp)).trans h9
  have hA1 : w1.heap[w.heap.size + 2]? = some (.cells #[.int .i64 0, .int .i64 0, .slice none 0 0, .slice none 0 0] tRa (0, 0)) := by
    rw [hw1]
    have h9 := heap_alloc_new ((w.alloc (.cells #[.int .u64 (en : Int), .int .u64 (sn : Int)] tRs)).alloc (.cells (unC uk (en : Int) (sn : Int) pa ui (nS : Int) da dn dc ucd ga gn gc) tUn)) (.cells #[.int .i64 0, .int .i64 0, .slice none 0 0, .slice none 0 0] tRa)
    rw [World.size_alloc, World.size_alloc] at h9
    exact h9
  have hR1 := h.below hb1
  have HOP : Hid (Calls _ _ _ w1 _) := ropen_t hR1.m (en, sn) (by have := h.lenO; omega)
  have HR1 : Hid _ := hR1
  have HH : Hid _ := h
  have HB1 : Hid _ := hb1
  have HW1 : Hid (w1 = _) := hw1
  have HZ1 : Hid _ := hz1
  have HS1 : Hid _ := hS1
  have HU1 : Hid _ := hU1
  have HA1 : Hid _ := hA1
  have HXD : Hid (∀ u, Below w1.heap.size w1 u → Rd u da ux) := fun u hu => Rd.below hx (below_next hb1 hu)
  clear h hR1 hb1 hw1 hz1 hS1 hU1 hA1 hn hx hdz hnh hnS hlk hok he0 he3
  go_enter Tryz.func52, Tryz.ntmps52
  go_wp2_with fail
  rw [← HW1.out]
  refine Calls.mono HOP.out ?_
  rintro e2 w2 ⟨hfd, hb2⟩
  rcases hfd with ⟨i, hi, hix, rfl⟩ | ⟨hno, rfl⟩
  · obtain ⟨b, hbE, hbx, hbO⟩ := HR1.out.at_ hi hix
    have hR2 := HR1.out.below hb2
    have hs2 : w2.heap[w.heap.size]? = _ := (hb2.block _ (Array.getElem?_eq_some_iff.1 HS1.out).1).trans HS1.out
    have hs20 : w2.cell? ⟨w.heap.size, 0, none⟩ = some (.int .u64 (en : Int)) := by rw [cell_of_row _ _ _ _ _ _ hs2]; rfl
    have hs21 : w2.cell? ⟨w.heap.size, 1, none⟩ = some (.int .u64 (sn : Int)) := by rw [cell_of_row _ _ _ _ _ _ hs2]; rfl
    obtain ⟨a1, c1, hv1, -, -, -, -⟩ := OwnG.val HR1.out.m.ro
    subst hv1
    obtain ⟨n1, hn1⟩ : ∃ n1, n1 = (mp Bg.q E).length := ⟨_, rfl⟩
    rw [← hn1] at HR1 hR2
    have hc2 := hR2.m.cell
    obtain ⟨g, hg, hrg⟩ := rdG_at hR2.m.ro i hi
    subst hg
    have hi0 : (0 : Int) ≤ (i : Int) := by omega
    have hin1 : (i : Int) < (n1 : Int) := by omega
    have y1 : w2.cell? ⟨g, i * 3, none⟩ = _ := hrg 0 (.int .u64 (en : Int)) (by show (KO.f (mp Bg.q E)[i])[0]? = _; rw [hbx]; rfl)
    have y2 : w2.cell? ⟨g, i * 3 + 1, none⟩ = _ := hrg 1 (.int .u64 (sn : Int)) (by show (KO.f (mp Bg.q E)[i])[1]? = _; rw [hbx]; rfl)
    have y3 : w2.cell? ⟨g, i * 3 + 2, none⟩ = _ := hrg 2 (.pointer (some ⟨b.q, 0, none⟩)) (by show (KO.f (mp Bg.q E)[i])[2]? = _; rw [hbx]; rfl)
    have z1 : ∀ o, (w2.alloc o).cell? ⟨g, i * 3, none⟩ = some (.int .u64 (en : Int)) := fun o => ((al (Below.refl _ w2) o).cell (World.block_lt_of_cell? _ _ y1)).trans y1
    have z2 : ∀ o, (w2.alloc o).cell? ⟨g, i * 3 + 1, none⟩ = some (.int .u64 (sn : Int)) := fun o => ((al (Below.refl _ w2) o).cell (World.block_lt_of_cell? _ _ y2)).trans y2
    have z3 : ∀ o, (w2.alloc o).cell? ⟨g, i * 3 + 2, none⟩ = some (.pointer (some ⟨b.q, 0, none⟩)) := fun o => ((al (Below.refl _ w2) o).cell (World.block_lt_of_cell? _ _ y3)).trans y3
    have z4 : ∀ o, (w2.alloc o).cell? ⟨q, 3, none⟩ = some (.slice (some ⟨g, 0, none⟩) n1 c1) := fun o => ((al (Below.refl _ w2) o).cell (World.block_lt_of_cell? _ _ hc2.2.2.2.1)).trans hc2.2.2.2.1
    obtain ⟨w3, hw3⟩ : ∃ w3, w3 = w2.alloc (.cells #[.int .u64 (en : Int), .int .u64 (sn : Int), .pointer (some ⟨b.q, 0, none⟩)] KO.t) := ⟨_, rfl⟩
    have hb3 : Below w1.heap.size w1 w3 := by rw [hw3]; exact al hb2 _
    have ht3 : w3.heap[w2.heap.size]? = some (.cells #[.int .u64 (en : Int), .int .u64 (sn : Int), .pointer (some ⟨b.q, 0, none⟩)] KO.t (0, 0)) := by rw [hw3]; exact heap_alloc_new _ _
    have HW3 : Hid (w3 = _) := hw3
    have HZ2a : Hid (w.heap.size + 3 ≤ w2.heap.size) := by unfold Hid; rw [← HZ1.out]; exact hb2.size
    have HB3 : Hid _ := hb3
    have HT3 : Hid _ := ht3
    have HIX : Hid (∃ hi : i < (mp Bg.q E).length, (mp Bg.q E)[i].1 = (en, sn)) := ⟨hi, hix⟩
    have HBE : Hid _ := hbE
    have HBO : Hid _ := hbO
    have HN1 : Hid _ := hn1
    obtain ⟨P2, hP2⟩ : ∃ P2, P2 = w2.heap.size := ⟨_, rfl⟩
    clear hb2 hR2 hs2 hrg hw3 hb3 ht3 hi hix hbx hbE hbO hn1 hc2 y1 y2 y3
    go_upto_region 6 with fail
    rw [← HW3.out]
    have HQC : Hid (∀ u, Below w3.heap.size w3 u → Calls Tryz.prog 76 #[.pointer (some ⟨b.q, 0, none⟩)] u fun e w' => e = .returned (.int .i64 (nS : Int)) ∧ w' = u) := fun u hu => by
      have h9 := qcount ((HR1.out.bx _ HBE.out).below (below_next HB3.out hu))
      rw [HNS.out _ HBO.out]
      exact h9
    have hk3 : ∀ u, Below w3.heap.size w3 u → u.cell? ⟨w2.heap.size, 2, none⟩ = some (.pointer (some ⟨b.q, 0, none⟩)) ∧ u.cell? ⟨w.heap.size + 1, 5, none⟩ = some (.int .i64 (nS : Int)) := fun u hu => by
      have h9 := (hu.block _ (Array.getElem?_eq_some_iff.1 HT3.out).1).trans HT3.out
      have h8 := ((below_next HB3.out hu).block _ (Array.getElem?_eq_some_iff.1 HU1.out).1).trans HU1.out
      exact ⟨by rw [cell_of_row _ _ _ _ _ _ h9]; rfl, (unBox h8).2.2.2.2.2.1⟩
    clear z1 z2 z3 z4 hs20 hs21 hP2
    refine wp_region_held_drew (S := (fun u => Below w3.heap.size w3 u)) (by kernel_rfl) (by first | exact (Below.refl _ _).drew | assumption) (fun hHeld => ?_)
    refine tz (i := 0) 33 rfl rfl hHeld ?_
    simp only [pS]
    refine tz (i := 1) 34 rfl rfl hHeld ?_
    simp only [pS]
    refine tz (i := 3) 36 rfl rfl hHeld ?_
    simp only [pS]
    refine tz (i := 4) 37 rfl rfl hHeld ?_
    simp only [pS]
    refine run_at (i := 2) rfl (by kernel_rfl) (by rfl) (fun K hK => ?_)
    simp only [List.getElem_toArray, List.getElem_cons_zero, List.getElem_cons_succ]
    go_simp
    (go_at_call 76; refine Calls.mono (HQC.out _ (by assumption)) ?_; rintro e u4 ⟨rfl, hu4⟩; subst hu4)
    go_wp2_with fail
    refine hK.out _ _ (by first | exact (Below.refl _ _).drew | assumption) ?_
    clear hK K
    intro hHeld2
    clear hHeld
    have hHeld := hHeld2
    clear hHeld2
    try simp only [pS]
    refine tz (i := 5) 38 rfl rfl hHeld ?_
    simp only [pS]
    refine wpAnyH_done (by kernel_rfl) ?_ _
    obtain ⟨w4, hw4⟩ : ∃ w4, w4 = w3.drew := ⟨_, rfl⟩
    have hb4 : Below w1.heap.size w1 w4 := by rw [hw4]; exact below_next HB3.out (Below.refl _ _).drew
    rw [← hw4]
    have hb34 : Below w3.heap.size w3 w4 := by rw [hw4]; exact (Below.refl _ _).drew
    have HB4 : Hid (Below w.heap.size w w4) := below_next HB1.out hb4
    have HA4 : Hid _ := (hb4.block _ (Array.getElem?_eq_some_iff.1 HA1.out).1).trans HA1.out
    have HU4 : Hid _ := (hb4.block _ (Array.getElem?_eq_some_iff.1 HU1.out).1).trans HU1.out
    have HT4 : Hid _ := (hb34.block _ (Array.getElem?_eq_some_iff.1 HT3.out).1).trans HT3.out
    have HR4 : Hid _ := HR1.out.below hb4
    have HPU : Hid (Calls _ _ _ w4 _) := qput (HR4.out.bx _ HBE.out) ui da dn dc ux HDN.out (HXD.out w4 hb4) HDZ.out (by have := HDN.out; omega)
    have hu4 := unBox HU4.out
    have ht4 : w4.cell? ⟨w2.heap.size, 2, none⟩ = some (.pointer (some ⟨b.q, 0, none⟩)) := by rw [cell_of_row _ _ _ _ _ _ HT4.out]; rfl
    have HZ2 : Hid (w.heap.size + 3 ≤ w2.heap.size ∧ w2.heap.size < w4.heap.size) := ⟨HZ2a.out, (Array.getElem?_eq_some_iff.1 HT4.out).1⟩
    have HSB : Hid (b.S = S) := Option.some.inj (HBO.out.symm.trans HLK.out)
    rw [HSB.out] at HPU
    clear hb4 hw4 hb34 hk3 hHeld
    go_wp2_with fail
    refine Calls.mono HPU.out ?_
    rintro e5 w5 ⟨rfl, hl5⟩
    obtain ⟨F5, hb5, hf5⟩ := hl5.ex
    have hc5 := hl5.chg
    have hS5 : putS (some S) ui ux = some S := by rw [putS_L, putL_no HOK.out]
    rw [hS5] at hb5
    have hF5 : ∀ c, F5 c → b.F c ∨ w4.heap.size ≤ c := hf5
    have HR5 : Hid (Rv w5 q _ vs J (upE E (en, sn) ⟨b.q, b.t, b.S, F5⟩)) := HR4.out.up HBE.out (b' := ⟨b.q, b.t, b.S, F5⟩) rfl rfl (by rw [HSB.out]; exact hb5) hF5 hc5
    have HL5 : Hid (LfV w4 q _ vs E J w5) := ⟨_, _, _, HR5.out, hc5.mono (fun c hc => .inr (.inr (.inr ⟨_, HBE.out, hc⟩))), fun c hc => HR4.out.up_foot HBE.out hF5 hc⟩
    have hA5 := (hc5.block _ (Array.getElem?_eq_some_iff.1 HA4.out).1 (fun h9 => by have h8 := (HH.out.bx _ HBE.out).lt _ h9; omega)).trans HA4.out
    obtain ⟨b0, b1, b2, b3, f0, f1, f2, f3⟩ := ansCellR hA5
    obtain ⟨er, her⟩ : ∃ er, er = putE (some S) ui ux := ⟨_, rfl⟩
    have h0 : ¬ er = 0 := fun h9 => by have h8 := HE0.out; rw [← her, h9] at h8; exact absurd h8 (by decide)
    have h3 : ¬ er = 3 := fun h9 => by have h8 := HE3.out; rw [← her, h9] at h8; exact absurd h8 (by decide)
    have h0b : (er != 0) = true := by simp [h0]
    have h3b : (er != 3) = true := by simp [h3]
    rw [← her]
    have HX2 : Hid (w.heap.size + 2 < w4.heap.size) := by have := HZ2.out; unfold Hid; omega
    clear hl5 hb5 hf5 hc5 hS5 hF5 hA5 her hu4 ht4 h0 h3
    go_wp2
    have hST : Chg (fun b => b = w.heap.size + 2) w5 ((((w5.setCell ⟨w.heap.size + 2, 0, none⟩ (.int .i64 2)).setCell ⟨w.heap.size + 2, 1, none⟩ (.int .i64 0)).setCell ⟨w.heap.size + 2, 2, none⟩ (.slice none 0 0)).setCell ⟨w.heap.size + 2, 3, none⟩ (.slice none 0 0)) := Chg.of_grown ((((gset1 w5 (w.heap.size + 2) 0 _).trans' (gset1 _ (w.heap.size + 2) 1 _)).trans' (gset1 _ (w.heap.size + 2) 2 _)).trans' (gset1 _ (w.heap.size + 2) 3 _)) (fun b e => (Option.some.inj e).symm)
    exact bodyPost_ret (v := ansV ⟨2, 0, none⟩ none none 0 0 0 0) (by simp [results, Tryz.results52, go_sem, b0, b1, b2, b3, f0, f1, f2, f3]) rfl (by rw [HT.out.1, HT.out.2]; exact TkV.of HH.out HB4.out HL5.out (by omega) HX2.out hST 2 0)
  · exact absurd HIN.out (by rw [HH.out.ksO, ← ks_mp Bg.q]; exact hno)
end
end Go.Proofs.YtdoikcolkbjnfaaGreat
namespace Go.Proofs.YtdoikcolkbjnfaaGreat
set_option linter.unusedVariables false
set_option linter.unusedSimpArgs false
open Go.RowKit Go.Maps
theorem RBx.small {w : World} {q : Option Addr} {S : List Seg} {F : Nat → Prop} (h : RBx w q (some S) F) : (∀ x, x ∈ S → x.length ≤ 1024) ∧ 1 ≤ S.length ∧ S.length ≤ 64 := by
  rcases h.ex with ⟨h1, -⟩ | ⟨S', p, g, c, E, h1, -, h3, -⟩
  · cases h1
  · cases h1
    refine ⟨fun x hx => ?_, h3.n0, h3.n1⟩
    obtain ⟨i, hi, rfl⟩ := List.mem_iff_getElem.1 hx
    have hE : i < E.length := by rw [h3.len]; exact hi
    exact (h3.els i _ _ (List.getElem?_eq_getElem hE) (List.getElem?_eq_getElem hi)).2
theorem wholeX_leR {w : World} {q : Option Addr} {S : List Seg} {F : Nat → Prop} (h : RBx w q (some S) F) : (wholeX (some S)).length ≤ 1048576 := by
  obtain ⟨h1, -, h3⟩ := h.small
  have h4 := flat_leI h1
  have h5 : S.length * 1024 ≤ 64 * 1024 := Nat.mul_le_mul_right _ h3
  unfold wholeX
  simp only
  first | (split <;> (simp only [List.length_nil, List.length_flatten] at *; omega)) | omega
/-- a segment's session ahead of its being laid down: the box has taken it, its old place is given up -/
structure SgT (w w6 : World) (q P2 : Nat) (vo vs v6 : Value) (J : Ib) (E0 : List (Ss × Bg)) (s : Ss) (bq : Nat) (S : List Seg) (bF F5 : Nat → Prop) : Prop where
  m : RiM w6 q J.mo J.ms J.ep v6 vs (mp Bg.q E0) J.H
  an : w6.heap[w.heap.size + 2]? = some (.cells #[.int .i64 0, .int .i64 0, .slice none 0 0, .slice none 0 0] tRa (0, 0))
  o : w6.heap[P2]? = some (.cells #[.int .u64 (s.1 : Int), .int .u64 (s.2 : Int), .pointer (some ⟨bq, 0, none⟩)] KO.t (0, 0))
  p2 : w.heap.size + 3 ≤ P2
  bx : RBx w6 (some ⟨bq, 0, none⟩) (some S) F5
  fF : ∀ c, F5 c → bF c ∨ w.heap.size + 3 ≤ c
  nf : ∀ c, F5 c → c ≠ q ∧ v6.ownBlock ≠ some c ∧ vs.ownBlock ≠ some c
  chg : Chg (fun c => c = q ∨ vo.ownBlock = some c ∨ bF c) w w6
  fv : ∀ c, v6.ownBlock = some c → (vo.ownBlock = some c ∨ w.heap.size + 3 ≤ c) ∧ c ≠ P2
/-- and behind that -/
structure SgU (w w9 : World) (q P2 : Nat) (vo vs : Value) (J : Ib) (E : List (Ss × Bg)) (O' : List (Ss × List Seg)) (bq : Nat) (S : List Seg) : Prop where
  ex : ∃ vo9 E9, Rv w9 q vo9 vs { J with O := O' } E9 ∧ Chg (footV q vo vs E) w w9 ∧ ∀ c, footV q vo9 vs E9 c → (footV q vo vs E c ∨ w.heap.size ≤ c) ∧ c ≠ w.heap.size + 2
  bx : ∃ F, RBx w9 (some ⟨bq, 0, none⟩) (some S) F
  an : w9.heap[w.heap.size + 2]? = some (.cells #[.int .i64 0, .int .i64 0, .slice none 0 0, .slice none 0 0] tRa (0, 0))
  o : w9.cell? ⟨P2, 2, none⟩ = some (.pointer (some ⟨bq, 0, none⟩))
section
variable {w w6 w9 : World} {q P2 : Nat} {vo vs v6 : Value} {J : Ib} {E E0 : List (Ss × Bg)} {s : Ss} {bq : Nat} {S : List Seg} {bF F5 : Nat → Prop} {O' : List (Ss × List Seg)}
theorem SgT.push (h : SgT w w6 q P2 vo vs v6 J E0 s bq S bF F5) (hv : Rv w q vo vs J E) (hsub : E0.Sublist E) (hd : ∀ x, x ∈ E0 → ∀ c, x.2.F c → ¬ bF c) (hbF : ∀ c, bF c → ∃ x, x ∈ E ∧ x.2.F c) (hO : mp Bg.S E0 ++ [(s, S)] = O') (hok : IbOk { J with O := O' }) {u u' : World} (hb : Below w6.heap.size w6 u) {g n c : Nat} (hown : OwnG KO u' 0 (.slice (some ⟨g, 0, none⟩) n c) (mp Bg.q E0 ++ [(s, bq)])) (hg : u.grownBy u' v6.ownBlock) (hat : v6.ownBlock = some g ∨ u.heap.size ≤ g) : SgU w (u'.setCell ⟨q, 3, none⟩ (.slice (some ⟨g, 0, none⟩) n c)) q P2 vo vs J E O' bq S := by
  have hm9 := RiM.pushO h.m hb hown hg
  have hch : Chg (fun b => b = q ∨ v6.ownBlock = some b) w6 (u'.setCell ⟨q, 3, none⟩ (.slice (some ⟨g, 0, none⟩) n c)) := ((Chg.of_below hb).trans (Chg.of_grown hg (F := fun b => v6.ownBlock = some b) (fun b e => e)) (fun b e => .inl (.inr e))).trans (Chg.of_grown (gset1 u' q 3 _) (F := fun b => b = q) (fun b e => (Option.some.inj e).symm)) (fun b e => .inl (.inl e))
  obtain ⟨w9, hw9⟩ : ∃ w9, w9 = u'.setCell ⟨q, 3, none⟩ (.slice (some ⟨g, 0, none⟩) n c) := ⟨_, rfl⟩
  rw [← hw9] at hm9 hch ⊢
  clear hw9
  have hql : q < w.heap.size := hv.lt (.inl rfl)
  have hvl : ∀ c, vo.ownBlock = some c → c < w.heap.size := fun c e => hv.lt (.inr (.inl e))
  have hsl : ∀ c, vs.ownBlock = some c → c < w.heap.size := fun c e => hv.lt (.inr (.inr (.inl e)))
  have hFl : ∀ c, bF c → c < w.heap.size := fun c e => by obtain ⟨x, hx, hf⟩ := hbF c e; exact hv.lt (.inr (.inr (.inr ⟨x, hx, hf⟩)))
  have hA6 := (Array.getElem?_eq_some_iff.1 h.an).1
  have hP6 := (Array.getElem?_eq_some_iff.1 h.o).1
  have hp2 := h.p2
  have hu6 := hb.size
  have hcs := h.chg.size
  have hcw : Chg (fun c => c = q ∨ vo.ownBlock = some c ∨ bF c) w w9 := h.chg.trans hch (fun c e => e.elim (fun h1 => .inl (.inl h1)) (fun e => (h.fv c e).1.elim (fun h1 => .inl (.inr (.inl h1))) (fun h1 => .inr (by omega))))
  have hbx9 : RBx w9 (some ⟨bq, 0, none⟩) (some S) F5 := h.bx.kept hch.size (fun c hc => hch.block c (h.bx.lt c hc) (fun e => e.elim (h.nf c hc).1 (h.nf c hc).2.1))
  have hgv : (vo.ownBlock = some g ∨ w.heap.size + 3 ≤ g) ∧ g ≠ P2 := by
    rcases hat with e | e
    · exact h.fv g e
    · exact ⟨.inr (by omega), by omega⟩
  have hvo : ∀ c', (Value.slice (some ⟨g, 0, none⟩) n c).ownBlock = some c' → vo.ownBlock = some c' ∨ w.heap.size ≤ c' := fun c' e => by
    have e : g = c' := Option.some.inj e
    subst e
    exact hgv.1.imp id (fun h9 => by omega)
  have hbv : ∀ c', F5 c' → c' ≠ q ∧ (Value.slice (some ⟨g, 0, none⟩) n c).ownBlock ≠ some c' ∧ vs.ownBlock ≠ some c' := fun c' hc => ⟨(h.nf c' hc).1, fun e => by
    have e : g = c' := Option.some.inj e
    subst e
    rcases hat with e | e
    · exact (h.nf g hc).2.1 e
    · have := h.bx.lt g hc
      omega, (h.nf c' hc).2.2⟩
  have hF : ∀ c', F5 c' → bF c' ∨ w.heap.size ≤ c' := fun c' hc => (h.fF c' hc).imp id (fun h9 => by omega)
  have e1 : mp Bg.q (E0 ++ [(s, ⟨bq, 0, S, F5⟩)]) = mp Bg.q E0 ++ [(s, bq)] := by simp [mp]
  have e2 : mp Bg.S (E0 ++ [(s, ⟨bq, 0, S, F5⟩)]) = O' := by rw [← hO]; simp [mp]
  have hR := hv.asm (b' := ⟨bq, 0, S, F5⟩) (vo' := .slice (some ⟨g, 0, none⟩) n c) hsub (by rw [e1]; exact hm9) hbx9 hF hd hbv hcw hvo (by rw [e2]; exact hok)
  rw [e2] at hR
  refine ⟨⟨_, _, hR, hcw.mono (fun c' e => ?_), fun c' hc => ⟨hv.asm_foot hsub hF hbF hvo hc, ?_⟩⟩, ⟨F5, hbx9⟩, ?_, ?_⟩
  · rcases e with e | e | e
    · exact .inl e
    · exact .inr (.inl e)
    · exact .inr (.inr (.inr (hbF c' e)))
  · rcases hc with hc | hc | hc | ⟨x, hx, hf⟩
    · omega
    · have e : g = c' := Option.some.inj hc
      subst e
      rcases hgv.1 with h9 | h9
      · have := hvl g h9; omega
      · omega
    · have := hsl c' hc; omega
    · rcases List.mem_append.1 hx with h9 | h9
      · have := hv.lt (.inr (.inr (.inr ⟨x, hsub.subset h9, hf⟩))); omega
      · rw [List.mem_singleton] at h9
        subst h9
        rcases h.fF c' hf with h8 | h8
        · have := hFl c' h8; omega
        · omega
  · refine (hch.block _ hA6 (fun e => ?_)).trans h.an
    rcases e with e | e
    · omega
    · rcases (h.fv _ e).1 with h9 | h9
      · have := hvl _ h9; omega
      · omega
  · have h9 := (hch.block P2 hP6 (fun e => e.elim (fun e => by omega) (fun e => (h.fv _ e).2 rfl))).trans h.o
    rw [cell_of_row _ _ _ _ _ _ h9]; rfl
theorem SgU.fin (h : SgU w w9 q P2 vo vs J E O' bq S) {w10 w11 : World} (hb : Below w9.heap.size w9 w10) (hst : Chg (fun b => b = w.heap.size + 2) w10 w11) {a : Ans} {ga ba : Option Addr} {gn gc bn bc : Nat} {rs : List Rg} {xs : List UInt8} (hA : AnsAt w10 w9.heap.size a ga ba gn gc bn bc rs xs) : TkV w q vo vs E { J with O := O' } a (.returned (ansV a ga ba gn gc bn bc)) w11 := by
  obtain ⟨vo9, E9, hv, hc, hf⟩ := h.ex
  have h10 := hv.below hb
  have hR : Rv w11 q vo9 vs { J with O := O' } E9 := h10.kept hst.size (fun b hb' => hst.block b (h10.lt hb') (hf b hb').2)
  have hl := (Array.getElem?_eq_some_iff.1 h.an).1
  exact ⟨vo9, vs, E9, w9.heap.size, ga, ba, gn, gc, bn, bc, rs, xs, rfl, hA.chg hst (fun b e => by omega), hR, (hc.trans (Chg.of_below (F := fun _ => False) hb) (fun _ h9 => h9.elim)).trans hst (fun b e => .inr (by omega)), fun b hb' => ⟨(hf b hb').1, hv.lt hb'⟩, hc.size⟩
theorem RiM.chg {w w' : World} {mo ms ep : Nat} {XO : List (Ss × Nat)} {XH : List (Ss × Int)} {F : Nat → Prop} (h : RiM w q mo ms ep vo vs XO XH) (hc : Chg F w w') (hF : ∀ c, F c → c ≠ q ∧ vo.ownBlock ≠ some c ∧ vs.ownBlock ≠ some c) : RiM w' q mo ms ep vo vs XO XH :=
  ⟨(hc.block q (Array.getElem?_eq_some_iff.1 h.hp).1 (fun e => (hF _ e).1 rfl)).trans h.hp, OwnG.kept h.ro (fun b e => hc.block b (OwnG.lt' h.ro e).2 (fun h9 => (hF b h9).2.1 e)), OwnG.kept h.rs (fun b e => hc.block b (OwnG.lt' h.rs e).2 (fun h9 => (hF b h9).2.2 e))⟩
end
end Go.Proofs.YtdoikcolkbjnfaaGreat
