import Derived.Test.YtdoikcolkbjnfaaGreatLDna
import Derived.Test.YtdoikcolkbjnfaaGreatLDq
import Derived.Test.YtdoikcolkbjnfaaGreatLxP
namespace Go.Proofs.YtdoikcolkbjnfaaGreat
set_option linter.unusedVariables false
set_option linter.unusedSimpArgs false
open Go.RowKit Go.Maps
theorem putE_new {n : Nat} {i : Int} {xs : Seg} (h : okE (putE (some (List.replicate n [])) i xs) = true) : putE (some (List.replicate n [])) i xs = 0 := by
  unfold putE at h ⊢
  simp only at h ⊢
  by_cases h1 : i < 0 ∨ ((List.replicate n ([] : Seg)).length : Int) ≤ i ∨ xs.length = 0 ∨ 1024 < xs.length
  · rw [if_pos h1] at h
    exact absurd h (by decide)
  · rw [if_neg h1] at h ⊢
    have h2 : ((List.replicate n ([] : Seg))[i.toNat]?.getD []).length = 0 := by
      rw [List.getElem?_replicate]
      split <;> rfl
    rw [if_pos h2] at h ⊢
    by_cases h3 : fitS ((List.replicate n ([] : Seg)).set i.toNat xs) = true
    · rw [if_pos h3]
    · rw [if_neg h3] at h
      exact absurd h (by decide)
section
variable {w w' : World} {q : Nat} {vo vs : Value} {J : Ib} {E : List (Ss × Bg)}
theorem rseg_t (h : Rv w q vo vs J E) (uk : Int) (en sn : Nat) (pa ui uc : Int) (ux : List UInt8) (ucd : Int) (ul : List Rg) (da : Option Addr) (dn dc : Nat) (ga : Option Addr) (gn gc : Nat) (hn : dn = ux.length) (hx : Rd w da ux) (hdz : da = none → dc = 0) (hxl : ux.length ≤ 1024) (hu1 : 1 ≤ uc) (hu2 : uc ≤ 64) (hnh : (en, sn) ∉ ks J.H) (hep : en = J.ep) : Calls Tryz.prog 52 #[.pointer (some ⟨q, 0, none⟩), sv (en, sn), unV (⟨uk, (en : Int), (sn : Int), pa, ui, uc, ux, ucd, ul⟩ : Un) da dn dc ga gn gc] w fun e w' => TkV w q vo vs E (segI J (⟨uk, (en : Int), (sn : Int), pa, ui, uc, ux, ucd, ul⟩ : Un)) (segA J (⟨uk, (en : Int), (sn : Int), pa, ui, uc, ux, ucd, ul⟩ : Un)) e w' := by
  cases hO : lk J.O (en, sn) with
  | some S =>
    by_cases hc : (S.length : Int) = uc
    · cases hok : okE (putE (some S) ui ux) with
      | true =>
        have h9 : putE (some S) ui ux = 0 ∨ putE (some S) ui ux = 3 := of_decide_eq_true hok
        rcases h9 with h9 | h9
        · exact rseg_ok0 h uk en sn pa ui uc ux ucd ul da dn dc ga gn gc hn hx hdz hxl S hO hnh hc hep h9
        · exact rseg_ok3 h uk en sn pa ui uc ux ucd ul da dn dc ga gn gc hn hx hdz hxl S hO hnh hc hep h9
      | false =>
        have h9 : ¬ (putE (some S) ui ux = 0 ∨ putE (some S) ui ux = 3) := of_decide_eq_false hok
        exact rseg_bad h uk en sn pa ui uc ux ucd ul da dn dc ga gn gc hn hx hdz hxl S hO hnh hc hok (by simp; omega) (by simp; omega)
    · exact rseg_mis h uk en sn pa ui uc ux ucd ul da dn dc ga gn gc hn hx hdz hxl (Classical.not_not.1 (fun h9 => by rw [lk_none.2 h9] at hO; cases hO)) hnh hu1 S.length (fun S' h9 => by rw [hO] at h9; cases h9; rfl) hc
  | none =>
    obtain ⟨cn, hcn⟩ : ∃ cn : Nat, (cn : Int) = uc := ⟨uc.toNat, by omega⟩
    have hno : (en, sn) ∉ ks J.O := lk_none.1 hO
    cases hok : okE (putE (some (List.replicate cn [])) ui ux) with
    | true =>
      by_cases hl : E.length < J.mo
      · exact rseg_nroom h uk en sn pa ui uc ux ucd ul da dn dc ga gn gc hn hx hdz hxl cn hcn (by omega) (by omega) hno hnh hep (putE_new hok) hl
      · exact rseg_nfull h uk en sn pa ui uc ux ucd ul da dn dc ga gn gc hn hx hdz hxl cn hcn (by omega) (by omega) hno hnh hep (putE_new hok) (by omega)
    | false => exact rseg_nbad h uk en sn pa ui uc ux ucd ul da dn dc ga gn gc hn hx hdz hxl cn hcn (by omega) (by omega) hno hnh hep hok
end
end Go.Proofs.YtdoikcolkbjnfaaGreat
namespace Go.Proofs.YtdoikcolkbjnfaaGreat
set_option linter.unusedVariables false
set_option linter.unusedSimpArgs false
open Go.RowKit Go.Maps
section
variable {w w' : World} {q : Nat} {vo vs : Value} {J : Ib} {E : List (Ss × Bg)}
theorem TkV.outer (h : Rv w q vo vs J E) {w2 w3 w5 w8 w9 : World} {vo3 vs3 : Value} {E3 : List (Ss × Bg)} {J' : Ib} {a : Ans} {e : Ending} {X : Nat} (h0 : Below w.heap.size w w2) (hc3 : Chg (footV q vo vs E) w2 w3) (hf3 : ∀ b, footV q vo3 vs3 E3 b → footV q vo vs E b ∨ w2.heap.size ≤ b) (hb5 : Below w3.heap.size w3 w5) (ht : TkV w5 q vo3 vs3 E3 J' a e w8) (hx : w.heap.size ≤ X) (hx2 : X < w2.heap.size) (hst : Chg (fun b => b = X) w8 w9) : TkV w q vo vs E J' a e w9 := by
  obtain ⟨vo', vs', E', B, ga, ba, gn, gc, bn, bc, rs, xs, rfl, hA, hR, hc, hf, hB⟩ := ht
  have z2 := h0.size
  have z3 := hc3.size
  have z5 := hb5.size
  have ne : ∀ b, footV q vo' vs' E' b → ¬ b = X := fun b hb e => by
    rcases (hf b hb).1 with h9 | h9
    · rcases hf3 b h9 with h8 | h8
      · have := h.lt h8; omega
      · omega
    · omega
  have hR9 : Rv w9 q vo' vs' J' E' := hR.kept hst.size (fun b hb => hst.block b (hR.lt hb) (ne b hb))
  refine ⟨vo', vs', E', B, ga, ba, gn, gc, bn, bc, rs, xs, rfl, hA.chg hst (fun b e => by omega), hR9, ?_, fun b hb => ⟨?_, (hf b hb).2⟩, by omega⟩
  · refine ((((Chg.of_below h0).trans hc3 (fun b hb => .inl hb)).trans (Chg.of_below (F := fun _ => False) hb5) (fun _ h9 => h9.elim)).trans hc (fun b hb => ?_)).trans hst (fun b e => .inr (by omega))
    exact (hf3 b hb).imp id (fun h9 => by omega)
  · rcases (hf b hb).1 with h9 | h9
    · exact (hf3 b h9).imp id (fun h8 => by omega)
    · exact .inr (by omega)
set_option maxRecDepth 20000
set_option maxHeartbeats 6400000
theorem rtake_seg (h : Rv w q vo vs J E) (uk : Int) (en sn : Nat) (pa ui uc : Int) (ux : List UInt8) (ucd : Int) (ul : List Rg) (da : Option Addr) (dn dc : Nat) (ga : Option Addr) (gn gc : Nat) (hn : dn = ux.length) (hg : gn = ul.length) (hx : Rd w da ux) (hdz : da = none → dc = 0) (hxf : 0 < ux.length → ∀ b, footV q vo vs E b → ∀ a, da = some a → a.block ≠ b) (h64 : en < 18446744073709551616) (hd : dataB (⟨uk, (en : Int), (sn : Int), pa, ui, uc, ux, ucd, ul⟩ : Un) = true) (ho : ¬ en < J.ep) (hin : (en, sn) ∉ ks (riseI J en).H) : Calls Tryz.prog 22 #[.pointer (some ⟨q, 0, none⟩), unV (⟨uk, (en : Int), (sn : Int), pa, ui, uc, ux, ucd, ul⟩ : Un) da dn dc ga gn gc] w fun e w' => TkV w q vo vs E (takeI J (⟨uk, (en : Int), (sn : Int), pa, ui, uc, ux, ucd, ul⟩ : Un)) (takeA J (⟨uk, (en : Int), (sn : Int), pa, ui, uc, ux, ucd, ul⟩ : Un)) e w' := by
  obtain ⟨J2, hJ2⟩ : ∃ J2, J2 = riseI J en := ⟨_, rfl⟩
  rw [← hJ2] at hin
  obtain ⟨aa, haa⟩ : ∃ aa, aa = segA J2 (⟨uk, (en : Int), (sn : Int), pa, ui, uc, ux, ucd, ul⟩ : Un) := ⟨_, rfl⟩
  obtain ⟨Jz, hJz⟩ : ∃ Jz, Jz = segI J2 (⟨uk, (en : Int), (sn : Int), pa, ui, uc, ux, ucd, ul⟩ : Un) := ⟨_, rfl⟩
  have HT : Hid (takeI J (⟨uk, (en : Int), (sn : Int), pa, ui, uc, ux, ucd, ul⟩ : Un) = Jz ∧ takeA J (⟨uk, (en : Int), (sn : Int), pa, ui, uc, ux, ucd, ul⟩ : Un) = aa) := by
    unfold Hid takeI takeA
    rw [hd, if_pos rfl, if_pos rfl]
    have h9 : ¬ (en : Int).toNat < J.ep := by omega
    have h8 : riseI J (en : Int).toNat = J2 := by rw [hJ2]; rfl
    rw [if_neg h9, if_neg h9]
    show segI (riseI J (en : Int).toNat) _ = _ ∧ segA (riseI J (en : Int).toNat) _ = _
    rw [h8, hJz, haa]
    exact ⟨rfl, rfl⟩
  have HAA : Hid _ := haa
  have HJZ : Hid _ := hJz
  have HDB : Hid (1 ≤ uc ∧ uc ≤ 64 ∧ ux.length ≤ 1024 ∧ 0 < ux.length) := by
    have h9 := (dataB_iff _).1 hd
    have h8 := h9.2.2.2
    simp only at h8
    unfold Hid
    omega
  have HRX : Hid (Rd w da ux) := hx
  have HDN : Hid _ := hn
  have HDZ : Hid _ := hdz
  have HXF : Hid (∀ b, footV q vo vs E b → ∀ a, da = some a → a.block ≠ b) := hxf HDB.out.2.2.2
  clear haa hJz hx hdz hxf
  have HJ2 : Hid _ := hJ2
  have HIN : Hid _ := hin
  clear hin
  obtain ⟨w1, hw1⟩ : ∃ w1, w1 = (w.alloc (.cells (unC uk (en : Int) (sn : Int) pa ui uc da dn dc ucd ga gn gc) tUn)).alloc (.cells #[.int .i64 0, .int .i64 0, .slice none 0 0, .slice none 0 0] tRa) := ⟨_, rfl⟩
  have hb1 : Below w.heap.size w w1 := by rw [hw1]; exact al (al (Below.refl _ _) _) _
  have hz1 : w1.heap.size = w.heap.size + 2 := by rw [hw1]; simp
  have hU1 : w1.heap[w.heap.size]? = some (.cells (unC uk (en : Int) (sn : Int) pa ui uc da dn dc ucd ga gn gc) tUn (0, 0)) := by
    rw [hw1]
    exact ((al (Below.refl _ (w.alloc (.cells (unC uk (en : Int) (sn : Int) pa ui uc da dn dc ucd ga gn gc) tUn))) _).block _ (by simp)).trans (heap_alloc_new _ _)
  have hA1 : w1.heap[w.heap.size + 1]? = some (.cells #[.int .i64 0, .int .i64 0, .slice none 0 0, .slice none 0 0] tRa (0, 0)) := by
    rw [hw1]
    have h9 := heap_alloc_new (w.alloc (.cells (unC uk (en : Int) (sn : Int) pa ui uc da dn dc ucd ga gn gc) tUn)) (.cells #[.int .i64 0, .int .i64 0, .slice none 0 0, .slice none 0 0] tRa)
    rw [World.size_alloc] at h9
    exact h9
  have HDA : Hid (Calls _ _ _ w1 _) := refData_t (⟨uk, (en : Int), (sn : Int), pa, ui, uc, ux, ucd, ul⟩ : Un) da dn dc ga gn gc hn hg w1
  have hR1 := h.below hb1
  have HR1 : Hid _ := hR1
  have HH : Hid _ := h
  have HB1 : Hid _ := hb1
  have HW1 : Hid (w1 = _) := hw1
  have HZ1 : Hid _ := hz1
  have HU1 : Hid _ := hU1
  have HA1 : Hid _ := hA1
  have hu1 := unBox hU1
  rw [hd] at HDA
  obtain ⟨ep, hep⟩ : ∃ ep, ep = J.ep := ⟨_, rfl⟩
  have hlt : ¬ (en : Int) < (ep : Int) := by omega
  have HEP : Hid _ := hep
  have HEE : Hid (((en, sn) : Ss).1 = J2.ep) := by unfold Hid; rw [hJ2]; exact (riseI_ep (by omega)).symm
  have HRI : Hid (∀ u, Below w1.heap.size w1 u → Calls _ _ _ u _) := fun u hu => rise_v (hR1.below hu) en h64
  rw [← hJ2] at HRI
  clear h hR1 hb1 hw1 hz1 hU1 hA1 hn hg hd ho hep hJ2
  go_enter Tryz.func22, Tryz.ntmps22
  go_wp2_with fail
  rw [← HW1.out]
  refine Calls.mono HDA.out ?_
  rintro e2 wd ⟨rfl, hbd⟩
  have hkd : ∀ u, Below wd.heap.size wd u → u.cell? ⟨w.heap.size, 1, none⟩ = some (.int .u64 (en : Int)) ∧ u.cell? ⟨q, 2, none⟩ = some (.int .u64 (ep : Int)) := fun u hu => by
    have h8 := below_next hbd hu
    have h9 := (h8.block _ (Array.getElem?_eq_some_iff.1 HU1.out).1).trans HU1.out
    have h7 := (HR1.out.below h8).m.cell.2.2.1
    rw [← HEP.out] at h7
    exact ⟨by rw [cell_of_row _ _ _ _ _ _ h9]; rfl, h7⟩
  have HBD : Hid _ := hbd
  clear hbd hu1
  go_wp2_with fail
  refine wp_region_noPanic ?_
  refine wp_region_held_drew (S := (fun u => Below wd.heap.size wd u)) (by kernel_rfl) (by first | exact (Below.refl _ _).drew | assumption) (fun hHeld => ?_)
  refine tz (i := 0) 12 rfl rfl hHeld ?_
  simp only [pS]
  refine tz (i := 1) 13 rfl rfl hHeld ?_
  simp only [pS]
  refine tz (i := 2) 14 rfl rfl hHeld ?_
  simp only [pS]
  refine tz (i := 3) 15 rfl rfl hHeld ?_
  simp only [pS]
  refine tz (i := 4) 16 rfl rfl hHeld ?_
  simp only [pS]
  refine tz (i := 5) 17 rfl rfl hHeld ?_
  simp only [pS]
  refine tz (i := 6) 18 rfl rfl hHeld ?_
  simp only [pS]
  refine wpAnyH_done (by kernel_rfl) ?_ _
  refine NoPanic.normal ?_
  obtain ⟨w2, hw2⟩ : ∃ w2, w2 = wd.drew := ⟨_, rfl⟩
  have hb2 : Below w1.heap.size w1 w2 := by rw [hw2]; exact below_next HBD.out (Below.refl _ _).drew
  rw [← hw2]
  have HB2 : Hid (Below w.heap.size w w2) := below_next HB1.out hb2
  have hA2 := (hb2.block _ (Array.getElem?_eq_some_iff.1 HA1.out).1).trans HA1.out
  have hU2 := (hb2.block _ (Array.getElem?_eq_some_iff.1 HU1.out).1).trans HU1.out
  have hu2 := unBox hU2
  have HS2 : Hid (w.heap.size + 2 ≤ w2.heap.size) := by have := HZ1.out; have := hb2.size; unfold Hid; omega
  have HA2 : Hid _ := hA2
  have HU2 : Hid _ := hU2
  have HR2 : Hid (Calls _ _ _ w2 _) := HRI.out w2 hb2
  clear hb2 hw2 hkd hHeld hA2 hU2
  go_wp2_with fail
  refine Calls.mono HR2.out ?_
  rintro e3 w3 ⟨rfl, vo3, vs3, E3, h3, hc3, hf3⟩
  have hA3 := (hc3.block _ (Array.getElem?_eq_some_iff.1 HA2.out).1 (fun h9 => by have := HH.out.lt h9; omega)).trans HA2.out
  have hU3 := (hc3.block _ (Array.getElem?_eq_some_iff.1 HU2.out).1 (fun h9 => by have := HH.out.lt h9; omega)).trans HU2.out
  have hu3 := unBox hU3
  obtain ⟨a1, c1, hv1, -, -, -, -⟩ := OwnG.val h3.m.rs
  subst hv1
  obtain ⟨H3, hH3⟩ : ∃ H3, H3 = J2.H := ⟨_, rfl⟩
  obtain ⟨n1, hn1⟩ : ∃ n1, n1 = H3.length := ⟨_, rfl⟩
  rw [← hH3, ← hn1] at h3 hf3
  have hnl : n1 ≤ 4096 := by rw [hn1, hH3]; exact h3.lenH
  have hM3 : RiM w3 q J2.mo J2.ms J2.ep vo3 (.slice a1 n1 c1) (mp Bg.q E3) H3 := by rw [hH3]; exact h3.m
  obtain ⟨w4, hw4⟩ : ∃ w4, w4 = w3.alloc (.cells #[.int .u64 (en : Int), .int .u64 (sn : Int)] tRs) := ⟨_, rfl⟩
  have hb4 : Below w3.heap.size w3 w4 := by rw [hw4]; exact al (Below.refl _ _) _
  have HSH : Hid (Calls _ _ _ w4 _) := rshut_t (hM3.below hb4) (en, sn) (by rw [← hn1]; omega)
  have HR3 : Hid _ := h3
  have HM3 : Hid _ := hM3
  have HC3 : Hid _ := hc3
  have HF3 : Hid _ := hf3
  have HA3 : Hid _ := hA3
  have HU3 : Hid _ := hU3
  have HN1 : Hid (n1 = H3.length) := hn1
  have HH3 : Hid _ := hH3
  have HW4 : Hid (w4 = _) := hw4
  have HB4 : Hid _ := hb4
  clear h3 hM3 hc3 hf3 hA3 hU3 hn1 hH3 hw4 hb4 hu2
  go_wp2_with fail
  rw [← HW4.out]
  refine Calls.mono HSH.out ?_
  rintro e5 w5 ⟨hfd, hb5'⟩
  have hb5 : Below w3.heap.size w3 w5 := below_next HB4.out hb5'
  rcases hfd with ⟨i, hi, hix, rfl⟩ | ⟨hno, rfl⟩
  · exact absurd (by rw [← HH3.out, ← hix]; exact mem_ks (List.getElem_mem _)) HIN.out
  · have h5 := HR3.out.below hb5
    have hx5 : Rd w5 da ux := (Rd.below (Rd.chg (Rd.below HRX.out HB2.out) HC3.out HXF.out) hb5)
    have hA5 := (hb5.block _ (Array.getElem?_eq_some_iff.1 HA3.out).1).trans HA3.out
    have hU5 := (hb5.block _ (Array.getElem?_eq_some_iff.1 HU3.out).1).trans HU3.out
    have hu5 := unBox hU5
    have hs4 : w4.heap[w3.heap.size]? = some (.cells #[.int .u64 (en : Int), .int .u64 (sn : Int)] tRs (0, 0)) := by rw [HW4.out]; exact heap_alloc_new _ _
    have hs5 := (hb5'.block _ (Array.getElem?_eq_some_iff.1 hs4).1).trans hs4
    have s50 : w5.cell? ⟨w3.heap.size, 0, none⟩ = some (.int .u64 (en : Int)) := by rw [cell_of_row _ _ _ _ _ _ hs5]; rfl
    have s51 : w5.cell? ⟨w3.heap.size, 1, none⟩ = some (.int .u64 (sn : Int)) := by rw [cell_of_row _ _ _ _ _ _ hs5]; rfl
    have HSEG : Hid (Calls _ _ _ w5 _) := rseg_t h5 uk en sn pa ui uc ux ucd ul da dn dc ga gn gc HDN.out hx5 HDZ.out HDB.out.2.2.1 HDB.out.1 HDB.out.2.1 HIN.out HEE.out
    rw [← HAA.out, ← HJZ.out] at HSEG
    have HB5 : Hid _ := hb5
    have HA5 : Hid _ := hA5
    clear h5 hx5 hA5 hU5 hs4 hs5 hb5 hb5' hno
    go_wp2_with fail
    refine Calls.mono HSEG.out ?_
    rintro e8 w8 ht8
    have HT8 : Hid _ := ht8
    obtain ⟨vo', vs', E', B, ga', ba', gn', gc', bn', bc', rs, xs, rfl, -, -, hc8, -, -⟩ := ht8
    have hA8 := (hc8.block _ (Array.getElem?_eq_some_iff.1 HA5.out).1 (fun h9 => by
      have h7 := HS2.out
      rcases HF3.out _ h9 with h8 | h8
      · have := HH.out.lt h8; omega
      · omega)).trans HA5.out
    obtain ⟨b0, b1, b2, b3, f0, f1, f2, f3⟩ := ansCellR hA8
    clear hc8 hA8 hu5 s50 s51
    go_wp2
    have hST : Chg (fun b => b = w.heap.size + 1) w8 ((((w8.setCell ⟨w.heap.size + 1, 0, none⟩ (.int .i64 aa.st)).setCell ⟨w.heap.size + 1, 1, none⟩ (.int .i64 aa.cd)).setCell ⟨w.heap.size + 1, 2, none⟩ (.slice ga' gn' gc')).setCell ⟨w.heap.size + 1, 3, none⟩ (.slice ba' bn' bc')) := Chg.of_grown ((((gset1 w8 (w.heap.size + 1) 0 _).trans' (gset1 _ (w.heap.size + 1) 1 _)).trans' (gset1 _ (w.heap.size + 1) 2 _)).trans' (gset1 _ (w.heap.size + 1) 3 _)) (fun b e => (Option.some.inj e).symm)
    exact bodyPost_ret (v := ansV aa ga' ba' gn' gc' bn' bc') (by simp [results, Tryz.results22, go_sem, b0, b1, b2, b3, f0, f1, f2, f3]) rfl (by rw [HT.out.1, HT.out.2]; exact TkV.outer HH.out HB2.out HC3.out HF3.out HB5.out HT8.out (Nat.le_succ _) (by have := HS2.out; omega) hST)

/-- the document's Take -/
theorem rtake_t (h : Rv w q vo vs J E) (u : Un) (da : Option Addr) (dn dc : Nat) (ga : Option Addr) (gn gc : Nat) (hn : dn = u.data.length) (hg : gn = u.got.length) (hx : Rd w da u.data) (hdz : da = none → dc = 0) (hxf : 0 < u.data.length → ∀ b, footV q vo vs E b → ∀ a, da = some a → a.block ≠ b) (he0 : 0 ≤ u.ep) (hs0 : 0 ≤ u.se) : Calls Tryz.prog 22 #[.pointer (some ⟨q, 0, none⟩), unV u da dn dc ga gn gc] w fun e w' => TkV w q vo vs E (takeI J u) (takeA J u) e w' := by
  obtain ⟨uk, e, se, pa, ui, uc, ux, ucd, ul⟩ := u
  simp only at hn hg hx hxf he0 hs0
  obtain ⟨en, rfl⟩ : ∃ en : Nat, e = (en : Int) := ⟨e.toNat, by omega⟩
  obtain ⟨sn, rfl⟩ : ∃ sn : Nat, se = (sn : Int) := ⟨se.toNat, by omega⟩
  cases hd : dataB ⟨uk, (en : Int), (sn : Int), pa, ui, uc, ux, ucd, ul⟩ with
  | false => exact rtake_bad h uk en sn pa ui uc ux ucd ul da dn dc ga gn gc hn hg hd
  | true =>
    have h64 : en < 18446744073709551616 := by
      have h9 := ((dataB_iff _).1 hd).2.1
      unfold nameOk at h9
      simp only at h9
      omega
    by_cases ho : en < J.ep
    · exact rtake_old h uk en sn pa ui uc ux ucd ul da dn dc ga gn gc hn hg hd ho
    · by_cases hin : (en, sn) ∈ ks (riseI J en).H
      · exact rtake_dec h uk en sn pa ui uc ux ucd ul da dn dc ga gn gc hn hg h64 hd ho hin
      · exact rtake_seg h uk en sn pa ui uc ux ucd ul da dn dc ga gn gc hn hg hx hdz hxf h64 hd ho hin
end
end Go.Proofs.YtdoikcolkbjnfaaGreat
namespace Go.Proofs.YtdoikcolkbjnfaaGreat
set_option linter.unusedVariables false
set_option linter.unusedSimpArgs false
open Go.RowKit Go.Maps
section
set_option maxRecDepth 20000
set_option maxHeartbeats 3200000
theorem shows_t {w : World} {p N : Nat} {I : Ib} {F : Nat → Prop} (h : IbA w p N I F) {q : Nat} {oa : Option Addr} {on oc : Nat} {sa : Option Addr} {sn sc : Nat} {E : List (Ss × Bg)} (hR : Rib none w q oa on oc sa sn sc I E) :
    Calls Tryz.prog 20 #[.pointer (some ⟨p, 0, none⟩), .pointer (some ⟨q, 0, none⟩)] w fun e w' => e = .returned (.bool true) ∧ Below w.heap.size w w' := by
  have HO : Hid _ := open_a h
  have HS : Hid (∀ u, Below w.heap.size w u → Calls _ _ _ u _) := fun u hu => decd_a (h.below hu)
  have HE : Hid (∀ u, Below w.heap.size w u → Calls _ _ _ u _) := fun u hu => epoch_a (h.below hu)
  have HR : Hid _ := hR
  have hon : (ks I.O).length = on := by rw [len_ks]; exact hR.onL.symm
  have hsn : (ks I.H).length = sn := by rw [len_ks]; exact hR.snL.symm
  have hob : on ≤ 64 := by have := hR.onL; have := hR.ok.lo; have := hR.ok.o1; omega
  have hsb : sn ≤ 4096 := by have := hR.snL; have := hR.ok.ls; have := hR.ok.s1; omega
  have HCD : Hid (∀ u, Below w.heap.size w u → u.cell? ⟨q, 2, none⟩ = some (.int .u64 (I.ep : Int)) ∧ u.cell? ⟨q, 3, none⟩ = some (.slice oa on oc) ∧ u.cell? ⟨q, 4, none⟩ = some (.slice sa sn sc)) := fun u hu => ⟨(hR.below hu).cell.2.2.1, (hR.below hu).cell.2.2.2.1, (hR.below hu).cell.2.2.2.2⟩
  have HON : Hid _ := hon
  have HSN : Hid _ := hsn
  obtain ⟨ep, hep⟩ : ∃ ep, ep = I.ep := ⟨_, rfl⟩
  rw [← hep] at HE HCD
  clear h hR hep hon hsn
  go_enter Tryz.func20, Tryz.ntmps20
  go_wp2_with fail
  refine Calls.mono HO.out ?_
  rintro e1 w1 ⟨v1, rfl, hv1, hb1⟩
  obtain ⟨a1, c1, rfl⟩ : ∃ a1 c1, v1 = .slice a1 on c1 := by
    rcases hv1.2 with ⟨rfl, h0⟩ | ⟨g, cap, cur, rfl, -⟩
    · exact ⟨none, 0, by rw [← HON.out, h0]⟩
    · exact ⟨_, _, by rw [HON.out]⟩
  have HV1 : Hid _ := hv1
  have HB1 : Hid _ := hb1
  clear hv1 hb1
  go_wp2_with fail
  refine Calls.mono (HS.out _ HB1.out) ?_
  rintro e2 w2 ⟨v2, rfl, hv2, hb2⟩
  obtain ⟨a2, c2, rfl⟩ : ∃ a2 c2, v2 = .slice a2 sn c2 := by
    rcases hv2.2 with ⟨rfl, h0⟩ | ⟨g, cap, cur, rfl, -⟩
    · exact ⟨none, 0, by rw [← HSN.out, h0]⟩
    · exact ⟨_, _, by rw [HSN.out]⟩
  have HV2 : Hid _ := hv2
  have HB2 : Hid (Below w.heap.size w w2) := below_next HB1.out hb2
  have HV12 : Hid (OwnG KSs w2 w.heap.size (.slice a1 on c1) (ks I.O)) := OwnG.below HV1.out hb2
  clear hv2 hb2
  have hcd : ∀ u, Below w2.heap.size w2 u → u.cell? ⟨q, 2, none⟩ = some (.int .u64 (ep : Int)) ∧ u.cell? ⟨q, 3, none⟩ = some (.slice oa on oc) ∧ u.cell? ⟨q, 4, none⟩ = some (.slice sa sn sc) := fun u hu => HCD.out u (below_next HB2.out hu)
  have HE2 : Hid (Calls _ _ _ w2.drew _) := HE.out w2.drew HB2.out.drew
  have hq1 : ((ep : Int) != (ep : Int)) = false := by simp
  have hq2 : ((on : Int) != (on : Int)) = false := by simp
  have hq3 : ((sn : Int) != (sn : Int)) = false := by simp
  go_wp2
  refine wp_region_noPanic ?_
  refine wp_region_held_drew (S := (fun u => Below w2.heap.size w2 u)) (by kernel_rfl) (by first | exact Below.refl _ _ | exact (Below.refl _ _).drew | assumption) (fun hHeld => ?_)
  refine tz (i := 0) 13 rfl rfl hHeld ?_
  simp only [pS]
  refine tz (i := 2) 15 rfl rfl hHeld ?_
  simp only [pS]
  refine tz (i := 3) 16 rfl rfl hHeld ?_
  simp only [pS]
  refine tz (i := 4) 17 rfl rfl hHeld ?_
  simp only [pS]
  refine tz (i := 5) 18 rfl rfl hHeld ?_
  simp only [pS]
  refine run_at (i := 1) rfl (by kernel_rfl) (by rfl) (fun K hK => ?_)
  simp only [List.getElem_toArray, List.getElem_cons_zero, List.getElem_cons_succ]
  go_simp
  (go_at_call 30; refine Calls.mono HE2.out ?_; rintro e u4 ⟨rfl, hq4⟩; have hq4 := hq4.symm; subst hq4)
  go_wp2_with fail
  refine hK.out _ _ (by first | exact Below.refl _ _ | exact (Below.refl _ _).drew | assumption) ?_
  clear hK K
  intro hHeld2
  clear hHeld
  have hHeld := hHeld2
  clear hHeld2
  try simp only [pS]
  refine tz (i := 6) 19 rfl rfl hHeld ?_
  simp only [pS]
  refine tz (i := 7) 20 rfl rfl hHeld ?_
  simp only [pS]
  refine tz (i := 8) 21 rfl rfl hHeld ?_
  simp only [pS]
  refine tz (i := 9) 22 rfl rfl hHeld ?_
  simp only [pS]
  refine tz (i := 10) 23 rfl rfl hHeld ?_
  simp only [pS]
  refine tz (i := 11) 24 rfl rfl hHeld ?_
  simp only [pS]
  refine tz (i := 12) 25 rfl rfl hHeld ?_
  simp only [pS]
  refine tz (i := 13) 26 rfl rfl hHeld ?_
  simp only [pS]
  refine tz (i := 14) 27 rfl rfl hHeld ?_
  simp only [pS]
  refine tz (i := 15) 28 rfl rfl hHeld ?_
  simp only [pS]
  refine tz (i := 16) 29 rfl rfl hHeld ?_
  simp only [pS]
  refine tz (i := 17) 30 rfl rfl hHeld ?_
  simp only [pS]
  refine tz (i := 18) 31 rfl rfl hHeld ?_
  simp only [pS]
  refine tz (i := 19) 32 rfl rfl hHeld ?_
  simp only [pS]
  refine tz (i := 20) 33 rfl rfl hHeld ?_
  simp only [pS]
  refine tz (i := 21) 34 rfl rfl hHeld ?_
  simp only [pS]
  refine tz (i := 22) 35 rfl rfl hHeld ?_
  simp only [pS]
  refine tz (i := 23) 36 rfl rfl hHeld ?_
  simp only [pS]
  refine tz (i := 24) 37 rfl rfl hHeld ?_
  simp only [pS]
  refine tz (i := 25) 38 rfl rfl hHeld ?_
  simp only [pS]
  refine tz (i := 26) 39 rfl rfl hHeld ?_
  simp only [pS]
  refine wpAnyH_done (by kernel_rfl) ?_ _
  refine NoPanic.normal ?_
  go_wp2
  go_loopw [7] (fun j wr => ∃ k : Nat, k ≤ on ∧ j = .int .i64 (k : Int) ∧ Below w2.heap.size w2 wr) (fun j _ => on - (intOf j).toNat)
  case atStart => exact ⟨0, Nat.zero_le _, rfl, (Below.refl _ _).drew⟩
  case round =>
    obtain ⟨k, hk, rfl, hbw⟩ := hrel
    have hkw : IntKind.i64.wrap ((k : Int) + 1) = ((k + 1 : Nat) : Int) := by rw [IntKind.wrap_i64]; omega
    by_cases hlt : k < on
    · have hlti : (k : Int) < (on : Int) := by omega
      have hk0 : (0 : Int) ≤ (k : Int) := by omega
      have hk1 : k < (ks I.O).length := by rw [HON.out]; exact hlt
      obtain ⟨b1, e1, r1⟩ := rdG_at HV12.out k hk1
      have hk2 : k < (mp Bg.q E).length := by have := HON.out; rw [len_ks] at this; rw [len_mp]; have h9 := Rib.eO HR.out; have h8 := congrArg List.length h9; rw [len_mp] at h8; omega
      obtain ⟨b2, e2, r2⟩ := rdG_at (Rib.ro (Rib.below HR.out HB2.out)) k hk2
      subst e1 e2
      obtain ⟨s, hs⟩ : ∃ s : Ss, s = (ks I.O)[k] := ⟨_, rfl⟩
      have hs2 : ((mp Bg.q E)[k]).1 = s := by rw [hs]; have h8 : ks I.O = ks (mp Bg.q E) := (by rw [Rib.eO HR.out, ks_mp, ks_mp]); simp only [h8]; simp [ks]
      have hbl : ∀ u, Below w2.heap.size w2 u → u.cell? ⟨b1, k * 2, none⟩ = some (.int .u64 (s.1 : Int)) ∧ u.cell? ⟨b1, k * 2 + 1, none⟩ = some (.int .u64 (s.2 : Int)) ∧ u.cell? ⟨b2, k * 3, none⟩ = some (.int .u64 (s.1 : Int)) ∧ u.cell? ⟨b2, k * 3 + 1, none⟩ = some (.int .u64 (s.2 : Int)) := fun u hu => by
        have g1 := r1 0 (.int .u64 (s.1 : Int)) (by rw [hs]; rfl)
        have g2 := r1 1 (.int .u64 (s.2 : Int)) (by rw [hs]; rfl)
        have g3 := r2 0 (.int .u64 (s.1 : Int)) (by rw [← hs2]; rfl)
        have g4 := r2 1 (.int .u64 (s.2 : Int)) (by rw [← hs2]; rfl)
        exact ⟨(hu.cell (World.block_lt_of_cell? _ _ g1)).trans g1, (hu.cell (World.block_lt_of_cell? _ _ g2)).trans g2, (hu.cell (World.block_lt_of_cell? _ _ g3)).trans g3, (hu.cell (World.block_lt_of_cell? _ _ g4)).trans g4⟩
      obtain ⟨s1, s2⟩ := s
      have hq1 : ((s1 : Int) != (s1 : Int)) = false := by simp
      have hq2 : ((s2 : Int) != (s2 : Int)) = false := by simp
      have HBW : Hid _ := hbw
      clear r1 r2 hs hs2 hk1 hk2
      go_wp2_with fail
      refine wp_region_noPanic ?_
      refine wp_region_held_drew (S := (fun u => Below w2.heap.size w2 u)) (by kernel_rfl) (by first | exact hbw.drew | assumption) (fun hHeld => ?_)
      refine tz (i := 0) 46 rfl rfl hHeld ?_
      simp only [pS]
      refine tz (i := 1) 47 rfl rfl hHeld ?_
      simp only [pS]
      refine tz (i := 2) 48 rfl rfl hHeld ?_
      simp only [pS]
      refine tz (i := 3) 49 rfl rfl hHeld ?_
      simp only [pS]
      refine tz (i := 4) 50 rfl rfl hHeld ?_
      simp only [pS]
      refine tz (i := 5) 51 rfl rfl hHeld ?_
      simp only [pS]
      refine tz (i := 6) 52 rfl rfl hHeld ?_
      simp only [pS]
      refine tz (i := 7) 53 rfl rfl hHeld ?_
      simp only [pS]
      refine tz (i := 8) 54 rfl rfl hHeld ?_
      simp only [pS]
      refine tz (i := 9) 55 rfl rfl hHeld ?_
      simp only [pS]
      refine tz (i := 10) 56 rfl rfl hHeld ?_
      simp only [pS]
      refine tz (i := 11) 57 rfl rfl hHeld ?_
      simp only [pS]
      refine tz (i := 12) 58 rfl rfl hHeld ?_
      simp only [pS]
      refine tz (i := 13) 59 rfl rfl hHeld ?_
      simp only [pS]
      refine tz (i := 14) 60 rfl rfl hHeld ?_
      simp only [pS]
      refine tz (i := 15) 61 rfl rfl hHeld ?_
      simp only [pS]
      refine tz (i := 16) 62 rfl rfl hHeld ?_
      simp only [pS]
      refine tz (i := 17) 63 rfl rfl hHeld ?_
      simp only [pS]
      refine tz (i := 18) 64 rfl rfl hHeld ?_
      simp only [pS]
      refine tz (i := 19) 65 rfl rfl hHeld ?_
      simp only [pS]
      refine tz (i := 20) 66 rfl rfl hHeld ?_
      simp only [pS]
      refine tz (i := 21) 67 rfl rfl hHeld ?_
      simp only [pS]
      refine tz (i := 22) 68 rfl rfl hHeld ?_
      simp only [pS]
      refine tz (i := 23) 69 rfl rfl hHeld ?_
      simp only [pS]
      refine tz (i := 24) 70 rfl rfl hHeld ?_
      simp only [pS]
      refine tz (i := 25) 71 rfl rfl hHeld ?_
      simp only [pS]
      refine tz (i := 26) 72 rfl rfl hHeld ?_
      simp only [pS]
      refine tz (i := 27) 73 rfl rfl hHeld ?_
      simp only [pS]
      refine tz (i := 28) 74 rfl rfl hHeld ?_
      simp only [pS]
      refine tz (i := 29) 75 rfl rfl hHeld ?_
      simp only [pS]
      refine tz (i := 30) 76 rfl rfl hHeld ?_
      simp only [pS]
      refine tz (i := 31) 77 rfl rfl hHeld ?_
      simp only [pS]
      refine wpAnyH_done (by kernel_rfl) ?_ _
      refine NoPanic.normal ?_
      go_wp2
      go_roundw
      case rel => exact ⟨k + 1, by omega, by go_num, HBW.out.drew⟩
      case measure => simp [intOf]; omega
    · have hlti : ¬ (k : Int) < (on : Int) := by omega
      have HBW : Hid _ := hbw
      clear hbw
      go_wp2
      go_loopw [8] (fun j wr => ∃ k : Nat, k ≤ sn ∧ j = .int .i64 (k : Int) ∧ Below w2.heap.size w2 wr) (fun j _ => sn - (intOf j).toNat)
      case atStart => exact ⟨0, Nat.zero_le _, rfl, HBW.out⟩
      case round =>
        obtain ⟨k, hk, rfl, hbw⟩ := hrel
        have hkw : IntKind.i64.wrap ((k : Int) + 1) = ((k + 1 : Nat) : Int) := by rw [IntKind.wrap_i64]; omega
        by_cases hlt : k < sn
        · have hlti : (k : Int) < (sn : Int) := by omega
          have hk0 : (0 : Int) ≤ (k : Int) := by omega
          have hk1 : k < (ks I.H).length := by rw [HSN.out]; exact hlt
          obtain ⟨b1, e1, r1⟩ := rdG_at HV2.out k hk1
          have hk2 : k < I.H.length := by have := HSN.out; rw [len_ks] at this; omega
          obtain ⟨b2, e2, r2⟩ := rdG_at (Rib.rs (Rib.below HR.out HB2.out)) k hk2
          subst e1 e2
          obtain ⟨s, hs⟩ : ∃ s : Ss, s = (ks I.H)[k] := ⟨_, rfl⟩
          have hs2 : (I.H[k]).1 = s := by rw [hs]; simp [ks]
          have hbl : ∀ u, Below w2.heap.size w2 u → u.cell? ⟨b1, k * 2, none⟩ = some (.int .u64 (s.1 : Int)) ∧ u.cell? ⟨b1, k * 2 + 1, none⟩ = some (.int .u64 (s.2 : Int)) ∧ u.cell? ⟨b2, k * 3, none⟩ = some (.int .u64 (s.1 : Int)) ∧ u.cell? ⟨b2, k * 3 + 1, none⟩ = some (.int .u64 (s.2 : Int)) := fun u hu => by
            have g1 := r1 0 (.int .u64 (s.1 : Int)) (by rw [hs]; rfl)
            have g2 := r1 1 (.int .u64 (s.2 : Int)) (by rw [hs]; rfl)
            have g3 := r2 0 (.int .u64 (s.1 : Int)) (by rw [← hs2]; rfl)
            have g4 := r2 1 (.int .u64 (s.2 : Int)) (by rw [← hs2]; rfl)
            exact ⟨(hu.cell (World.block_lt_of_cell? _ _ g1)).trans g1, (hu.cell (World.block_lt_of_cell? _ _ g2)).trans g2, (hu.cell (World.block_lt_of_cell? _ _ g3)).trans g3, (hu.cell (World.block_lt_of_cell? _ _ g4)).trans g4⟩
          obtain ⟨s1, s2⟩ := s
          have hq1 : ((s1 : Int) != (s1 : Int)) = false := by simp
          have hq2 : ((s2 : Int) != (s2 : Int)) = false := by simp
          have HBW : Hid _ := hbw
          clear r1 r2 hs hs2 hk1 hk2
          go_wp2_with fail
          refine wp_region_noPanic ?_
          refine wp_region_held_drew (S := (fun u => Below w2.heap.size w2 u)) (by kernel_rfl) (by first | exact hbw.drew | assumption) (fun hHeld => ?_)
          refine tz (i := 0) 84 rfl rfl hHeld ?_
          simp only [pS]
          refine tz (i := 1) 85 rfl rfl hHeld ?_
          simp only [pS]
          refine tz (i := 2) 86 rfl rfl hHeld ?_
          simp only [pS]
          refine tz (i := 3) 87 rfl rfl hHeld ?_
          simp only [pS]
          refine tz (i := 4) 88 rfl rfl hHeld ?_
          simp only [pS]
          refine tz (i := 5) 89 rfl rfl hHeld ?_
          simp only [pS]
          refine tz (i := 6) 90 rfl rfl hHeld ?_
          simp only [pS]
          refine tz (i := 7) 91 rfl rfl hHeld ?_
          simp only [pS]
          refine tz (i := 8) 92 rfl rfl hHeld ?_
          simp only [pS]
          refine tz (i := 9) 93 rfl rfl hHeld ?_
          simp only [pS]
          refine tz (i := 10) 94 rfl rfl hHeld ?_
          simp only [pS]
          refine tz (i := 11) 95 rfl rfl hHeld ?_
          simp only [pS]
          refine tz (i := 12) 96 rfl rfl hHeld ?_
          simp only [pS]
          refine tz (i := 13) 97 rfl rfl hHeld ?_
          simp only [pS]
          refine tz (i := 14) 98 rfl rfl hHeld ?_
          simp only [pS]
          refine tz (i := 15) 99 rfl rfl hHeld ?_
          simp only [pS]
          refine tz (i := 16) 100 rfl rfl hHeld ?_
          simp only [pS]
          refine tz (i := 17) 101 rfl rfl hHeld ?_
          simp only [pS]
          refine tz (i := 18) 102 rfl rfl hHeld ?_
          simp only [pS]
          refine tz (i := 19) 103 rfl rfl hHeld ?_
          simp only [pS]
          refine tz (i := 20) 104 rfl rfl hHeld ?_
          simp only [pS]
          refine tz (i := 21) 105 rfl rfl hHeld ?_
          simp only [pS]
          refine tz (i := 22) 106 rfl rfl hHeld ?_
          simp only [pS]
          refine tz (i := 23) 107 rfl rfl hHeld ?_
          simp only [pS]
          refine tz (i := 24) 108 rfl rfl hHeld ?_
          simp only [pS]
          refine tz (i := 25) 109 rfl rfl hHeld ?_
          simp only [pS]
          refine tz (i := 26) 110 rfl rfl hHeld ?_
          simp only [pS]
          refine tz (i := 27) 111 rfl rfl hHeld ?_
          simp only [pS]
          refine tz (i := 28) 112 rfl rfl hHeld ?_
          simp only [pS]
          refine tz (i := 29) 113 rfl rfl hHeld ?_
          simp only [pS]
          refine tz (i := 30) 114 rfl rfl hHeld ?_
          simp only [pS]
          refine tz (i := 31) 115 rfl rfl hHeld ?_
          simp only [pS]
          refine wpAnyH_done (by kernel_rfl) ?_ _
          refine NoPanic.normal ?_
          go_wp2
          go_roundw
          case rel => exact ⟨k + 1, by omega, by go_num, HBW.out.drew⟩
          case measure => simp [intOf]; omega
        · have hlti : ¬ (k : Int) < (sn : Int) := by omega
          have HBW : Hid _ := hbw
          clear hbw
          go_wp2
          go_ret
          exact ⟨rfl, below_next HB2.out HBW.out⟩
end
end Go.Proofs.YtdoikcolkbjnfaaGreat
