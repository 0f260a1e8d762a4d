import Derived.Test.YtdoikcolkbjnfaaGreatLxCa
namespace Go.Proofs.YtdoikcolkbjnfaaGreat
set_option linter.unusedVariables false
set_option linter.unusedSimpArgs false
open Go.RowKit Go.Maps
abbrev tRa : TypeId := 63
theorem ansCellR {u : World} {P : Nat} {a b c d : Value} (h : u.heap[P]? = some (.cells #[a, b, c, d] tRa (0, 0))) : u.cell? ⟨P, 0, none⟩ = some a ∧ u.cell? ⟨P, 1, none⟩ = some b ∧ u.cell? ⟨P, 2, none⟩ = some c ∧ u.cell? ⟨P, 3, none⟩ = some d ∧ u.frozen? ⟨P, 0, none⟩ = false ∧ u.frozen? ⟨P, 1, none⟩ = false ∧ u.frozen? ⟨P, 2, none⟩ = false ∧ u.frozen? ⟨P, 3, none⟩ = false :=
  ⟨by rw [cell_of_row _ _ _ _ _ _ h]; rfl, by rw [cell_of_row _ _ _ _ _ _ h]; rfl, by rw [cell_of_row _ _ _ _ _ _ h]; rfl, by rw [cell_of_row _ _ _ _ _ _ h]; rfl, by simp [World.frozen?, h], by simp [World.frozen?, h], by simp [World.frozen?, h], by simp [World.frozen?, h]⟩
theorem unBox {u : World} {P : Nat} {k e se pa i c : Int} {da : Option Addr} {dn dc : Nat} {cd : Int} {ga : Option Addr} {gn gc : Nat} (h : u.heap[P]? = some (.cells (unC k e se pa i c da dn dc cd ga gn gc) tUn (0, 0))) : u.cell? ⟨P, 0, none⟩ = some (.int .i64 k) ∧ u.cell? ⟨P, 1, none⟩ = some (.int .u64 e) ∧ u.cell? ⟨P, 2, none⟩ = some (.int .u64 se) ∧ u.cell? ⟨P, 3, none⟩ = some (.int .i64 pa) ∧ u.cell? ⟨P, 4, none⟩ = some (.int .i64 i) ∧ u.cell? ⟨P, 5, none⟩ = some (.int .i64 c) ∧ u.cell? ⟨P, 6, none⟩ = some (.slice da dn dc) ∧ u.cell? ⟨P, 7, none⟩ = some (.int .i64 cd) ∧ u.cell? ⟨P, 8, none⟩ = some (.slice ga gn gc) := by
  refine ⟨?_, ?_, ?_, ?_, ?_, ?_, ?_, ?_, ?_⟩ <;> (rw [cell_of_row _ _ _ _ _ _ h]; rfl)
section
variable {w w' : World} {q : Nat} {vo vs : Value} {J : Ib} {E : List (Ss × Bg)}
/-- the document's Decide -/
theorem rdec_t (h : Rv w q vo vs J E) (s : Ss) (c : Int) : Calls Tryz.prog 45 #[.pointer (some ⟨q, 0, none⟩), sv s, .int .i64 c] w fun e w' => e = .returned (.int .i64 (decE J s c)) ∧ LfV w q vo vs E (decI J s c) w' := by
  obtain ⟨s1, s2⟩ := s
  by_cases hg : (1 ≤ c ∧ c ≤ 7) ∧ (1 ≤ s1 ∧ s1 ≤ 281474976710655) ∧ (1 ≤ s2 ∧ s2 ≤ 281474976710655)
  · by_cases ho : s1 < J.ep
    · exact rdec_old h s1 s2 c hg ho
    · by_cases hin : (s1, s2) ∈ ks J.H
      · exact rdec_twice h s1 s2 c hg ho hin
      · exact rdec_ok h s1 s2 c hg ho hin
  · exact rdec_bad h s1 s2 c (by omega)
/-- what a Take of the document's leaves and answers -/
def TkV (w : World) (q : Nat) (vo vs : Value) (E : List (Ss × Bg)) (J' : Ib) (a : Ans) (e : Ending) (w' : World) : Prop :=
  ∃ vo' vs' E' B ga ba gn gc bn bc rs xs, e = .returned (ansV a ga ba gn gc bn bc) ∧ AnsAt w' B a ga ba gn gc bn bc rs xs ∧ Rv w' q vo' vs' J' E' ∧ Chg (footV q vo vs E) w w' ∧ (∀ b, footV q vo' vs' E' b → (footV q vo vs E b ∨ w.heap.size ≤ b) ∧ b < B) ∧ w.heap.size ≤ B
theorem TkV.same (h : Rv w q vo vs J E) (hb : Below w.heap.size w w') (s c : Int) : TkV w q vo vs E J ⟨s, c, none⟩ (.returned (ansV ⟨s, c, none⟩ none none 0 0 0 0)) w' :=
  ⟨vo, vs, E, w'.heap.size, none, none, 0, 0, 0, 0, [], [], rfl, AnsAt.plain _ _ _ _, h.below hb, Chg.of_below hb, fun b hf => ⟨.inl hf, (h.below hb).lt hf⟩, hb.size⟩
set_option maxRecDepth 20000
set_option maxHeartbeats 6400000
theorem rtake_bad (h : Rv w q vo vs J E) (uk : Int) (en sn : Nat) (pa ui uc : Int) (ux : List UInt8) (ucd : Int) (ul : List Rg) (da : Option Addr) (dn dc : Nat) (ga : Option Addr) (gn gc : Nat) (hn : dn = ux.length) (hg : gn = ul.length) (hd : dataB (⟨uk, (en : Int), (sn : Int), pa, ui, uc, ux, ucd, ul⟩ : Un) = false) : Calls Tryz.prog 22 #[.pointer (some ⟨q, 0, none⟩), unV (⟨uk, (en : Int), (sn : Int), pa, ui, uc, ux, ucd, ul⟩ : Un) da dn dc ga gn gc] w fun e w' => TkV w q vo vs E (takeI J (⟨uk, (en : Int), (sn : Int), pa, ui, uc, ux, ucd, ul⟩ : Un)) (takeA J (⟨uk, (en : Int), (sn : Int), pa, ui, uc, ux, ucd, ul⟩ : Un)) e w' := by
  have HT : Hid (takeI J (⟨uk, (en : Int), (sn : Int), pa, ui, uc, ux, ucd, ul⟩ : Un) = J ∧ takeA J (⟨uk, (en : Int), (sn : Int), pa, ui, uc, ux, ucd, ul⟩ : Un) = ⟨2, 0, none⟩) := by
    unfold Hid takeI takeA
    rw [hd]
    exact ⟨rfl, rfl⟩
  obtain ⟨w1, hw1⟩ : ∃ w1, w1 = (w.alloc (.cells (unC uk (en : Int) (sn : Int) pa ui uc da dn dc ucd ga gn gc) tUn)).alloc (.cells #[.int .i64 0, .int .i64 0, .slice none 0 0, .slice none 0 0] tRa) := ⟨_, rfl⟩
  have hb1 : Below w.heap.size w w1 := by rw [hw1]; exact al (al (Below.refl _ _) _) _
  have hz1 : w1.heap.size = w.heap.size + 2 := by rw [hw1]; simp
  have hU1 : w1.heap[w.heap.size]? = some (.cells (unC uk (en : Int) (sn : Int) pa ui uc da dn dc ucd ga gn gc) tUn (0, 0)) := by
    rw [hw1]
    exact ((al (Below.refl _ (w.alloc (.cells (unC uk (en : Int) (sn : Int) pa ui uc da dn dc ucd ga gn gc) tUn))) _).block _ (by simp)).trans (heap_alloc_new _ _)
  have hA1 : w1.heap[w.heap.size + 1]? = some (.cells #[.int .i64 0, .int .i64 0, .slice none 0 0, .slice none 0 0] tRa (0, 0)) := by
    rw [hw1]
    have h9 := heap_alloc_new (w.alloc (.cells (unC uk (en : Int) (sn : Int) pa ui uc da dn dc ucd ga gn gc) tUn)) (.cells #[.int .i64 0, .int .i64 0, .slice none 0 0, .slice none 0 0] tRa)
    rw [World.size_alloc] at h9
    exact h9
  have HDA : Hid (Calls _ _ _ w1 _) := refData_t (⟨uk, (en : Int), (sn : Int), pa, ui, uc, ux, ucd, ul⟩ : Un) da dn dc ga gn gc hn hg w1
  have hR1 := h.below hb1
  have HR1 : Hid _ := hR1
  have HH : Hid _ := h
  have HB1 : Hid _ := hb1
  have HW1 : Hid (w1 = _) := hw1
  have HZ1 : Hid _ := hz1
  have HU1 : Hid _ := hU1
  have HA1 : Hid _ := hA1
  have hu1 := unBox hU1
  rw [hd] at HDA
  clear h hR1 hb1 hw1 hz1 hU1 hA1 hn hg hd
  go_enter Tryz.func22, Tryz.ntmps22
  go_wp2_with fail
  rw [← HW1.out]
  refine Calls.mono HDA.out ?_
  rintro e2 w2 ⟨rfl, hb2⟩
  have HB2 : Hid (Below w.heap.size w w2) := below_next HB1.out hb2
  have HA2 : Hid (w2.heap[w.heap.size + 1]? = _) := (hb2.block _ (Array.getElem?_eq_some_iff.1 HA1.out).1).trans HA1.out
  clear hb2 hu1
  obtain ⟨b0, b1, b2, b3, f0, f1, f2, f3⟩ := ansCellR HA2.out
  go_wp2
  have hST : Chg (fun b => b = w.heap.size + 1) w2 ((((w2.setCell ⟨w.heap.size + 1, 0, none⟩ (.int .i64 2)).setCell ⟨w.heap.size + 1, 1, none⟩ (.int .i64 0)).setCell ⟨w.heap.size + 1, 2, none⟩ (.slice none 0 0)).setCell ⟨w.heap.size + 1, 3, none⟩ (.slice none 0 0)) := Chg.of_grown ((((gset1 w2 (w.heap.size + 1) 0 _).trans' (gset1 _ (w.heap.size + 1) 1 _)).trans' (gset1 _ (w.heap.size + 1) 2 _)).trans' (gset1 _ (w.heap.size + 1) 3 _)) (fun b e => (Option.some.inj e).symm)
  exact bodyPost_ret (v := ansV ⟨2, 0, none⟩ none none 0 0 0 0) (by simp [results, Tryz.results22, go_sem, b0, b1, b2, b3, f0, f1, f2, f3]) rfl (by rw [HT.out.1, HT.out.2]; exact TkV.same HH.out (HB2.out.trans (Below.mono (hST.below (B := w.heap.size) (fun i hi => by omega) HB2.out.size) (Nat.le_refl _))) 2 0)
theorem rtake_old (h : Rv w q vo vs J E) (uk : Int) (en sn : Nat) (pa ui uc : Int) (ux : List UInt8) (ucd : Int) (ul : List Rg) (da : Option Addr) (dn dc : Nat) (ga : Option Addr) (gn gc : Nat) (hn : dn = ux.length) (hg : gn = ul.length) (hd : dataB (⟨uk, (en : Int), (sn : Int), pa, ui, uc, ux, ucd, ul⟩ : Un) = true) (ho : en < J.ep) : Calls Tryz.prog 22 #[.pointer (some ⟨q, 0, none⟩), unV (⟨uk, (en : Int), (sn : Int), pa, ui, uc, ux, ucd, ul⟩ : Un) da dn dc ga gn gc] w fun e w' => TkV w q vo vs E (takeI J (⟨uk, (en : Int), (sn : Int), pa, ui, uc, ux, ucd, ul⟩ : Un)) (takeA J (⟨uk, (en : Int), (sn : Int), pa, ui, uc, ux, ucd, ul⟩ : Un)) e w' := by
  have HT : Hid (takeI J (⟨uk, (en : Int), (sn : Int), pa, ui, uc, ux, ucd, ul⟩ : Un) = J ∧ takeA J (⟨uk, (en : Int), (sn : Int), pa, ui, uc, ux, ucd, ul⟩ : Un) = ⟨1, 0, none⟩) := by
    unfold Hid takeI takeA
    rw [hd, if_pos rfl, if_pos rfl]
    have h9 : (en : Int).toNat < J.ep := by omega
    exact ⟨if_pos h9, if_pos h9⟩
  obtain ⟨w1, hw1⟩ : ∃ w1, w1 = (w.alloc (.cells (unC uk (en : Int) (sn : Int) pa ui uc da dn dc ucd ga gn gc) tUn)).alloc (.cells #[.int .i64 0, .int .i64 0, .slice none 0 0, .slice none 0 0] tRa) := ⟨_, rfl⟩
  have hb1 : Below w.heap.size w w1 := by rw [hw1]; exact al (al (Below.refl _ _) _) _
  have hz1 : w1.heap.size = w.heap.size + 2 := by rw [hw1]; simp
  have hU1 : w1.heap[w.heap.size]? = some (.cells (unC uk (en : Int) (sn : Int) pa ui uc da dn dc ucd ga gn gc) tUn (0, 0)) := by
    rw [hw1]
    exact ((al (Below.refl _ (w.alloc (.cells (unC uk (en : Int) (sn : Int) pa ui uc da dn dc ucd ga gn gc) tUn))) _).block _ (by simp)).trans (heap_alloc_new _ _)
  have hA1 : w1.heap[w.heap.size + 1]? = some (.cells #[.int .i64 0, .int .i64 0, .slice none 0 0, .slice none 0 0] tRa (0, 0)) := by
    rw [hw1]
    have h9 := heap_alloc_new (w.alloc (.cells (unC uk (en : Int) (sn : Int) pa ui uc da dn dc ucd ga gn gc) tUn)) (.cells #[.int .i64 0, .int .i64 0, .slice none 0 0, .slice none 0 0] tRa)
    rw [World.size_alloc] at h9
    exact h9
  have HDA : Hid (Calls _ _ _ w1 _) := refData_t (⟨uk, (en : Int), (sn : Int), pa, ui, uc, ux, ucd, ul⟩ : Un) da dn dc ga gn gc hn hg w1
  have hR1 := h.below hb1
  have HR1 : Hid _ := hR1
  have HH : Hid _ := h
  have HB1 : Hid _ := hb1
  have HW1 : Hid (w1 = _) := hw1
  have HZ1 : Hid _ := hz1
  have HU1 : Hid _ := hU1
  have HA1 : Hid _ := hA1
  have hu1 := unBox hU1
  rw [hd] at HDA
  obtain ⟨ep, hep⟩ : ∃ ep, ep = J.ep := ⟨_, rfl⟩
  have hlt : (en : Int) < (ep : Int) := by omega
  have HEP : Hid _ := hep
  clear h hR1 hb1 hw1 hz1 hU1 hA1 hn hg hd ho hep
  go_enter Tryz.func22, Tryz.ntmps22
  go_wp2_with fail
  rw [← HW1.out]
  refine Calls.mono HDA.out ?_
  rintro e2 wd ⟨rfl, hbd⟩
  have hkd : ∀ u, Below wd.heap.size wd u → u.cell? ⟨w.heap.size, 1, none⟩ = some (.int .u64 (en : Int)) ∧ u.cell? ⟨q, 2, none⟩ = some (.int .u64 (ep : Int)) := fun u hu => by
    have h8 := below_next hbd hu
    have h9 := (h8.block _ (Array.getElem?_eq_some_iff.1 HU1.out).1).trans HU1.out
    have h7 := (HR1.out.below h8).m.cell.2.2.1
    rw [← HEP.out] at h7
    exact ⟨by rw [cell_of_row _ _ _ _ _ _ h9]; rfl, h7⟩
  have HBD : Hid _ := hbd
  clear hbd hu1
  go_wp2_with fail
  refine wp_region_noPanic ?_
  refine wp_region_held_drew (S := (fun u => Below wd.heap.size wd u)) (by kernel_rfl) (by first | exact (Below.refl _ _).drew | assumption) (fun hHeld => ?_)
  refine tz (i := 0) 12 rfl rfl hHeld ?_
  simp only [pS]
  refine tz (i := 1) 13 rfl rfl hHeld ?_
  simp only [pS]
  refine tz (i := 2) 14 rfl rfl hHeld ?_
  simp only [pS]
  refine tz (i := 3) 15 rfl rfl hHeld ?_
  simp only [pS]
  refine tz (i := 4) 16 rfl rfl hHeld ?_
  simp only [pS]
  refine tz (i := 5) 17 rfl rfl hHeld ?_
  simp only [pS]
  refine tz (i := 6) 18 rfl rfl hHeld ?_
  simp only [pS]
  refine wpAnyH_done (by kernel_rfl) ?_ _
  refine NoPanic.normal ?_
  obtain ⟨w2, hw2⟩ : ∃ w2, w2 = wd.drew := ⟨_, rfl⟩
  have hb2 : Below w1.heap.size w1 w2 := by rw [hw2]; exact below_next HBD.out (Below.refl _ _).drew
  rw [← hw2]
  have HB2 : Hid (Below w.heap.size w w2) := below_next HB1.out hb2
  have HA2 : Hid (w2.heap[w.heap.size + 1]? = _) := (hb2.block _ (Array.getElem?_eq_some_iff.1 HA1.out).1).trans HA1.out
  clear hb2 hw2 hkd hHeld
  obtain ⟨b0, b1, b2, b3, f0, f1, f2, f3⟩ := ansCellR HA2.out
  go_wp2
  have hST : Chg (fun b => b = w.heap.size + 1) w2 ((((w2.setCell ⟨w.heap.size + 1, 0, none⟩ (.int .i64 1)).setCell ⟨w.heap.size + 1, 1, none⟩ (.int .i64 0)).setCell ⟨w.heap.size + 1, 2, none⟩ (.slice none 0 0)).setCell ⟨w.heap.size + 1, 3, none⟩ (.slice none 0 0)) := Chg.of_grown ((((gset1 w2 (w.heap.size + 1) 0 _).trans' (gset1 _ (w.heap.size + 1) 1 _)).trans' (gset1 _ (w.heap.size + 1) 2 _)).trans' (gset1 _ (w.heap.size + 1) 3 _)) (fun b e => (Option.some.inj e).symm)
  exact bodyPost_ret (v := ansV ⟨1, 0, none⟩ none none 0 0 0 0) (by simp [results, Tryz.results22, go_sem, b0, b1, b2, b3, f0, f1, f2, f3]) rfl (by rw [HT.out.1, HT.out.2]; exact TkV.same HH.out (HB2.out.trans (Below.mono (hST.below (B := w.heap.size) (fun i hi => by omega) HB2.out.size) (Nat.le_refl _))) 1 0)
end
end Go.Proofs.YtdoikcolkbjnfaaGreat
namespace Go.Proofs.YtdoikcolkbjnfaaGreat
set_option linter.unusedVariables false
set_option linter.unusedSimpArgs false
open Go.RowKit Go.Maps
section
variable {w w' : World} {q : Nat} {vo vs : Value} {J : Ib} {E : List (Ss × Bg)}
theorem TkV.of {w2 w9 w10 : World} {J' : Ib} {X : Nat} (h : Rv w q vo vs J E) (h0 : Below w.heap.size w w2) (hl : LfV w2 q vo vs E J' w9) (hx : w.heap.size ≤ X) (hx2 : X < w2.heap.size) (hst : Chg (fun b => b = X) w9 w10) (s c : Int) : TkV w q vo vs E J' ⟨s, c, none⟩ (.returned (ansV ⟨s, c, none⟩ none none 0 0 0 0)) w10 := by
  obtain ⟨vo', vs', E', hv, hc, hf⟩ := hl
  have ne : ∀ b, footV q vo' vs' E' b → ¬ b = X := fun b hb e => by
    rcases hf b hb with h9 | h9
    · have := h.lt h9
      omega
    · omega
  have hR : Rv w10 q vo' vs' J' E' := hv.kept hst.size (fun b hb => hst.block b (hv.lt hb) (ne b hb))
  exact ⟨vo', vs', E', w10.heap.size, none, none, 0, 0, 0, 0, [], [], rfl, AnsAt.plain _ _ _ _, hR, ((Chg.of_below h0).trans hc (fun b hb => .inl hb)).trans hst (fun b e => .inr (by omega)), fun b hb => ⟨(hf b hb).imp id (fun h9 => Nat.le_trans h0.size h9), hR.lt hb⟩, Nat.le_trans h0.size (Nat.le_trans hc.size hst.size)⟩
theorem shBox {u : World} {P : Nat} {a b : Nat} {c : Int} (h : u.heap[P]? = some (.cells #[.int .u64 (a : Int), .int .u64 (b : Int), .int .i64 c] KH.t (0, 0))) : u.cell? ⟨P, 0, none⟩ = some (.int .u64 (a : Int)) ∧ u.cell? ⟨P, 1, none⟩ = some (.int .u64 (b : Int)) ∧ u.cell? ⟨P, 2, none⟩ = some (.int .i64 c) :=
  ⟨by rw [cell_of_row _ _ _ _ _ _ h]; rfl, by rw [cell_of_row _ _ _ _ _ _ h]; rfl, by rw [cell_of_row _ _ _ _ _ _ h]; rfl⟩
set_option maxRecDepth 20000
set_option maxHeartbeats 6400000
theorem rtake_dec (h : Rv w q vo vs J E) (uk : Int) (en sn : Nat) (pa ui uc : Int) (ux : List UInt8) (ucd : Int) (ul : List Rg) (da : Option Addr) (dn dc : Nat) (ga : Option Addr) (gn gc : Nat) (hn : dn = ux.length) (hg : gn = ul.length) (h64 : en < 18446744073709551616) (hd : dataB (⟨uk, (en : Int), (sn : Int), pa, ui, uc, ux, ucd, ul⟩ : Un) = true) (ho : ¬ en < J.ep) (hin : (en, sn) ∈ ks (riseI J en).H) : Calls Tryz.prog 22 #[.pointer (some ⟨q, 0, none⟩), unV (⟨uk, (en : Int), (sn : Int), pa, ui, uc, ux, ucd, ul⟩ : Un) da dn dc ga gn gc] w fun e w' => TkV w q vo vs E (takeI J (⟨uk, (en : Int), (sn : Int), pa, ui, uc, ux, ucd, ul⟩ : Un)) (takeA J (⟨uk, (en : Int), (sn : Int), pa, ui, uc, ux, ucd, ul⟩ : Un)) e w' := by
  obtain ⟨J2, hJ2⟩ : ∃ J2, J2 = riseI J en := ⟨_, rfl⟩
  rw [← hJ2] at hin
  obtain ⟨cc, hcc⟩ : ∃ cc, lk J2.H (en, sn) = some cc := by
    cases h9 : lk J2.H (en, sn) with
    | none => exact absurd hin (lk_none.1 h9)
    | some c => exact ⟨c, rfl⟩
  have HT : Hid (takeI J (⟨uk, (en : Int), (sn : Int), pa, ui, uc, ux, ucd, ul⟩ : Un) = { J2 with H := pt J2.ms J2.H (en, sn) cc } ∧ takeA J (⟨uk, (en : Int), (sn : Int), pa, ui, uc, ux, ucd, ul⟩ : Un) = ⟨5, cc, none⟩) := by
    unfold Hid takeI takeA
    rw [hd, if_pos rfl, if_pos rfl]
    have h9 : ¬ (en : Int).toNat < J.ep := by omega
    have h8 : riseI J (en : Int).toNat = J2 := by rw [hJ2]; rfl
    have h7 : lk J2.H (sesU (⟨uk, (en : Int), (sn : Int), pa, ui, uc, ux, ucd, ul⟩ : Un)) = some cc := hcc
    rw [if_neg h9, if_neg h9]
    show segI (riseI J (en : Int).toNat) _ = _ ∧ segA (riseI J (en : Int).toNat) _ = _
    rw [h8]
    unfold segI segA
    rw [h7]
    exact ⟨rfl, rfl⟩
  have HJ2 : Hid _ := hJ2
  have HIN : Hid _ := hin
  have HCC : Hid _ := hcc
  clear hin hcc
  obtain ⟨w1, hw1⟩ : ∃ w1, w1 = (w.alloc (.cells (unC uk (en : Int) (sn : Int) pa ui uc da dn dc ucd ga gn gc) tUn)).alloc (.cells #[.int .i64 0, .int .i64 0, .slice none 0 0, .slice none 0 0] tRa) := ⟨_, rfl⟩
  have hb1 : Below w.heap.size w w1 := by rw [hw1]; exact al (al (Below.refl _ _) _) _
  have hz1 : w1.heap.size = w.heap.size + 2 := by rw [hw1]; simp
  have hU1 : w1.heap[w.heap.size]? = some (.cells (unC uk (en : Int) (sn : Int) pa ui uc da dn dc ucd ga gn gc) tUn (0, 0)) := by
    rw [hw1]
    exact ((al (Below.refl _ (w.alloc (.cells (unC uk (en : Int) (sn : Int) pa ui uc da dn dc ucd ga gn gc) tUn))) _).block _ (by simp)).trans (heap_alloc_new _ _)
  have hA1 : w1.heap[w.heap.size + 1]? = some (.cells #[.int .i64 0, .int .i64 0, .slice none 0 0, .slice none 0 0] tRa (0, 0)) := by
    rw [hw1]
    have h9 := heap_alloc_new (w.alloc (.cells (unC uk (en : Int) (sn : Int) pa ui uc da dn dc ucd ga gn gc) tUn)) (.cells #[.int .i64 0, .int .i64 0, .slice none 0 0, .slice none 0 0] tRa)
    rw [World.size_alloc] at h9
    exact h9
  have HDA : Hid (Calls _ _ _ w1 _) := refData_t (⟨uk, (en : Int), (sn : Int), pa, ui, uc, ux, ucd, ul⟩ : Un) da dn dc ga gn gc hn hg w1
  have hR1 := h.below hb1
  have HR1 : Hid _ := hR1
  have HH : Hid _ := h
  have HB1 : Hid _ := hb1
  have HW1 : Hid (w1 = _) := hw1
  have HZ1 : Hid _ := hz1
  have HU1 : Hid _ := hU1
  have HA1 : Hid _ := hA1
  have hu1 := unBox hU1
  rw [hd] at HDA
  obtain ⟨ep, hep⟩ : ∃ ep, ep = J.ep := ⟨_, rfl⟩
  have hlt : ¬ (en : Int) < (ep : Int) := by omega
  have HEP : Hid _ := hep
  have HEE : Hid (((en, sn) : Ss).1 = J2.ep) := by unfold Hid; rw [hJ2]; exact (riseI_ep (by omega)).symm
  have HRI : Hid (∀ u, Below w1.heap.size w1 u → Calls _ _ _ u _) := fun u hu => rise_v (hR1.below hu) en h64
  rw [← hJ2] at HRI
  clear h hR1 hb1 hw1 hz1 hU1 hA1 hn hg hd ho hep hJ2
  go_enter Tryz.func22, Tryz.ntmps22
  go_wp2_with fail
  rw [← HW1.out]
  refine Calls.mono HDA.out ?_
  rintro e2 wd ⟨rfl, hbd⟩
  have hkd : ∀ u, Below wd.heap.size wd u → u.cell? ⟨w.heap.size, 1, none⟩ = some (.int .u64 (en : Int)) ∧ u.cell? ⟨q, 2, none⟩ = some (.int .u64 (ep : Int)) := fun u hu => by
    have h8 := below_next hbd hu
    have h9 := (h8.block _ (Array.getElem?_eq_some_iff.1 HU1.out).1).trans HU1.out
    have h7 := (HR1.out.below h8).m.cell.2.2.1
    rw [← HEP.out] at h7
    exact ⟨by rw [cell_of_row _ _ _ _ _ _ h9]; rfl, h7⟩
  have HBD : Hid _ := hbd
  clear hbd hu1
  go_wp2_with fail
  refine wp_region_noPanic ?_
  refine wp_region_held_drew (S := (fun u => Below wd.heap.size wd u)) (by kernel_rfl) (by first | exact (Below.refl _ _).drew | assumption) (fun hHeld => ?_)
  refine tz (i := 0) 12 rfl rfl hHeld ?_
  simp only [pS]
  refine tz (i := 1) 13 rfl rfl hHeld ?_
  simp only [pS]
  refine tz (i := 2) 14 rfl rfl hHeld ?_
  simp only [pS]
  refine tz (i := 3) 15 rfl rfl hHeld ?_
  simp only [pS]
  refine tz (i := 4) 16 rfl rfl hHeld ?_
  simp only [pS]
  refine tz (i := 5) 17 rfl rfl hHeld ?_
  simp only [pS]
  refine tz (i := 6) 18 rfl rfl hHeld ?_
  simp only [pS]
  refine wpAnyH_done (by kernel_rfl) ?_ _
  refine NoPanic.normal ?_
  obtain ⟨w2, hw2⟩ : ∃ w2, w2 = wd.drew := ⟨_, rfl⟩
  have hb2 : Below w1.heap.size w1 w2 := by rw [hw2]; exact below_next HBD.out (Below.refl _ _).drew
  rw [← hw2]
  have HB2 : Hid (Below w.heap.size w w2) := below_next HB1.out hb2
  have hA2 := (hb2.block _ (Array.getElem?_eq_some_iff.1 HA1.out).1).trans HA1.out
  have hU2 := (hb2.block _ (Array.getElem?_eq_some_iff.1 HU1.out).1).trans HU1.out
  have hu2 := unBox hU2
  have HS2 : Hid (w.heap.size + 2 ≤ w2.heap.size) := by have := HZ1.out; have := hb2.size; unfold Hid; omega
  have HA2 : Hid _ := hA2
  have HU2 : Hid _ := hU2
  have HR2 : Hid (Calls _ _ _ w2 _) := HRI.out w2 hb2
  clear hb2 hw2 hkd hHeld hA2 hU2
  go_wp2_with fail
  refine Calls.mono HR2.out ?_
  rintro e3 w3 ⟨rfl, vo3, vs3, E3, h3, hc3, hf3⟩
  have hA3 := (hc3.block _ (Array.getElem?_eq_some_iff.1 HA2.out).1 (fun h9 => by have := HH.out.lt h9; omega)).trans HA2.out
  have hU3 := (hc3.block _ (Array.getElem?_eq_some_iff.1 HU2.out).1 (fun h9 => by have := HH.out.lt h9; omega)).trans HU2.out
  have hu3 := unBox hU3
  obtain ⟨a1, c1, hv1, -, -, -, -⟩ := OwnG.val h3.m.rs
  subst hv1
  obtain ⟨H3, hH3⟩ : ∃ H3, H3 = J2.H := ⟨_, rfl⟩
  obtain ⟨n1, hn1⟩ : ∃ n1, n1 = H3.length := ⟨_, rfl⟩
  rw [← hH3, ← hn1] at h3 hf3
  have hnl : n1 ≤ 4096 := by rw [hn1, hH3]; exact h3.lenH
  have hM3 : RiM w3 q J2.mo J2.ms J2.ep vo3 (.slice a1 n1 c1) (mp Bg.q E3) H3 := by rw [hH3]; exact h3.m
  obtain ⟨w4, hw4⟩ : ∃ w4, w4 = w3.alloc (.cells #[.int .u64 (en : Int), .int .u64 (sn : Int)] tRs) := ⟨_, rfl⟩
  have hb4 : Below w3.heap.size w3 w4 := by rw [hw4]; exact al (Below.refl _ _) _
  have HSH : Hid (Calls _ _ _ w4 _) := rshut_t (hM3.below hb4) (en, sn) (by rw [← hn1]; omega)
  have HR3 : Hid _ := h3
  have HM3 : Hid _ := hM3
  have HC3 : Hid _ := hc3
  have HF3 : Hid _ := hf3
  have HA3 : Hid _ := hA3
  have HN1 : Hid (n1 = H3.length) := hn1
  have HH3 : Hid _ := hH3
  have HW4 : Hid (w4 = _) := hw4
  have HB4 : Hid _ := hb4
  clear h3 hM3 hc3 hf3 hA3 hU3 hn1 hH3 hw4 hb4 hu2
  go_wp2_with fail
  rw [← HW4.out]
  refine Calls.mono HSH.out ?_
  rintro e5 w5 ⟨hfd, hb5'⟩
  have hb5 : Below w3.heap.size w3 w5 := below_next HB4.out hb5'
  rcases hfd with ⟨i, hi, hix, rfl⟩ | ⟨hno, rfl⟩
  · have hi0 : (0 : Int) ≤ (i : Int) := by omega
    have hin1 : (i : Int) < (n1 : Int) := by rw [HN1.out]; omega
    have hm5 := HM3.out.below hb5
    have hc5 := hm5.cell
    obtain ⟨g, hg, hrg⟩ := rdG_at hm5.rs i hi
    subst hg
    have hx3 : H3[i].2 = cc := by
      have h9 := lk_of (x := H3[i]) (by rw [HH3.out]; exact HR3.out.ok.nh) (List.getElem_mem _)
      have h8 : lk H3 (en, sn) = some cc := by rw [HH3.out]; exact HCC.out
      rw [hix, h8] at h9
      exact (Option.some.inj h9).symm
    have y1 := hrg 0 (.int .u64 (en : Int)) (by show (KH.f H3[i])[0]? = _; rw [show KH.f H3[i] = [.int .u64 (H3[i].1.1 : Int), .int .u64 (H3[i].1.2 : Int), .int .i64 H3[i].2] from rfl, hix]; rfl)
    have y2 := hrg 1 (.int .u64 (sn : Int)) (by show (KH.f H3[i])[1]? = _; rw [show KH.f H3[i] = [.int .u64 (H3[i].1.1 : Int), .int .u64 (H3[i].1.2 : Int), .int .i64 H3[i].2] from rfl, hix]; rfl)
    have y3 := hrg 2 (.int .i64 cc) (by show (KH.f H3[i])[2]? = _; rw [show KH.f H3[i] = [.int .u64 (H3[i].1.1 : Int), .int .u64 (H3[i].1.2 : Int), .int .i64 H3[i].2] from rfl, hx3]; rfl)
    have y1 : w5.cell? ⟨g, i * 3, none⟩ = _ := y1
    have y2 : w5.cell? ⟨g, i * 3 + 1, none⟩ = _ := y2
    have y3 : w5.cell? ⟨g, i * 3 + 2, none⟩ = _ := y3
    obtain ⟨w6, hw6⟩ : ∃ w6, w6 = w5.alloc (.cells #[.int .u64 (en : Int), .int .u64 (sn : Int), .int .i64 cc] KH.t) := ⟨_, rfl⟩
    have hb6 : Below w5.heap.size w5 w6 := by rw [hw6]; exact al (Below.refl _ _) _
    have hs6 : w6.heap[w5.heap.size]? = some (.cells #[.int .u64 (en : Int), .int .u64 (sn : Int), .int .i64 cc] KH.t (0, 0)) := by rw [hw6]; exact heap_alloc_new _ _
    have HFO : Hid (Calls _ _ _ w6 _) := rforget_t (hm5.below hb6) i hi (by rw [← HN1.out]; omega)
    have HER : Hid (H3.eraseIdx i = rm H3 (en, sn)) := erase_rm hi (by rw [HH3.out]; exact HR3.out.ok.nh) hix
    have HIL : Hid _ := hi
    have HB5 : Hid _ := hb5
    have HB6 : Hid _ := hb6
    have HS6 : Hid _ := hs6
    have HW6 : Hid (w6 = _) := hw6
    clear hb5' hi hix hm5 hrg hx3 hb6 hs6 hw6 hb5
    go_wp2_with fail
    rw [← HW6.out]
    refine Calls.mono HFO.out ?_
    rintro e7 w7 ⟨rfl, v7, hm7, hf7, hc7⟩
    have hql : q < w.heap.size := HH.out.lt (.inl rfl)
    have hz6 : w5.heap.size < w6.heap.size := (Array.getElem?_eq_some_iff.1 HS6.out).1
    have hz35 : w3.heap.size ≤ w5.heap.size := HB5.out.size
    have hz23 : w2.heap.size ≤ w3.heap.size := HC3.out.size
    have hz2 : w.heap.size + 2 ≤ w2.heap.size := HS2.out
    have hs7 := (hc7.block _ hz6 (fun h9 => by omega)).trans HS6.out
    have hA7 := (hc7.block (w.heap.size + 1) (by omega) (fun h9 => by omega)).trans ((HB6.out.block _ (by omega)).trans ((HB5.out.block _ (by omega)).trans HA3.out))
    obtain ⟨a7, c7, hv7, -, -, -, -⟩ := OwnG.val hm7.rs
    subst hv7
    obtain ⟨X7, hX7⟩ : ∃ X7, X7 = H3.eraseIdx i := ⟨_, rfl⟩
    obtain ⟨n7, hn7⟩ : ∃ n7, n7 = X7.length := ⟨_, rfl⟩
    rw [← hX7, ← hn7] at hm7 hf7
    have hn7l : n7 ≤ 4096 := by rw [hn7, hX7, List.length_eraseIdx]; have := HN1.out; split <;> omega
    have HM7 : Hid _ := hm7
    have HF7 : Hid _ := hf7
    have HC7 : Hid _ := hc7
    have HS7 : Hid _ := hs7
    have HA7 : Hid _ := hA7
    have HLE : Hid _ := hn7
    have HX7 : Hid _ := hX7
    have HZ : Hid (q < w.heap.size ∧ w5.heap.size < w6.heap.size ∧ w3.heap.size ≤ w5.heap.size ∧ w2.heap.size ≤ w3.heap.size ∧ w.heap.size + 2 ≤ w2.heap.size ∧ w6.heap.size ≤ w7.heap.size) := ⟨hql, hz6, hz35, hz23, hz2, hc7.size⟩
    have HOW : Hid (∀ u, Below w7.heap.size w7 u → OwnG KH u 0 (.slice a7 n7 c7) X7) := fun u hu => OwnG.below HM7.out.rs hu
    have HCQ : Hid (∀ u, Below w7.heap.size w7 u → u.cell? ⟨q, 4, none⟩ = some (.slice a7 n7 c7)) := fun u hu => (HM7.out.below hu).cell.2.2.2.2
    have HCS : Hid (∀ u, Below w7.heap.size w7 u → _) := fun u hu => shBox ((hu.block _ (Array.getElem?_eq_some_iff.1 HS7.out).1).trans HS7.out)
    have HQ : Hid (∀ u u', Below w7.heap.size w7 u → u.grownBy u' (Value.slice a7 n7 c7).ownBlock → u'.cell? ⟨q, 4, none⟩ = some (.slice a7 n7 c7) ∧ u'.frozen? ⟨q, 4, none⟩ = false) := fun u u' hu hg => by
      have h9 := HM7.out.below hu
      have h8 : u'.heap[q]? = u.heap[q]? := hg.block q (Array.getElem?_eq_some_iff.1 h9.hp).1 (fun e => h9.sq e.symm)
      exact ⟨(World.cell?_of_block h8).trans h9.cell.2.2.2.2, (World.frozen?_of_block h8).trans (h9.fz 4)⟩
    clear hql hz6 hz35 hz23 hz2 hs7 hA7 hX7 hn7 hm7 hf7 hc7 y1 y2 y3 hc5
    go_wp2_with fail
    refine wp_region_noPanic ?_
    refine wp_region_late_drew (S := (fun u => Below w7.heap.size w7 u)) (X := [7, 8, 9, 10]) (by kernel_rfl) (by with_reducible first | exact (Below.refl _ _).drew | exact al (Below.refl _ _).drew _ | exact al hHeld _ | exact (al (Below.refl _ _) _).drew) (fun hHeld => ?_)
    refine take_atA (i := 0) 44 (v := ?_) rfl rfl (by kernel_rfl) (by kernel_rfl) (by kernel_rfl) (by decide) (fun _ _ _ h => h) (by rfl) ?_ hHeld ?_
    rotate_left
    · (intro w; go_simp; try with_reducible rfl)
    simp only [pS]
    refine take_atA (i := 1) 45 (v := ?_) rfl rfl (by kernel_rfl) (by kernel_rfl) (by kernel_rfl) (by decide) (fun _ _ _ h => h) (by rfl) ?_ hHeld ?_
    rotate_left
    · (intro w; go_simp; try with_reducible rfl)
    simp only [pS]
    refine take_atA (i := 2) 46 (v := ?_) rfl rfl (by kernel_rfl) (by kernel_rfl) (by kernel_rfl) (by decide) (fun _ _ _ h => h) (by rfl) ?_ hHeld ?_
    rotate_left
    · (intro w; go_simp; try with_reducible rfl)
    simp only [pS]
    refine take_atA (i := 3) 47 (v := ?_) rfl rfl (by kernel_rfl) (by kernel_rfl) (by kernel_rfl) (by decide) (fun _ _ _ h => h) (by rfl) ?_ hHeld ?_
    rotate_left
    · (intro w; go_simp; try with_reducible rfl)
    simp only [pS]
    refine take_atL (i := 4) 48 (v := .slice a7 n7 c7) rfl rfl (by kernel_rfl) (by kernel_rfl) (by kernel_rfl) (by kernel_rfl) (fun _ _ _ h => h) (by rfl) ?_ hHeld ?_
    · (intro w hSw; have hc9 := HCQ.out _ hSw; go_simp; try with_reducible rfl)
    simp only [pS]
    refine take_atL (i := 5) 49 (v := .agg #[.int .u64 (en : Int), .int .u64 (sn : Int), .int .i64 cc]) rfl rfl (by kernel_rfl) (by kernel_rfl) (by kernel_rfl) (by kernel_rfl) (fun _ _ _ h => h) (by rfl) ?_ hHeld ?_
    · (intro w hSw; have hc9 := HCS.out _ hSw; go_simp; try with_reducible rfl)
    simp only [pS]
    refine run_atL (i := 6) rfl (by kernel_rfl) (by rfl) (fun K hK => ?_)
    simp only [List.getElem_toArray, List.getElem_cons_zero, List.getElem_cons_succ]
    go_simp
    go_wp2_with fail
    refine hK.out _ _ (by with_reducible first | exact (Below.refl _ _).drew | exact al (Below.refl _ _).drew _ | exact al hHeld _ | exact (al (Below.refl _ _) _).drew) ?_
    clear hK K
    intro hHeld2
    clear hHeld
    have hHeld := hHeld2
    clear hHeld2
    try simp only [pS]
    refine run_atLate (i := 7) rfl (by kernel_rfl) (by decide) (by rfl) (fun K hK => ?_)
    simp only [List.getElem_toArray, List.getElem_cons_zero, List.getElem_cons_succ]
    (refine wpo_appG1 (K := KH) _ _ rfl 0 (.slice a7 n7 c7) X7 ((en, sn), cc) n7 HLE.out ⟨w7.heap.size, 0, none⟩ 1 rfl (HOW.out _ (al (Below.refl _ _).drew _)) rfl (rdG_lit (K := KH) (heap_alloc_new _ _) rfl) (by show (n7 + 1) * 24 ≤ _; omega) (by simp only [maxLen]; omega) (Nat.zero_le _) ?_; intro g8 c8 w8 hown8 hg8 hat8; obtain ⟨hcq, hfq⟩ := HQ.out _ _ (al (Below.refl _ _).drew _) hg8; have HO8 : Hid _ := hown8; have HG8 : Hid _ := hg8; have HT8 : Hid _ := hat8; clear hown8 hg8 hat8)
    refine hK.out _ _ ?_
    clear hK K
    try simp only [pS]
    refine val_atLate (i := 8) 52 (v := ?_) rfl rfl (by kernel_rfl) (by decide) (by rfl) ?_ ?_
    rotate_left
    · (go_simp; try with_reducible rfl)
    simp only [pS]
    refine val_atLate (i := 9) 53 (v := ?_) rfl rfl (by kernel_rfl) (by decide) (by rfl) ?_ ?_
    rotate_left
    · (go_simp; try with_reducible rfl)
    simp only [pS]
    refine run_atLate (i := 10) rfl (by kernel_rfl) (by decide) (by rfl) (fun K hK => ?_)
    simp only [List.getElem_toArray, List.getElem_cons_zero, List.getElem_cons_succ]
    go_simp
    go_wp2_with fail
    refine hK.out _ _ ?_
    clear hK K
    try simp only [pS]
    refine doneL (by kernel_rfl) ?_ _
    refine NoPanic.normal ?_
    have HU8 : Hid (Below w7.heap.size w7 (w7.drew.alloc (.cells #[.int .u64 (en : Int), .int .u64 (sn : Int), .int .i64 cc] KH.t))) := al (Below.refl _ _).drew _
    have hm9 := RiM.push HM7.out HU8.out HO8.out HG8.out
    have hch : Chg (fun b => b = q ∨ (Value.slice a7 n7 c7).ownBlock = some b) w7 (w8.setCell ⟨q, 4, none⟩ (.slice (some ⟨g8, 0, none⟩) (n7 + 1) c8)) := ((Chg.of_below HU8.out).trans (Chg.of_grown HG8.out (F := fun b => (Value.slice a7 n7 c7).ownBlock = some b) (fun b e => e)) (fun b e => .inl (.inr e))).trans (Chg.of_grown (gset1 w8 q 4 _) (F := fun b => b = q) (fun b e => (Option.some.inj e).symm)) (fun b e => .inl (.inl e))
    obtain ⟨w9, hw9⟩ : ∃ w9, w9 = w8.setCell ⟨q, 4, none⟩ (.slice (some ⟨g8, 0, none⟩) (n7 + 1) c8) := ⟨_, rfl⟩
    rw [← hw9] at hm9 hch ⊢
    have hc39 : Chg (fun b => b = q ∨ (Value.slice (some ⟨g, 0, none⟩) n1 c1).ownBlock = some b) w3 w9 := ((Chg.of_below (below_next HB5.out HB6.out)).trans HC7.out (fun b e => .inl (.inl e))).trans hch (fun b e => e.elim (fun h9 => .inl (.inl h9)) (fun h9 => .inr (by have h8 := HF7.out b h9; have := HZ.out; omega)))
    have hf9 : ∀ b, (Value.slice (some ⟨g8, 0, none⟩) (n7 + 1) c8).ownBlock = some b → (Value.slice (some ⟨g, 0, none⟩) n1 c1).ownBlock = some b ∨ w3.heap.size ≤ b := fun b e => by
      cases e
      refine .inr ?_
      show w3.heap.size ≤ g8
      have h7 := HZ.out
      rcases HT8.out with h9 | h9
      · have h8 : w6.heap.size ≤ g8 := HF7.out _ h9
        omega
      · have h8 : w7.heap.size ≤ g8 := Nat.le_trans HU8.out.size h9
        omega
    have hpt : pt J2.ms J2.H (en, sn) cc = X7 ++ [((en, sn), cc)] := by
      unfold pt
      rw [if_pos HIN.out, HX7.out, HER.out, HH3.out]
    have HL9 : Hid (LfV w2 q vo vs E { J2 with H := pt J2.ms J2.H (en, sn) cc } w9) := LfV.trans HC3.out HF3.out (LfV.setH HR3.out (by rw [hpt]; exact hm9) (IbOk.dec HR3.out.ok HEE.out cc (fun h9 => HR3.out.ok.ap _ h9 HIN.out)) hc39 hf9)
    have hS9 := (hch.block w5.heap.size (Array.getElem?_eq_some_iff.1 HS7.out).1 (fun h9 => h9.elim (fun e => by have := HZ.out; omega) (fun e => by have h8 := HF7.out _ e; have := HZ.out; omega))).trans HS7.out
    have hA9 := (hch.block (w.heap.size + 1) (Array.getElem?_eq_some_iff.1 HA7.out).1 (fun h9 => h9.elim (fun e => by have := HZ.out; omega) (fun e => by have h8 := HF7.out _ e; have := HZ.out; omega))).trans HA7.out
    obtain ⟨s0, s1, s2⟩ := shBox hS9
    obtain ⟨b0, b1, b2, b3, f0, f1, f2, f3⟩ := ansCellR hA9
    have HX1 : Hid (w.heap.size + 1 < w2.heap.size) := by have := HZ.out; unfold Hid; omega
    clear hm9 hch hw9 hc39 hf9 hpt hS9 hA9 hcq hfq
    go_wp2
    have hST : Chg (fun b => b = w.heap.size + 1) w9 ((((w9.setCell ⟨w.heap.size + 1, 0, none⟩ (.int .i64 5)).setCell ⟨w.heap.size + 1, 1, none⟩ (.int .i64 cc)).setCell ⟨w.heap.size + 1, 2, none⟩ (.slice none 0 0)).setCell ⟨w.heap.size + 1, 3, none⟩ (.slice none 0 0)) := Chg.of_grown ((((gset1 w9 (w.heap.size + 1) 0 _).trans' (gset1 _ (w.heap.size + 1) 1 _)).trans' (gset1 _ (w.heap.size + 1) 2 _)).trans' (gset1 _ (w.heap.size + 1) 3 _)) (fun b e => (Option.some.inj e).symm)
    exact bodyPost_ret (v := ansV ⟨5, cc, none⟩ none none 0 0 0 0) (by simp [results, Tryz.results22, go_sem, b0, b1, b2, b3, f0, f1, f2, f3]) rfl (by rw [HT.out.1, HT.out.2]; exact TkV.of HH.out HB2.out HL9.out (Nat.le_succ _) HX1.out hST 5 cc)
  · exact absurd HIN.out (by rw [← HH3.out]; exact hno)
end
end Go.Proofs.YtdoikcolkbjnfaaGreat
namespace Go.Proofs.YtdoikcolkbjnfaaGreat
set_option linter.unusedVariables false
set_option linter.unusedSimpArgs false
open Go.RowKit Go.Maps
section
variable {w w' : World} {q : Nat} {vo vs : Value} {J : Ib} {E : List (Ss × Bg)}
/-- the open row with one more, and its slice stored -/
theorem RiM.pushO {mo ms ep : Nat} {XO : List (Ss × Nat)} {XH : List (Ss × Int)} {u u' : World} (h : RiM w q mo ms ep vo vs XO XH) (hb : Below w.heap.size w u) {g n c : Nat} {y : Ss × Nat} (hown : OwnG KO u' 0 (.slice (some ⟨g, 0, none⟩) n c) (XO ++ [y])) (hg : u.grownBy u' vo.ownBlock) : RiM (u'.setCell ⟨q, 3, none⟩ (.slice (some ⟨g, 0, none⟩) n c)) q mo ms ep (.slice (some ⟨g, 0, none⟩) n c) vs (XO ++ [y]) XH := by
  have h1 := h.below hb
  have hq : u'.heap[q]? = u.heap[q]? := hg.block q (Array.getElem?_eq_some_iff.1 h1.hp).1 (fun e => h1.oq e.symm)
  have ho : ∀ b, vs.ownBlock = some b → vo.ownBlock ≠ some b := fun b e1 e2 => by
    obtain ⟨c1, h9⟩ := OwnG.at_ h1.rs e1
    obtain ⟨c2, h8⟩ := OwnG.at_ h1.ro e2
    rw [h8] at h9
    simp only [Option.some.injEq, Obj.cells.injEq] at h9
    exact absurd h9.2.1 (by decide)
  refine ⟨heap_setCell_same u' q 3 _ _ _ (hq.trans h1.hp), OwnG.kept hown (fun b e => Below.heap_setCell _ _ _ _ (fun e9 => ?_)), OwnG.kept h1.rs (fun b e => ?_)⟩
  · obtain ⟨c2, h8⟩ := OwnG.at_ hown e
    have h7 := hq.trans h1.hp
    rw [e9] at h8
    rw [h8] at h7
    simp only [Option.some.injEq, Obj.cells.injEq] at h7
    exact absurd h7.2.1 (by decide)
  · have hbq : b ≠ q := fun e9 => h1.sq (e9 ▸ e)
    refine (Below.heap_setCell _ _ _ _ hbq).trans ?_
    exact hg.block b (OwnG.lt' h1.rs e).2 (fun e9 => ho b e e9.symm)
/-- a segment was put: the rest E0 of the boxes, and the one that it went into, the last -/
theorem Rv.asm (h : Rv w q vo vs J E) {s : Ss} {E0 : List (Ss × Bg)} {b' : Bg} {bF : Nat → Prop} {vo' : Value} (hsub : E0.Sublist E) (hm : RiM w' q J.mo J.ms J.ep vo' vs (mp Bg.q (E0 ++ [(s, b')])) J.H) (hb' : RBx w' (some ⟨b'.q, 0, none⟩) (some b'.S) b'.F)
    (hF : ∀ c, b'.F c → bF c ∨ w.heap.size ≤ c) (hd : ∀ x, x ∈ E0 → ∀ c, x.2.F c → ¬ bF c) (hbv : ∀ c, b'.F c → c ≠ q ∧ vo'.ownBlock ≠ some c ∧ vs.ownBlock ≠ some c) (hc : Chg (fun c => c = q ∨ vo.ownBlock = some c ∨ bF c) w w') (hvo : ∀ c, vo'.ownBlock = some c → vo.ownBlock = some c ∨ w.heap.size ≤ c) (hok : IbOk { J with O := mp Bg.S (E0 ++ [(s, b')]) }) :
    Rv w' q vo' vs { J with O := mp Bg.S (E0 ++ [(s, b')]) } (E0 ++ [(s, b')]) := by
  have hin : ∀ x, x ∈ E0 → x ∈ E := fun x hx => hsub.subset hx
  refine ⟨hm, fun x hx => ?_, ?_, fun x hx c hf => ?_, rfl, hok⟩
  · rcases List.mem_append.1 hx with h9 | h9
    · refine (h.bx x (hin x h9)).kept hc.size (fun c hf => hc.block c ((h.bx x (hin x h9)).lt c hf) (fun h8 => ?_))
      have h7 := h.nf x (hin x h9) c hf
      rcases h8 with h8 | h8 | h8
      · exact h7.1 h8
      · exact h7.2.1 h8
      · exact hd x h9 c hf h8
    · rw [List.mem_singleton] at h9
      subst h9
      exact hb'
  · refine List.pairwise_append.2 ⟨h.ap.sublist hsub, List.pairwise_singleton _ _, fun x hx y hy c h1 h2 => ?_⟩
    rw [List.mem_singleton] at hy
    subst hy
    rcases hF c h2 with h9 | h9
    · exact hd x hx c h1 h9
    · have := (h.bx x (hin x hx)).lt c h1
      omega
  · rcases List.mem_append.1 hx with h9 | h9
    · have h7 := h.nf x (hin x h9) c hf
      refine ⟨h7.1, fun e => ?_, h7.2.2⟩
      rcases hvo c e with h8 | h8
      · exact h7.2.1 h8
      · have := (h.bx x (hin x h9)).lt c hf
        omega
    · rw [List.mem_singleton] at h9
      subst h9
      exact hbv c hf
theorem Rv.asm_foot (h : Rv w q vo vs J E) {s : Ss} {E0 : List (Ss × Bg)} {b' : Bg} {bF : Nat → Prop} {vo' : Value} (hsub : E0.Sublist E) (hF : ∀ c, b'.F c → bF c ∨ w.heap.size ≤ c) (hbF : ∀ c, bF c → ∃ x, x ∈ E ∧ x.2.F c) (hvo : ∀ c, vo'.ownBlock = some c → vo.ownBlock = some c ∨ w.heap.size ≤ c) {c : Nat} (hc : footV q vo' vs (E0 ++ [(s, b')]) c) : footV q vo vs E c ∨ w.heap.size ≤ c := by
  rcases hc with hc | hc | hc | ⟨x, hx, hf⟩
  · exact .inl (.inl hc)
  · exact (hvo c hc).imp (fun h9 => .inr (.inl h9)) id
  · exact .inl (.inr (.inr (.inl hc)))
  · rcases List.mem_append.1 hx with h9 | h9
    · exact .inl (.inr (.inr (.inr ⟨x, hsub.subset h9, hf⟩)))
    · rw [List.mem_singleton] at h9
      subst h9
      exact (hF c hf).imp (fun h8 => .inr (.inr (.inr (hbF c h8)))) id
/-- a box of the document's, found by its session -/
theorem Rv.at_ (h : Rv w q vo vs J E) {i : Nat} {s : Ss} (hi : i < (mp Bg.q E).length) (hs : (mp Bg.q E)[i].1 = s) : ∃ b : Bg, (s, b) ∈ E ∧ (mp Bg.q E)[i] = (s, b.q) ∧ lk J.O s = some b.S := by
  have hi' : i < E.length := by rw [len_mp] at hi; exact hi
  have e : (mp Bg.q E)[i] = (E[i].1, E[i].2.q) := by simp [mp]
  rw [e] at hs
  have hm : E[i] ∈ E := List.getElem_mem _
  have hn : (ks E).Nodup := by rw [← h.ksO]; exact h.ok.no
  refine ⟨E[i].2, by rw [← hs]; exact hm, by rw [e, hs], ?_⟩
  rw [h.eO, lk_mp, ← hs, lk_of hn hm]
  rfl
theorem rm_sub {α : Type} (L : List (Ss × α)) (s : Ss) : (rm L s).Sublist L := List.filter_sublist
end
end Go.Proofs.YtdoikcolkbjnfaaGreat
