import Derived.Test.YtnpcgegcoakbmaaDoorEH
namespace Go.Proofs.YtnpcgegcoakbmaaDoor
set_option linter.unusedVariables false
set_option linter.unusedSimpArgs false
open Go.RowKit
theorem OwnG.fz {α : Type} {K : Kd α} {w : World} {B g n c : Nat} {xs : List α} (h : OwnG K w B (.slice (some ⟨g, 0, none⟩) n c) xs) (i : Nat) : w.frozen? ⟨g, i, none⟩ = false := by
  obtain ⟨cur, h1⟩ := h.at_ (b := g) rfl
  simp [World.frozen?, h1]
section
variable {w w' : World} {p R : Nat} {v : Value} {E : List Dc} {L : List Dgm}
set_option maxRecDepth 20000 in
set_option maxHeartbeats 3200000 in
theorem turn_t (h : Wy SP w p R v E L) (i at_ : Int) (m : Nat) (hm : m < 4294967296) (ha0 : -9223372036854775808 ≤ at_) (ha1 : at_ ≤ 9223372036854775807) (ht : TabZ w) :
    Calls Tryd.prog 13 #[.pointer (some ⟨p, 0, none⟩), .int .i64 i, .int .i64 at_, .int .u32 (m : Int)] w fun e w' => e = .returned (.int .i64 (trnE L i at_ m)) ∧ ∃ v' E', Wy SP w' p R v' E' (trnL L i at_ m) ∧ WSt w w' p v E v' E' := by
  have H : Hid _ := place_t h i
  have HW : Hid _ := h
  have HT : Hid _ := ht
  clear ht
  by_cases hin : 0 ≤ i ∧ i < (L.length : Int)
  · obtain ⟨k, rfl⟩ : ∃ k : Nat, i = (k : Int) := ⟨i.toNat, by omega⟩
    have hk : k < L.length := by omega
    have HP : Hid (plE L k = 0) := by unfold Hid plE; rw [if_pos hin]
    obtain ⟨d, hd⟩ : ∃ d, L[k]? = some d := ⟨_, List.getElem?_eq_getElem hk⟩
    have HDK : Hid _ := hd
    have hE1 : trnE L k at_ m = if wOk d.xs.length at_ m then (if d.tn then 3 else 0) else 1 := by unfold trnE; rw [if_pos hin, Int.toNat_natCast, hd]
    have hL1 : trnL L k at_ m = if wOk d.xs.length at_ m then (if d.tn then L else L.set k ⟨bst at_ m d.xs 32, true⟩) else L := by unfold trnL; rw [if_pos hin, Int.toNat_natCast, hd]
    have HE : Hid _ := hE1
    have HL : Hid _ := hL1
    obtain ⟨N, hN⟩ : ∃ N, N = L.length := ⟨_, rfl⟩
    have hNm : N ≤ 1024 := by rw [hN]; have := h.lr; have := h.r1; omega
    have hk0 : (0 : Int) ≤ (k : Int) := by omega
    have hkI : (k : Int) < (N : Int) := by omega
    have hkn : k < N := by omega
    have hkm : k < 1024 := by omega
    have HNL : Hid _ := hN
    obtain ⟨g, c, hv, hcN, hcm, -, -⟩ := h.row.one (by rw [h.len]; omega)
    rw [h.len, ← hN] at hv
    subst hv
    have d1 := h.c1
    obtain ⟨⟨tn, ea, en, ec⟩, hmem, x0, x1, hels⟩ := h.at_ rfl hd
    obtain ⟨htn, hby, hxl⟩ := hels
    have hn := hby.n
    simp only at hn htn
    subst hn
    have HBY : Hid _ := hby
    have HTN : Hid _ := htn
    have HWI : Hid _ := within_t d.xs.length at_ m w hxl hm ha0 ha1 HT.out
    have HMEM : Hid _ := hmem
    clear h hin hN hd hk hcN hcm hE1 hL1 hby hmem htn
    rcases hw : wOk d.xs.length at_ m with _ | _
    · have HWO : Hid _ := hw
      clear hw
      go_enter Tryd.func13, Tryd.ntmps13
      go_wp2_with (first | (go_at_call 24; refine Calls.mono H.out ?_; rintro e w' ⟨rfl, hq⟩; have hq := hq.symm; subst hq; rw [HP.out]) | (go_at_call 29; refine Calls.mono HWI.out ?_; rintro e w' ⟨rfl, hq⟩; have hq := hq.symm; subst hq; rw [HWO.out]))
      go_ret
      rw [HE.out, HL.out, HWO.out]
      exact ⟨rfl, _, _, HW.out, WSt.refl _ _ _ _⟩
    · have HWO : Hid _ := hw
      clear hw
      rcases tn with _ | _
      · have hfr : w.frozen? ⟨g, k * 2 + 1, none⟩ = false := HW.out.row.fz (k * 2 + 1)
        have hfr0 : w.frozen? ⟨g, k * 2, none⟩ = false := HW.out.row.fz (k * 2)
        have HST : Hid (∀ u, Below w.heap.size w u → u.cell? ⟨g, k * 2 + 1, none⟩ = some (.slice ea d.xs.length ec) ∧ u.frozen? ⟨g, k * 2 + 1, none⟩ = false ∧ u.cell? ⟨g, k * 2, none⟩ = some (.bool false) ∧ u.frozen? ⟨g, k * 2, none⟩ = false) := fun u hu => by
          have h9 := HW.out.below hu
          exact ⟨(hu.cell (World.block_lt_of_cell? w _ x1)).trans x1, h9.row.fz _, (hu.cell (World.block_lt_of_cell? w _ x0)).trans x0, h9.row.fz _⟩
        have hne : ¬ k * 2 + 1 = k * 2 := by omega
        go_enter Tryd.func13, Tryd.ntmps13
        go_wp2_with (first | (go_at_call 24; refine Calls.mono H.out ?_; rintro e w' ⟨rfl, hq⟩; have hq := hq.symm; subst hq; rw [HP.out]) | (go_at_call 29; refine Calls.mono HWI.out ?_; rintro e w' ⟨rfl, hq⟩; have hq := hq.symm; subst hq; rw [HWO.out]) | (go_at_call 16; refine Calls.mono (burst_any ea ec d.xs at_ m _ HBY.out.rd HBY.out.nil (by omega) ha0 ha1 (by omega)) ?_; rintro e w1 ⟨u1, rfl, hown1, hb1⟩; obtain ⟨a2, c2, hu2, -, -, -, -, -⟩ := hown1.val; rw [bst_len] at hu2; subst hu2; obtain ⟨y1, y2, y3, y4⟩ := HST.out _ hb1; have HO1 : Hid _ := hown1; have HB1 : Hid _ := hb1; clear hown1 hb1))
        go_ret
        rw [HE.out, HL.out, HWO.out, ← HTN.out]
        have hkE : k < E.length := by rw [HW.out.len, ← HNL.out]; exact hkn
        have h1 := HW.out.below HB1.out
        have hEk : E[k]'hkE = ⟨false, ea, d.xs.length, ec⟩ ∨ True := .inr trivial
        have r1 := OwnG.setc (K := KD) h1.row (by rw [HW.out.len]; exact HNL.out) k 1 hkE (by decide) ⟨(E[k]'hkE).tn, a2, d.xs.length, c2⟩ (.slice a2 d.xs.length c2) rfl
        have r2 := OwnG.setc (K := KD) r1 (by rw [List.length_set, HW.out.len]; exact HNL.out) k 0 (by rw [List.length_set]; exact hkE) (by decide) ⟨true, a2, d.xs.length, c2⟩ (.bool true) (by rw [List.getElem_set_self]; rfl)
        rw [List.set_set] at r2
        have hg2 : (w1.setCell ⟨g, k * 2 + 1, none⟩ (.slice a2 d.xs.length c2)).grownBy _ (some g) := gset1 _ g (k * 2) (.bool true)
        have hch : Chg (fun b => (Value.slice (some ⟨g, 0, none⟩) N c).ownBlock = some b) w ((w1.setCell ⟨g, k * 2 + 1, none⟩ (.slice a2 d.xs.length c2)).setCell ⟨g, k * 2, none⟩ (.bool true)) := (Chg.of_below HB1.out).trans (Chg.of_grown (grow_trans (gset1 w1 g (k * 2 + 1) _) hg2) (F := fun b => (Value.slice (some ⟨g, 0, none⟩) N c).ownBlock = some b) (fun b e => e)) (fun b e => .inl e)
        obtain ⟨hbv, hbb⟩ := ByV.of_own true HO1.out
        have hbv2 : ByV ((w1.setCell ⟨g, k * 2 + 1, none⟩ (.slice a2 d.xs.length c2)).setCell ⟨g, k * 2, none⟩ (.bool true)) ⟨true, a2, d.xs.length, c2⟩ (bst at_ m d.xs 32) :=
          h1.elk ((Chg.of_grown (grow_trans (gset1 w1 g (k * 2 + 1) _) hg2) (F := fun b => (Value.slice (some ⟨g, 0, none⟩) N c).ownBlock = some b) (fun b e => e)).mono (fun b e => .inr e)) hbv
        obtain ⟨h8, h9⟩ := HW.out.inRow hch (E' := E.set k ⟨true, a2, d.xs.length, c2⟩) (L' := L.set k ⟨bst at_ m d.xs 32, true⟩) r2 (by rw [List.length_set, List.length_set, HW.out.len]) (HW.out.elsSet hch k ⟨rfl, hbv2, by rw [bst_len]; exact hxl⟩) (fun e he ad ha => by
          rcases List.mem_or_eq_of_mem_set he with h9 | h9
          · exact .inl ⟨e, h9, ha⟩
          · subst h9
            exact .inr (hbb ad ha)) (by rw [List.length_set]; exact HW.out.lr)
        exact ⟨rfl, _, _, h8, h9⟩
      · go_enter Tryd.func13, Tryd.ntmps13
        go_wp2_with (first | (go_at_call 24; refine Calls.mono H.out ?_; rintro e w' ⟨rfl, hq⟩; have hq := hq.symm; subst hq; rw [HP.out]) | (go_at_call 29; refine Calls.mono HWI.out ?_; rintro e w' ⟨rfl, hq⟩; have hq := hq.symm; subst hq; rw [HWO.out]))
        go_ret
        rw [HE.out, HL.out, HWO.out, ← HTN.out]
        exact ⟨rfl, _, _, HW.out, WSt.refl _ _ _ _⟩
  · have HP : Hid (plE L i = 4) := by unfold Hid plE; rw [if_neg hin]
    have HE : Hid (trnE L i at_ m = 4) := by unfold Hid trnE; rw [if_neg hin]
    have HX : Hid (trnL L i at_ m = L) := by unfold Hid trnL; rw [if_neg hin]
    clear h hin
    go_enter Tryd.func13, Tryd.ntmps13
    go_wp2_with (go_at_call 24; refine Calls.mono H.out ?_; rintro e w' ⟨rfl, hq⟩; have hq := hq.symm; subst hq; rw [HP.out])
    go_ret
    rw [HE.out, HX.out]
    exact ⟨rfl, v, E, HW.out, WSt.refl _ _ _ _⟩
end
end Go.Proofs.YtnpcgegcoakbmaaDoor
