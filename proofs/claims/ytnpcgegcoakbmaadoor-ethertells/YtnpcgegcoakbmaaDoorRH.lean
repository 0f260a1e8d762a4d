import Derived.Test.YtnpcgegcoakbmaaDoorRE
namespace Go.Proofs.YtnpcgegcoakbmaaDoor
set_option linter.unusedVariables false
set_option linter.unusedSimpArgs false
open Go.RowKit
section
variable {w w' : World} {p R : Nat} {v : Value} {E : List Dc} {L : List Dgm}
set_option maxRecDepth 20000 in
set_option maxHeartbeats 3200000 in
theorem rtake_t (h : Wy SR w p R v E L) (i : Int) :
    Calls Tryd.prog 36 #[.pointer (some ⟨p, 0, none⟩), .int .i64 i] w fun e w' => ∃ u, e = .returned (.tuple #[u, .int .i64 (plE L i)]) ∧ Own w' w.heap.size u (lookX L i) ∧ ∃ v' E', Wy SR w' p R v' E' (dropL L i) ∧ WSt w w' p v E v' E' := by
  have H : Hid _ := rlook_t h i
  have HW : Hid _ := h
  by_cases hin : 0 ≤ i ∧ i < (L.length : Int)
  · obtain ⟨k, rfl⟩ : ∃ k : Nat, i = (k : Int) := ⟨i.toNat, by omega⟩
    have hk : k < L.length := by omega
    have HE : Hid (plE L k = 0) := by unfold Hid plE; rw [if_pos hin]
    have HX : Hid (dropL L k = L.eraseIdx k) := by unfold Hid dropL; rw [if_pos hin]; rfl
    obtain ⟨g, c, hv, hNc, -, -, -⟩ := h.row.one (by rw [h.len]; omega)
    rw [h.len] at hv hNc
    obtain ⟨N, hN⟩ : ∃ N, N = L.length := ⟨_, rfl⟩
    rw [← hN] at hv hk hNc
    subst hv
    have hNm : N ≤ 1024 := by rw [hN]; have := h.lr; have := h.r1; omega
    obtain ⟨j, hj⟩ : ∃ j, j = k + 1 := ⟨_, rfl⟩
    have hk1 : ((k : Int) + 1) = (j : Int) := by omega
    have hkm : k < 1024 := by omega
    have hk0 : (0 : Int) ≤ (k : Int) := by omega
    have hj0 : (0 : Int) ≤ (j : Int) := by omega
    have hkc : (k : Int) ≤ (c : Int) := by omega
    have hkcn : k ≤ c := by omega
    have hkn : (k : Int) ≤ (N : Int) := by omega
    have hjn : (j : Int) ≤ (N : Int) := by omega
    have hjnn : j ≤ N := by omega
    have hjc : (j : Int) ≤ (c : Int) := by omega
    have hjcn : j ≤ c := by omega
    have hck : ¬ c = k := by omega
    have hNk : ¬ N = k := by omega
    have HN : Hid _ := hN
    have HJ : Hid _ := hj
    have HNE : Hid (N = E.length) := by rw [h.len]; exact hN
    clear h hin hN hj
    by_cases hcj : c = j
    · obtain rfl : N = j := by omega
      subst hcj
      go_enter Tryd.func36, Tryd.ntmps36
      go_wp2_with (first | (go_at_call 35; refine Calls.mono H.out ?_; rintro e w1 ⟨u, rfl, hown1, hb1⟩; rw [HE.out]; have HO1 : Hid _ := hown1; have HB1 : Hid _ := hb1; have h1 := HW.out.below hb1; have hd1 := h1.c1; have hf1 := h1.fz 1; have hrd0 := h1.row; (try rw [HNE.out] at hrd0); have HRD : Hid (RdG KR w1 (some ⟨g, 0, none⟩) E) := OwnG.rd hrd0; have HW1 : Hid _ := h1; clear hown1 hb1 h1 hrd0) | (at_builtin; refine wp_appG (K := KR) rfl _ _ rfl w1.heap.size (.slice none 0 0) [] (E.take k) k (some ⟨g, 0, none⟩) c (by rw [List.length_take]; have := HNE.out; omega) rfl (World.ownsRow_nil _ _ _ _) rfl (RdG.take HRD.out k) (fun h => by cases h) (by show (0 + k) * 32 ≤ _; omega) (by simp only [maxLen, List.length_nil]; omega) (Nat.le_refl _) ?_; intro v2 w2 hown2 hg2; rw [List.nil_append] at hown2; obtain ⟨a2, c2, hv2, -⟩ := hown2.val; have hl2 : (E.take k).length = k := (by rw [List.length_take]; have := HNE.out; omega); rw [hl2] at hv2; subst hv2; have hb2 : Below w1.heap.size w1 w2 := (Below.refl _ _).grown hg2 (Nat.le_refl _) (fun b hb => by cases hb); have hd2 := (HW1.out.below hb2).c1; have hf2 := (HW1.out.below hb2).fz 1; have HO2 : Hid _ := hown2; have HB2 : Hid _ := hb2; clear hown2 hg2 hb2) | (at_builtin; refine wp_appG (K := KR) rfl _ _ rfl w1.heap.size (.slice a2 k c2) (E.take k) (E.drop c) _ _ _ (by rw [List.length_drop]; have := HNE.out; omega) rfl HO2.out rfl (by rw [List.drop_eq_nil_of_le (by have := HNE.out; omega)]; exact RdG.nil _ _) (fun h => by cases h) (by rw [List.length_take]; show (_ + _) * 32 ≤ _; have := HNE.out; omega) (by rw [List.length_take]; simp only [maxLen]; have := HNE.out; omega) HB2.out.size ?_; intro v3 w3 hown3 hg3; obtain ⟨a3, c3, hv3, -⟩ := hown3.val; obtain ⟨M, hM⟩ : ∃ M, M = (E.take k ++ E.drop c).length := ⟨_, rfl⟩; rw [← hM] at hv3; subst hv3; have hb3 : Below w1.heap.size w1 w3 := HB2.out.grown hg3 HB2.out.size (fun b hb => (OwnG.lt' HO2.out hb).1); have hd3 := (HW1.out.below hb3).c1; have hf3 := (HW1.out.below hb3).fz 1; have HO3 : Hid _ := hown3; have HB3 : Hid _ := hb3; have HM3 : Hid _ := hM; clear hown3 hg3 hb3 hM))
      go_ret2
      rw [HE.out, HX.out]
      have hch : Chg (fun b => (Value.slice (some ⟨g, 0, none⟩) c c).ownBlock = some b) w1 w3 := Chg.of_below HB3.out
      have he : E.eraseIdx k = E.take k ++ E.drop c := by rw [List.eraseIdx_eq_take_drop_succ, HJ.out]
      have hO3 : OwnG KR w3 0 (.slice a3 M c3) (E.eraseIdx k) := by rw [he]; exact OwnG.base HO3.out (Nat.zero_le _)
      have hkE : k < E.length := by rw [← HNE.out]; exact hk
      obtain ⟨h8, h9⟩ := HW1.out.setRow hch (v' := .slice a3 M c3) (E' := E.eraseIdx k) (L' := L.eraseIdx k) hO3 (fun b e => .inr (OwnG.lt' HO3.out e).1) (by rw [List.length_eraseIdx_of_lt hkE, List.length_eraseIdx_of_lt (by rw [← HN.out]; exact hk), HW.out.len]) (HW1.out.elsErase hch k) (fun e he ad ha => .inl ⟨e, List.mem_of_mem_eraseIdx he, ha⟩) (by rw [List.length_eraseIdx_of_lt (by rw [← HN.out]; exact hk)]; have := HW.out.lr; omega)
      refine ⟨u, rfl, ?_, _, _, h8, (WSt.below HB1.out p _ E).trans h9⟩
      refine Own.keptb HO1.out (fun b e => ?_)
      have h7 := World.ownsRow.lt HO1.out b e
      refine h9.chg.block b h7.2 (fun hf => ?_)
      have h6 : b < w.heap.size := HW.out.lt (hf.elim .inl (fun e => .inr (.inl e)))
      omega
    · go_enter Tryd.func36, Tryd.ntmps36
      go_wp2_with (first | (go_at_call 35; refine Calls.mono H.out ?_; rintro e w1 ⟨u, rfl, hown1, hb1⟩; rw [HE.out]; have HO1 : Hid _ := hown1; have HB1 : Hid _ := hb1; have h1 := HW.out.below hb1; have hd1 := h1.c1; have hf1 := h1.fz 1; have hrd0 := h1.row; (try rw [HNE.out] at hrd0); have HRD : Hid (RdG KR w1 (some ⟨g, 0, none⟩) E) := OwnG.rd hrd0; have HW1 : Hid _ := h1; clear hown1 hb1 h1 hrd0) | (at_builtin; refine wp_appG (K := KR) rfl _ _ rfl w1.heap.size (.slice none 0 0) [] (E.take k) k (some ⟨g, 0, none⟩) c (by rw [List.length_take]; have := HNE.out; omega) rfl (World.ownsRow_nil _ _ _ _) rfl (RdG.take HRD.out k) (fun h => by cases h) (by show (0 + k) * 32 ≤ _; omega) (by simp only [maxLen, List.length_nil]; omega) (Nat.le_refl _) ?_; intro v2 w2 hown2 hg2; rw [List.nil_append] at hown2; obtain ⟨a2, c2, hv2, -⟩ := hown2.val; have hl2 : (E.take k).length = k := (by rw [List.length_take]; have := HNE.out; omega); rw [hl2] at hv2; subst hv2; have hb2 : Below w1.heap.size w1 w2 := (Below.refl _ _).grown hg2 (Nat.le_refl _) (fun b hb => by cases hb); have hd2 := (HW1.out.below hb2).c1; have hf2 := (HW1.out.below hb2).fz 1; have HO2 : Hid _ := hown2; have HB2 : Hid _ := hb2; clear hown2 hg2 hb2) | (at_builtin; refine wp_appG (K := KR) rfl _ _ rfl w1.heap.size (.slice a2 k c2) (E.take k) (E.drop j) _ _ _ (by rw [List.length_drop]; have := HNE.out; omega) rfl HO2.out rfl (by have h9 := RdG.drop (HRD.out.below HB2.out) j; rw [Nat.zero_add] at h9; exact h9) (fun h => by cases h) (by rw [List.length_take]; show (_ + _) * 32 ≤ _; have := HNE.out; omega) (by rw [List.length_take]; simp only [maxLen]; have := HNE.out; omega) HB2.out.size ?_; intro v3 w3 hown3 hg3; obtain ⟨a3, c3, hv3, -⟩ := hown3.val; obtain ⟨M, hM⟩ : ∃ M, M = (E.take k ++ E.drop j).length := ⟨_, rfl⟩; rw [← hM] at hv3; subst hv3; have hb3 : Below w1.heap.size w1 w3 := HB2.out.grown hg3 HB2.out.size (fun b hb => (OwnG.lt' HO2.out hb).1); have hd3 := (HW1.out.below hb3).c1; have hf3 := (HW1.out.below hb3).fz 1; have HO3 : Hid _ := hown3; have HB3 : Hid _ := hb3; have HM3 : Hid _ := hM; clear hown3 hg3 hb3 hM))
      go_ret2
      rw [HE.out, HX.out]
      have hch : Chg (fun b => (Value.slice (some ⟨g, 0, none⟩) N c).ownBlock = some b) w1 w3 := Chg.of_below HB3.out
      have he : E.eraseIdx k = E.take k ++ E.drop j := by rw [List.eraseIdx_eq_take_drop_succ, HJ.out]
      have hO3 : OwnG KR w3 0 (.slice a3 M c3) (E.eraseIdx k) := by rw [he]; exact OwnG.base HO3.out (Nat.zero_le _)
      have hkE : k < E.length := by rw [← HNE.out]; exact hk
      obtain ⟨h8, h9⟩ := HW1.out.setRow hch (v' := .slice a3 M c3) (E' := E.eraseIdx k) (L' := L.eraseIdx k) hO3 (fun b e => .inr (OwnG.lt' HO3.out e).1) (by rw [List.length_eraseIdx_of_lt hkE, List.length_eraseIdx_of_lt (by rw [← HN.out]; exact hk), HW.out.len]) (HW1.out.elsErase hch k) (fun e he ad ha => .inl ⟨e, List.mem_of_mem_eraseIdx he, ha⟩) (by rw [List.length_eraseIdx_of_lt (by rw [← HN.out]; exact hk)]; have := HW.out.lr; omega)
      refine ⟨u, rfl, ?_, _, _, h8, (WSt.below HB1.out p _ E).trans h9⟩
      refine Own.keptb HO1.out (fun b e => ?_)
      have h7 := World.ownsRow.lt HO1.out b e
      refine h9.chg.block b h7.2 (fun hf => ?_)
      have h6 : b < w.heap.size := HW.out.lt (hf.elim .inl (fun e => .inr (.inl e)))
      omega
  · have HE : Hid (plE L i = 4) := by unfold Hid plE; rw [if_neg hin]
    have HX : Hid (dropL L i = L) := by unfold Hid dropL; rw [if_neg hin]
    have HY : Hid (lookX L i = []) := by unfold Hid lookX; rw [if_neg hin]
    clear h hin
    go_enter Tryd.func36, Tryd.ntmps36
    go_wp2_with (go_at_call 35; refine Calls.mono H.out ?_; rintro e w1 ⟨u, rfl, hown1, hb1⟩; rw [HE.out])
    go_ret2
    rw [HE.out, HX.out, HY.out]
    exact ⟨_, rfl, World.ownsRow_nil _ _ _ _, v, E, HW.out.below hb1, WSt.below hb1 _ _ _⟩
end
end Go.Proofs.YtnpcgegcoakbmaaDoor
