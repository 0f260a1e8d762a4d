import Derived.Test.YtnpcgegcoakbmaaDoorEF
namespace Go.Proofs.YtnpcgegcoakbmaaDoor
set_option linter.unusedVariables false
set_option linter.unusedSimpArgs false
open Go.RowKit
theorem Own.keptb {w w' : World} {B : Nat} {v : Value} {xs : List UInt8} (h : Own w B v xs) (hk : ∀ b, v.ownBlock = some b → w'.heap[b]? = w.heap[b]?) : Own w' B v xs := by
  refine ⟨h.1, ?_⟩
  rcases h.2 with h0 | ⟨g, cap, cur, e, hB, hg, r⟩
  · exact .inl h0
  · exact .inr ⟨g, cap, cur, e, hB, (hk g (by rw [e]; rfl)).trans hg, r⟩
section
variable {w w' : World} {p R : Nat} {v : Value} {E : List Dc} {L : List Dgm}
set_option maxRecDepth 20000 in
set_option maxHeartbeats 3200000 in
theorem drop_t (h : Wy SP w p R v E L) (i : Int) :
    Calls Tryd.prog 11 #[.pointer (some ⟨p, 0, none⟩), .int .i64 i] w fun e w' => e = .returned (.int .i64 (plE L i)) ∧ ∃ v' E', Wy SP w' p R v' E' (dropL L i) ∧ WSt w w' p v E v' E' := by
  have H : Hid _ := place_t h i
  have HW : Hid _ := h
  by_cases hin : 0 ≤ i ∧ i < (L.length : Int)
  · obtain ⟨k, rfl⟩ : ∃ k : Nat, i = (k : Int) := ⟨i.toNat, by omega⟩
    have hk : k < L.length := by omega
    have HE : Hid (plE L k = 0) := by unfold Hid plE; rw [if_pos hin]
    have HX : Hid (dropL L k = L.eraseIdx k) := by unfold Hid dropL; rw [if_pos hin]; rfl
    have hc1 := h.c1
    obtain ⟨g, c, hv, -, -, -, -⟩ := h.row.one (by rw [h.len]; omega)
    rw [h.len] at hv
    obtain ⟨N, hN⟩ : ∃ N, N = L.length := ⟨_, rfl⟩
    rw [← hN] at hv hk
    subst hv
    obtain ⟨M, hM⟩ : ∃ M, M + 1 = N := ⟨N - 1, by omega⟩
    have hNm : N ≤ 1024 := by rw [hN]; have := h.lr; have := h.r1; omega
    obtain ⟨j, hj⟩ : ∃ j, j = k + 1 := ⟨_, rfl⟩
    have HDEL : Hid _ := delete_t h.row k j M hj hk hM hNm
    have hk1 : ((k : Int) + 1) = (j : Int) := by omega
    have HM : Hid _ := hM
    have HN : Hid _ := hN
    have hkm : k < 1024 := by omega
    have HFR : Hid (∀ u, w.grownBy u (some g) → u.cell? ⟨p, 1, none⟩ = some (.slice (some ⟨g, 0, none⟩) N c) ∧ u.frozen? ⟨p, 1, none⟩ = false) := fun u hu => by
      have h8 : u.heap[p]? = w.heap[p]? := hu.block p (h.lt (.inl rfl)) (fun e => h.pv e.symm)
      exact ⟨(World.cell?_of_block h8).trans h.c1, (World.frozen?_of_block h8).trans (h.fz 1)⟩
    clear h hin hN hM hj
    go_enter Tryd.func11, Tryd.ntmps11
    go_wp2_with (first | (go_at_call 24; refine Calls.mono H.out ?_; rintro e w' ⟨rfl, hq⟩; have hq := hq.symm; subst hq; rw [HE.out]) | (go_at_call 28; refine Calls.mono HDEL.out ?_; rintro e w5 ⟨rfl, hown5, hg5⟩; obtain ⟨hc5, hf5⟩ := HFR.out _ hg5; have HO5 : Hid _ := hown5; have HG5 : Hid _ := hg5; clear hown5 hg5))
    go_ret
    rw [HE.out, HX.out]
    have hch : Chg (fun b => (Value.slice (some ⟨g, 0, none⟩) N c).ownBlock = some b) w w5 := Chg.of_grown HG5.out (fun b e => e)
    have hO5 : OwnG KD w5 0 (.slice (some ⟨g, 0, none⟩) M c) (E.eraseIdx k) := HO5.out
    have hkE : k < E.length := by rw [HW.out.len, ← HN.out]; exact hk
    obtain ⟨h8, h9⟩ := HW.out.setRow hch (v' := .slice (some ⟨g, 0, none⟩) M c) (E' := E.eraseIdx k) (L' := L.eraseIdx k) hO5 (fun b e => .inl e) (by rw [List.length_eraseIdx_of_lt hkE, List.length_eraseIdx_of_lt (by rw [← HN.out]; exact hk), HW.out.len]) (HW.out.elsErase hch k) (fun e he ad ha => .inl ⟨e, List.mem_of_mem_eraseIdx he, ha⟩) (by rw [List.length_eraseIdx_of_lt (by rw [← HN.out]; exact hk)]; have := HW.out.lr; omega)
    exact ⟨rfl, _, _, h8, h9⟩
  · have HE : Hid (plE L i = 4) := by unfold Hid plE; rw [if_neg hin]
    have HX : Hid (dropL L i = L) := by unfold Hid dropL; rw [if_neg hin]
    clear h hin
    go_enter Tryd.func11, Tryd.ntmps11
    go_wp2_with (go_at_call 24; refine Calls.mono H.out ?_; rintro e w' ⟨rfl, hq⟩; have hq := hq.symm; subst hq; rw [HE.out])
    go_ret
    rw [HE.out, HX.out]
    exact ⟨rfl, v, E, HW.out, WSt.refl _ _ _ _⟩
set_option maxRecDepth 20000 in
set_option maxHeartbeats 3200000 in
theorem take_t (h : Wy SP w p R v E L) (i : Int) :
    Calls Tryd.prog 8 #[.pointer (some ⟨p, 0, none⟩), .int .i64 i] w fun e w' => ∃ u, e = .returned (.tuple #[u, .int .i64 (plE L i)]) ∧ Own w' w.heap.size u (lookX L i) ∧ ∃ v' E', Wy SP w' p R v' E' (dropL L i) ∧ WSt w w' p v E v' E' := by
  have H : Hid _ := look_t h i
  have HW : Hid _ := h
  by_cases hin : 0 ≤ i ∧ i < (L.length : Int)
  · have HE : Hid (plE L i = 0) := by unfold Hid plE; rw [if_pos hin]
    clear h hin
    go_enter Tryd.func8, Tryd.ntmps8
    go_wp2_with (first | (go_at_call 7; refine Calls.mono H.out ?_; rintro e w1 ⟨u, rfl, hown1, hb1⟩; rw [HE.out]; have HO1 : Hid _ := hown1; have HB1 : Hid _ := hb1; clear hown1 hb1) | (go_at_call 11; refine Calls.mono (drop_t (HW.out.below HB1.out) i) ?_; rintro e w2 ⟨rfl, v2, E2, h2, hst2⟩; rw [HE.out]; have H2 : Hid _ := h2; have HST2 : Hid _ := hst2; clear h2 hst2))
    go_ret2
    rw [HE.out]
    refine ⟨u, rfl, ?_, v2, E2, H2.out, (WSt.below HB1.out p v E).trans HST2.out⟩
    refine Own.keptb HO1.out (fun b e => ?_)
    have h9 := World.ownsRow.lt HO1.out b e
    refine HST2.out.chg.block b h9.2 (fun hf => ?_)
    have h7 : b < w.heap.size := HW.out.lt (hf.elim .inl (fun e => .inr (.inl e)))
    omega
  · have HE : Hid (plE L i = 4) := by unfold Hid plE; rw [if_neg hin]
    have HX : Hid (dropL L i = L) := by unfold Hid dropL; rw [if_neg hin]
    have HY : Hid (lookX L i = []) := by unfold Hid lookX; rw [if_neg hin]
    clear h hin
    go_enter Tryd.func8, Tryd.ntmps8
    go_wp2_with (go_at_call 7; refine Calls.mono H.out ?_; rintro e w1 ⟨u, rfl, hown1, hb1⟩; rw [HE.out])
    go_ret2
    rw [HE.out, HX.out, HY.out]
    exact ⟨_, rfl, World.ownsRow_nil _ _ _ _, v, E, HW.out.below hb1, WSt.below hb1 _ _ _⟩
end
end Go.Proofs.YtnpcgegcoakbmaaDoor
