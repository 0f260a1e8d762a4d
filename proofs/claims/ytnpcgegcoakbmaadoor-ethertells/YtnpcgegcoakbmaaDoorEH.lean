import Derived.Test.YtnpcgegcoakbmaaDoorEG
namespace Go.Proofs.YtnpcgegcoakbmaaDoor
set_option linter.unusedVariables false
set_option linter.unusedSimpArgs false
open Go.RowKit
section
variable {w w' : World} {p R : Nat} {v : Value} {E : List Dc} {L : List Dgm}
theorem Wy.at_ (h : Wy SP w p R v E L) {g n c k : Nat} {d : Dgm} (hv : v = .slice (some ⟨g, 0, none⟩) n c) (hd : L[k]? = some d) : ∃ e : Dc, e ∈ E ∧ w.cell? ⟨g, k * 2, none⟩ = some (.bool e.tn) ∧ w.cell? ⟨g, k * 2 + 1, none⟩ = some (.slice e.a e.n e.c) ∧ e.tn = d.tn ∧ ByV w e d.xs ∧ d.xs.length ≤ 2048 := by
  have hk : k < L.length := (List.getElem?_eq_some_iff.1 hd).1
  have hkE : k < E.length := by rw [h.len]; exact hk
  obtain ⟨h1, h2⟩ := h.cells hv k hkE
  exact ⟨E[k], List.getElem_mem _, h1, h2, h.els k E[k] d (List.getElem?_eq_getElem hkE) hd⟩
set_option maxRecDepth 20000 in
set_option maxHeartbeats 3200000 in
theorem double_t (h : Wy SP w p R v E L) (i : Int) :
    Calls Tryd.prog 12 #[.pointer (some ⟨p, 0, none⟩), .int .i64 i] w fun e w' => e = .returned (.int .i64 (dblE R L i)) ∧ ∃ v' E', Wy SP w' p R v' E' (dblL R L i) ∧ WSt w w' p v E v' E' := by
  have H : Hid _ := place_t h i
  have HF : Hid _ := full_t h
  have HW : Hid _ := h
  by_cases hin : 0 ≤ i ∧ i < (L.length : Int)
  · by_cases hr : L.length = R
    · have HP : Hid (plE L i = 0) := by unfold Hid plE; rw [if_pos hin]
      have HE : Hid (dblE R L i = 2) := by unfold Hid dblE; rw [if_pos hin, if_pos hr]
      have HX : Hid (dblL R L i = L) := by unfold Hid dblL; rw [if_pos hin, if_pos hr]
      have HD : Hid (decide (L.length = R) = true) := decide_eq_true hr
      clear h hin hr
      go_enter Tryd.func12, Tryd.ntmps12
      go_wp2_with (first | (go_at_call 24; refine Calls.mono H.out ?_; rintro e w' ⟨rfl, hq⟩; have hq := hq.symm; subst hq; rw [HP.out]) | (go_at_call 27; refine Calls.mono HF.out ?_; rintro e w1 ⟨rfl, hb1⟩; rw [HD.out]))
      go_ret
      rw [HE.out, HX.out]
      exact ⟨rfl, v, E, HW.out.below hb1, WSt.below hb1 _ _ _⟩
    · obtain ⟨k, rfl⟩ : ∃ k : Nat, i = (k : Int) := ⟨i.toNat, by omega⟩
      have hk : k < L.length := by omega
      have hkE : k < E.length := by rw [h.len]; exact hk
      have HP : Hid (plE L k = 0) := by unfold Hid plE; rw [if_pos hin]
      have HE : Hid (dblE R L k = 0) := by unfold Hid dblE; rw [if_pos hin, if_neg hr]
      obtain ⟨d, hd⟩ : ∃ d, L[k]? = some d := ⟨_, List.getElem?_eq_getElem hk⟩
      have HDK : Hid _ := hd
      have HX : Hid (dblL R L k = L ++ [d]) := by unfold Hid dblL; rw [if_pos hin, if_neg hr, Int.toNat_natCast, hd]; rfl
      have HD : Hid (decide (L.length = R) = false) := decide_eq_false hr
      have HR : Hid (L.length + 1 ≤ R) := by have := h.lr; unfold Hid; omega
      obtain ⟨N, hN⟩ : ∃ N, N = L.length := ⟨_, rfl⟩
      have hNm : N ≤ 1024 := by rw [hN]; have := h.lr; have := h.r1; omega
      have hk0 : (0 : Int) ≤ (k : Int) := by omega
      have hkI : (k : Int) < (N : Int) := by omega
      have hkn : k < N := by omega
      have hkm : k < 1024 := by omega
      have HKE : Hid _ := hkE
      have HKL : Hid _ := hk
      have HNL : Hid _ := hN
      obtain ⟨g, c, hv, hcN, hcm, -, -⟩ := h.row.one (by omega)
      rw [h.len, ← hN] at hv
      subst hv
      clear h hin hr hN hd hk hkE hcN hcm
      go_enter Tryd.func12, Tryd.ntmps12
      go_wp2_with (first | (go_at_call 24; refine Calls.mono H.out ?_; rintro e w' ⟨rfl, hq⟩; have hq := hq.symm; subst hq; rw [HP.out]) | (go_at_call 27; refine Calls.mono HF.out ?_; rintro e w1 ⟨rfl, hb1⟩; rw [HD.out]))
      have h1 := HW.out.below hb1
      have HST1 : Hid _ := WSt.below hb1 p (.slice (some ⟨g, 0, none⟩) N c) E
      have d1 := h1.c1
      have df := h1.fz 1
      obtain ⟨⟨tn, ea, en, ec⟩, hmem, x0, x1, hels⟩ := h1.at_ rfl HDK.out
      have HEK : Hid _ := hmem
      clear hmem
      have hpl := h1.lt (.inl rfl : footY p _ E p)
      have hgl := h1.lt (.inr (.inl rfl) : footY p (.slice (some ⟨g, 0, none⟩) N c) E g)
      obtain ⟨i0, hi, hz0, hz1, hz2⟩ := info_parts KD.hi
      have HI : Hid _ := And.intro hi (And.intro hz0 (And.intro hz1 hz2))
      have HOW : Hid (∀ o : Obj, (w1.alloc o).drew.ownsRow 0 tDg 2 (.slice (some ⟨g, 0, none⟩) N c) N (KD.flat E)) := fun o => by
        have h9 := h1.row.below (al (Below.refl _ w1) o).drew
        unfold OwnG at h9
        rw [h1.len, ← HNL.out] at h9
        exact h9
      have HNW : Hid (∀ o : Obj, (w1.alloc o).drew.heap[w1.heap.size]? = some o) := fun o => heap_alloc_new w1 o
      have HCQ : Hid (∀ (o : Obj) (u : World), (w1.alloc o).drew.grownBy u (Value.slice (some ⟨g, 0, none⟩) N c).ownBlock → u.cell? ⟨p, 1, none⟩ = some (.slice (some ⟨g, 0, none⟩) N c) ∧ u.frozen? ⟨p, 1, none⟩ = false) := fun o u hu => by
        have h9 := h1.below (al (Below.refl _ w1) o).drew
        have h8 : u.heap[p]? = (w1.alloc o).drew.heap[p]? := hu.block p (h9.lt (.inl rfl : footY p _ E p)) (fun e => h9.pv e.symm)
        exact ⟨(World.cell?_of_block h8).trans h9.c1, (World.frozen?_of_block h8).trans (h9.fz 1)⟩
      have HW1 : Hid _ := h1
      have HEL : Hid _ := hels
      have HLE : Hid (N = E.length) := by rw [h1.len]; exact HNL.out
      clear hi hz0 hz1 hz2 h1 hb1 hels H HF
      go_wp2
      go_region_law (refine step_append_lies _ rfl (.tmp 18) (.tmp 26) tDs rfl 0 tDg i0 (.agg #[.bool false, .slice none 0 0]) 2 32 Tryd.underlying23 HI.out.1 HI.out.2.1 HI.out.2.2.1 HI.out.2.2.2 rfl (by decide) (.slice (some ⟨g, 0, none⟩) N c) N (KD.flat E) (by simp [Act.eval, Act.put]) (HOW.out _) ⟨w1.heap.size, 0, none⟩ 1 1 [.bool tn, .slice ea en ec] (by simp [Act.eval, Act.put]) rfl (World.news_of_block (cs := #[.bool tn, .slice ea en ec]) (t := tDg) (fr := (0, 0)) (HNW.out _)) (by intro u hu; simp at hu; rcases hu with rfl | rfl <;> rfl) (by decide) (by simp only [maxLen]; omega) (by omega) (Nat.zero_le _) _ rfl ?_; intro g5 cap5 w5 hown5 hg5 hat5 hlt5; obtain ⟨hc5, hf5⟩ := HCQ.out _ _ hg5; have HO5 : Hid _ := hown5; have HG5 : Hid _ := hg5; have HT5 : Hid _ := hat5; clear hown5 hg5 hat5)
      all_goals
        go_wp2
        go_ret
        rw [HE.out, HX.out]
        have hO5 : OwnG KD w5 0 (.slice (some ⟨g5, 0, none⟩) (N + 1) cap5) (E ++ [⟨tn, ea, en, ec⟩]) := by
          unfold OwnG
          rw [List.length_append, Kd.flat_app, Kd.flat_one, ← HLE.out]
          exact HO5.out
        have hw3 : Below w1.heap.size w1 (w1.alloc (Obj.cells #[.bool tn, .slice ea en ec] tDg)).drew := (al (Below.refl _ _) _).drew
        have hch : Chg (fun b => (Value.slice (some ⟨g, 0, none⟩) N c).ownBlock = some b) w1 w5 := (Chg.of_below hw3).trans (Chg.of_grown HG5.out (F := fun b => (Value.slice (some ⟨g, 0, none⟩) N c).ownBlock = some b) (fun b e => e)) (fun b e => .inl e)
        obtain ⟨h8, h9⟩ := HW1.out.setRow hch (v' := .slice (some ⟨g5, 0, none⟩) (N + 1) cap5) (E' := E ++ [⟨tn, ea, en, ec⟩]) (L' := L ++ [d]) hO5 (fun b e => by
          cases e
          rcases HT5.out with h9 | h9
          · exact .inl h9
          · refine .inr ?_
            rw [h9]
            exact hw3.size) (by rw [List.length_append, List.length_append, HW1.out.len]; rfl) (HW1.out.elsPush hch ⟨HEL.out.1, HW1.out.elk (hch.mono (fun b e => .inr e)) HEL.out.2.1, HEL.out.2.2⟩) (fun e he ad ha => by
            rcases List.mem_append.1 he with h9 | h9
            · exact .inl ⟨e, h9, ha⟩
            · simp at h9
              subst h9
              exact .inl ⟨_, HEK.out, ha⟩) (by rw [List.length_append]; exact HR.out)
        exact ⟨rfl, _, _, h8, HST1.out.trans h9⟩
  · have HP : Hid (plE L i = 4) := by unfold Hid plE; rw [if_neg hin]
    have HE : Hid (dblE R L i = 4) := by unfold Hid dblE; rw [if_neg hin]
    have HX : Hid (dblL R L i = L) := by unfold Hid dblL; rw [if_neg hin]
    clear h hin
    go_enter Tryd.func12, Tryd.ntmps12
    go_wp2_with (go_at_call 24; refine Calls.mono H.out ?_; rintro e w' ⟨rfl, hq⟩; have hq := hq.symm; subst hq; rw [HP.out])
    go_ret
    rw [HE.out, HX.out]
    exact ⟨rfl, v, E, HW.out, WSt.refl _ _ _ _⟩
end
end Go.Proofs.YtnpcgegcoakbmaaDoor
