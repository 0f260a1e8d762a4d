import Derived.Test.YtibolgpaolnheacNXq
namespace Go.Proofs.Ytibolgpaolnheac
set_option linter.unusedVariables false
set_option linter.unusedSimpArgs false
open Go.RowKit Go.Maps
variable {w w' : World} {r S : Nat} {P : List (List Ent)} {v v' : Value} {vs : List Value}
section
set_option maxRecDepth 20000
set_option maxHeartbeats 6400000
theorem rput_t (h : RefI w r S P v vs) (ht : Tid S P) (hS : 1 ≤ S ∧ S ≤ 64) (hPl : P.length ≤ 4398046511104) (s1 s2 n : Nat) :
    Calls Try.prog 27 #[.pointer (some ⟨r, 0, none⟩), sv (s1, s2), uv n] w fun e w' => ∃ p i ok v' vs', PlaceIs P (s1, s2) p i ok ∧ e = .returned (.bool (!ok)) ∧ RefI w' r S (putP S P p i ok ⟨(s1, s2), n⟩) v' vs' ∧ (∀ b, footR r v' vs' b → footR r v vs b ∨ w.heap.size ≤ b) ∧ Chg (footR r v vs) w w' := by
  obtain ⟨w1, hw1⟩ : ∃ X : World, X = w.alloc (.cells #[.int .u64 (s1 : Int), .int .u64 (s2 : Int)] tSt) := ⟨_, rfl⟩
  have hb1 : Below w.heap.size w w1 := by rw [hw1]; exact al (Below.refl _ _) _
  have HB1 : Hid (Below w.heap.size w w1) := hb1
  have HX1 : Hid (w1.heap[w.heap.size]? = some (.cells #[.int .u64 (s1 : Int), .int .u64 (s2 : Int)] tSt (0, 0))) := (show _ = _ by rw [hw1]; exact heap_alloc_new w _)
  have HI : Hid (RefI w r S P v vs) := h
  have HT : Hid (Tid S P) := ht
  have hlp : ∀ q ∈ P, q.length ≤ 100 := fun q hq => by have := ht.2 q hq; omega
  obtain ⟨pa, cap, hv, hcap, hxv⟩ := h.view
  obtain ⟨N, hN⟩ : ∃ N, N = P.length := ⟨_, rfl⟩
  have HN : Hid (N = P.length) := hN
  have HPC : Hid _ := rplace_t (hxv.below hb1) ht.1 hPl hlp s1 s2
  rw [← hN] at hv hPl hcap
  clear h ht hxv hb1 hlp hN
  go_enter Try.func27, Try.ntmps27
  go_wp2_with fail
  rw [← hw1]
  clear hw1
  refine Calls.mono HPC.out ?_
  rintro e w2 ⟨p, i, ok, rfl, hpl, hb2⟩
  have HPI : Hid (PlaceIs P (s1, s2) p i ok) := hpl
  have HB2 : Hid (Below w.heap.size w w2) := below_next HB1.out hb2
  have HI2 : Hid (RefI w2 r S P v vs) := HI.out.below HB2.out
  have HX2 : Hid (w2.heap[w.heap.size]? = some (.cells #[.int .u64 (s1 : Int), .int .u64 (s2 : Int)] tSt (0, 0))) := (hb2.block _ (Array.getElem?_eq_some_iff.1 HX1.out).1).trans HX1.out
  have HC0 : Hid (w2.cell? ⟨r, 0, none⟩ = some (.int .i64 (S : Int))) := (show _ = _ by rw [cell_of_row _ _ _ _ _ _ HI2.out.hd]; rfl)
  have HC1 : Hid (w2.cell? ⟨r, 1, none⟩ = some v) := (show _ = _ by rw [cell_of_row _ _ _ _ _ _ HI2.out.hd]; rfl)
  clear hpl hb2 HPC HX1
  by_cases hne : P = []
  · obtain ⟨rfl, rfl, rfl⟩ := HPI.out.nil hne
    subst hne
    obtain rfl : N = 0 := HN.out
    subst hv
    obtain ⟨E, hE⟩ : ∃ E, E = w2.heap.size := ⟨_, rfl⟩
    obtain ⟨w3, hw3⟩ : ∃ Y : World, Y = w2.alloc (.cells #[.int .u64 (s1 : Int), .int .u64 (s2 : Int), .int .u64 (n : Int)] tRe) := ⟨_, rfl⟩
    have HB3 : Hid (Below w2.heap.size w2 w3) := (show Below _ _ _ by rw [hw3]; exact al (Below.refl _ _) _)
    have HE3 : Hid (w3.heap[E]? = some (.cells #[.int .u64 (s1 : Int), .int .u64 (s2 : Int), .int .u64 (n : Int)] tRe (0, 0))) := (show _ = _ by rw [hw3, hE]; exact heap_alloc_new w2 _)
    have HI3 : Hid (RefI w3 r S [] (.slice pa 0 cap) vs) := HI2.out.below HB3.out
    have HVS : Hid (vs = []) := (show _ = _ from List.eq_nil_of_length_eq_zero HI3.out.len)
    have hr3 : w3.cell? ⟨r, 1, none⟩ = some (.slice pa 0 cap) := by rw [cell_of_row _ _ _ _ _ _ HI3.out.hd]; rfl
    have hrl : r < w3.heap.size := (Array.getElem?_eq_some_iff.1 HI3.out.hd).1
    have hld : w2.rangeAt w.heap.size 0 (sc (s1, s2)) := box_range HX2.out
    have HE4 : Hid (w3.rangeAt E 0 (ev ⟨(s1, s2), n⟩)) := box_range HE3.out
    have hc4 : ((w3.alloc (.cells #[.int .u64 (s1 : Int), .int .u64 (s2 : Int), .int .u64 (n : Int)] tRe)).alloc (.cells #[.slice (some ⟨w3.heap.size, 0, none⟩) 1 1] tRs)).cell? ⟨r, 1, none⟩ = some (.slice pa 0 cap) := ((al (al (Below.refl w3.heap.size w3) _) _).cell (World.block_lt_of_cell? w3 _ hr3)).trans hr3
    have hf4 : ((w3.alloc (.cells #[.int .u64 (s1 : Int), .int .u64 (s2 : Int), .int .u64 (n : Int)] tRe)).alloc (.cells #[.slice (some ⟨w3.heap.size, 0, none⟩) 1 1] tRs)).frozen? ⟨r, 1, none⟩ = false := by simp only [World.frozen?, ((al (al (Below.refl w3.heap.size w3) (.cells #[.int .u64 (s1 : Int), .int .u64 (s2 : Int), .int .u64 (n : Int)] tRe)) (.cells #[.slice (some ⟨w3.heap.size, 0, none⟩) 1 1] tRs)).block r hrl).trans HI3.out.hd]; rfl
    obtain ⟨w5, hw5⟩ : ∃ Y : World, Y = w3.setCell ⟨r, 1, none⟩ (.slice (some ⟨w3.heap.size + 1, 0, none⟩) 1 1) := ⟨_, rfl⟩
    have hz5 : w5.heap.size = w3.heap.size := by rw [hw5]; simp
    obtain ⟨w4, hw4⟩ : ∃ Y : World, Y = (w5.alloc (.cells #[.int .u64 (s1 : Int), .int .u64 (s2 : Int), .int .u64 (n : Int)] tRe)).alloc (.cells #[.slice (some ⟨w3.heap.size, 0, none⟩) 1 1] tRs) := ⟨_, rfl⟩
    have hb4 : Below w5.heap.size w5 w4 := by rw [hw4]; exact al (al (Below.refl _ _) _) _
    have ht4 := two_new w5 (.cells #[.int .u64 (s1 : Int), .int .u64 (s2 : Int), .int .u64 (n : Int)] tRe) (.cells #[.slice (some ⟨w3.heap.size, 0, none⟩) 1 1] tRs)
    rw [← hw4, hz5] at ht4
    have hd4 : w4.heap[r]? = some (.cells #[.int .i64 (S : Int), (.slice (some ⟨w3.heap.size + 1, 0, none⟩) 1 1)] tRi (0, 0)) := (hb4.block r (by rw [hz5]; exact hrl)).trans (by rw [hw5, heap_setCell_same w3 r 1 _ _ _ HI3.out.hd]; rfl)
    have HIF : Hid (RefI w4 r S (putP S [] 0 0 false ⟨(s1, s2), n⟩) (.slice (some ⟨w3.heap.size + 1, 0, none⟩) 1 1) [.slice (some ⟨w3.heap.size, 0, none⟩) 1 1]) := (show RefI _ _ _ _ _ _ by
      rw [putP_nil S hS.1]
      have hI := HI3.out
      rw [HVS.out] at hI
      have h9 := hI.rep (w' := w4) (v' := (.slice (some ⟨w3.heap.size + 1, 0, none⟩) 1 1)) hd4 0 0 (Nat.le_refl _) [[⟨(s1, s2), n⟩]] [.slice (some ⟨w3.heap.size, 0, none⟩) 1 1] rfl (by
          intro t q hq
          match t, hq with
          | 0, hq =>
            cases hq
            exact ⟨_, rfl, rfl, .inr ⟨w3.heap.size, 1, _, rfl, Nat.le_refl _, ht4.1, Nat.le_refl _, by decide, rfl, by rw [flatE_one]; rfl⟩⟩
          | t + 1, hq => simp at hq) (List.pairwise_singleton _ _) ⟨rfl, .inr ⟨w3.heap.size + 1, 1, _, rfl, Nat.zero_le _, ht4.2, Nat.le_refl _, by decide, rfl, rfl⟩⟩ (fun x hx => by cases hx) (Nat.le_refl _)
      exact h9)
    have HBW : Hid (Below w.heap.size w w3) := below_next HB2.out HB3.out
    have HCH : Hid (Chg (footR r (.slice pa 0 cap) vs) w w4) := (show Chg _ _ _ by
      have h1 : Chg (footR r (.slice pa 0 cap) vs) w w5 := by
        refine (Chg.of_below HBW.out).trans (G := fun k => k = r) ?_ (fun k e => .inl (.inl e))
        rw [hw5]
        exact Chg.of_grown (row := some r) ⟨rfl, rfl, rfl, by simp, fun k _ hk => heap_setCell_other w3 _ k _ (fun e => hk (by simp at e; rw [e]))⟩ (fun k e => by cases e; rfl)
      exact h1.trans (G := fun _ => False) (Chg.of_below hb4) (fun k e => e.elim))
    have HW4 : Hid (w4 = ((w3.setCell ⟨r, 1, none⟩ (.slice (some ⟨w3.heap.size + 1, 0, none⟩) 1 1)).alloc (.cells #[.int .u64 (s1 : Int), .int .u64 (s2 : Int), .int .u64 (n : Int)] tRe)).alloc (.cells #[.slice (some ⟨w3.heap.size, 0, none⟩) 1 1] tRs)) := (show _ = _ by rw [hw4, hw5])
    have HFT : Hid (∀ k, footR r (.slice (some ⟨w3.heap.size + 1, 0, none⟩) 1 1) [.slice (some ⟨w3.heap.size, 0, none⟩) 1 1] k → footR r (.slice pa 0 cap) vs k ∨ w.heap.size ≤ k) := footR_step (fun k hk => .inr (by have h8 := HBW.out.size; have h9 : w3.heap.size + 1 = k := Option.some.inj hk; omega)) (fun x hx k hk => .inr (by have h8 := HBW.out.size; obtain rfl := List.mem_singleton.1 hx; have h9 : w3.heap.size = k := Option.some.inj hk; omega)) (.inl rfl)
    clear hw4 hw5 hb4 ht4 hd4 hz5
    go_upto_region 8 with (first | (refine wpList_load_mid rfl tSt _ rfl w.heap.size 0 rfl (sc (s1, s2)) _ hld Try.underlying36 rfl info_st ?_))
    rw [← hw3]
    simp only [← hE]
    clear hw3 hE hld
    go_wp2_with (first | (refine wpList_load_mid rfl tRe _ rfl E 0 rfl (ev ⟨(s1, s2), n⟩) _ HE4.out Try.underlying94 rfl info_re3 ?_))
    have h8 := HIF.out
    have h7 := HCH.out
    rw [HW4.out] at h8 h7
    go_ret
    exact ⟨0, 0, false, _, _, HPI.out, rfl, h8, HFT.out, h7⟩
  · have hpP := HPI.out.lt hne
    have eP : P.getD p [] = P[p] := by simp [List.getD, hpP]
    obtain ⟨hiP, hio, -⟩ := HPI.out.cut HT.out.1 hpP
    obtain ⟨gr, hgr⟩ : ∃ gr, v = .slice (some ⟨gr, 0, none⟩) N cap := by
      rcases HI.out.row.2 with ⟨e, h0⟩ | ⟨g, c9, cur, e, -⟩
      · exact absurd (List.eq_nil_of_length_eq_zero h0) hne
      · rw [hv] at e; cases e; exact ⟨g, hv⟩
    rw [hv] at hgr
    cases hgr
    subst hv
    obtain ⟨x, hx, hrx⟩ := HI2.out.pg p hpP
    obtain ⟨M, hM⟩ : ∃ M, M = P[p].length := ⟨_, rfl⟩
    have hM0 : 0 < M := by rw [hM]; exact HT.out.1.1 _ (List.getElem_mem hpP)
    have hMS : M ≤ S := by rw [hM]; exact HT.out.2 _ (List.getElem_mem hpP)
    obtain ⟨b, c, hxe⟩ : ∃ b c, x = .slice (some ⟨b, 0, none⟩) M c := by
      rcases hrx.2 with ⟨e, h0⟩ | ⟨g, c9, cur, e, -⟩
      · omega
      · exact ⟨g, c9, by rw [hM]; exact e⟩
    have hMc : M ≤ c := by
      obtain ⟨a9, c9, e9, h9, -⟩ := ownX_rd hrx
      rw [hxe] at e9; cases e9; omega
    subst hxe
    have HPX : Hid (RdX w2 (some ⟨b, 0, none⟩) P[p]) := (show RdX _ _ _ by
      obtain ⟨a9, c9, e9, -, h9⟩ := ownX_rd hrx
      cases e9; exact h9)
    have hcp : w2.cell? ⟨gr, p, none⟩ = some (.slice (some ⟨b, 0, none⟩) M c) := by
      rw [World.ownsRow.cellAt (by have h9 := HI2.out.row; rw [← HN.out] at h9; exact h9) p (by have := HN.out; omega), hx]
    have HVX : Hid (vs[p]? = some (.slice (some ⟨b, 0, none⟩) M c)) := hx
    have HMM : Hid (M = P[p].length) := hM
    have HRX : Hid _ := hrx
    have hpi : (p : Int) < (N : Int) := by have := HN.out; omega
    have hp0 : (0 : Int) ≤ (p : Int) := by omega
    have hi0 : (0 : Int) ≤ (i : Int) := by omega
    have hcr := HC1.out
    cases ok
    case true =>
      have hiM : i < M := by rw [hM]; exact hio rfl
      have hii : (i : Int) < (M : Int) := by omega
      have hst : (P[p][i]'(hio rfl)).st = (s1, s2) := by
        rcases HPI.out with ⟨e, -⟩ | ⟨rr, -, -, -, -, h5⟩
        · exact absurd e hne
        · have h7 : ∀ X, X = P.getD p [] → ∃ h : i < X.length, X[i].st = (s1, s2) := by rintro X rfl; exact h5.1 rfl
          obtain ⟨_, h8⟩ := h7 P[p] eP.symm
          exact h8
      obtain ⟨cur9, hb9⟩ := rowX_blk hrx b rfl
      have hcb : w2.cell? ⟨b, i * 3 + 2, none⟩ = some (.int .u64 ((P[p][i]'(hio rfl)).n : Int)) := by
        have h9 := HPX.out i (hio rfl)
        obtain ⟨b', o', e9, h9⟩ := h9
        cases e9
        have h8 := h9 2 _ rfl
        rw [Nat.zero_add] at h8
        exact h8
      have hfb : w2.frozen? ⟨b, i * 3 + 2, none⟩ = false := by simp [World.frozen?, hb9]
      obtain ⟨on, hon⟩ : ∃ on, on = (P[p][i]'(hio rfl)).n := ⟨_, rfl⟩
      rw [← hon] at hcb
      have HPP : Hid (putP S P p i true ⟨(s1, s2), n⟩ = repL P p (p + 1) [putL P[p] i true ⟨(P[p][i]'(hio rfl)).st, n⟩]) := (show _ = _ by
        unfold putP
        rw [eP, if_pos (by rw [putL_len hiP (fun _ => hio rfl)]; simp; omega), hst])
      have HIF : Hid _ := HI2.out.setVal p i hpP (hio rfl) n b _ hx rfl
      have HCH : Hid (Chg (footR r (.slice (some ⟨gr, 0, none⟩) N cap) vs) w (w2.setCell ⟨b, i * 3 + 2, none⟩ (.int .u64 (n : Int)))) := (show Chg _ _ _ by
        refine (Chg.of_below HB2.out).trans (G := fun k => k = b) (Chg.of_grown (row := some b) ⟨rfl, rfl, rfl, by simp, fun k _ hk => heap_setCell_other w2 _ k _ (fun e => hk (by simp at e; rw [e]))⟩ (fun k e => by cases e; rfl)) (fun k e => .inl ?_)
        subst e
        exact .inr (.inr ⟨_, List.mem_of_getElem? hx, rfl⟩))
      clear hst hb9 hon hrx hx hM eP
      go_wp2
      go_ret
      exact ⟨p, i, true, _, vs, HPI.out, rfl, by rw [HPP.out]; exact HIF.out, fun k hk => .inl hk, HCH.out⟩
    case false =>
      have hiM : i ≤ M := by rw [hM]; exact hiP
      have hic : (i : Int) ≤ (c : Int) := by omega
      have hicn : i ≤ c := by omega
      have hiMi : (i : Int) ≤ (M : Int) := by omega
      have hN0 : ((N : Int) == 0) = false := by simp; have := HN.out; intro e; exact hne (List.eq_nil_of_length_eq_zero (by omega))
      have hN0' : ¬ N = 0 := by have := HN.out; intro e; exact hne (List.eq_nil_of_length_eq_zero (by omega))
      obtain ⟨E, hE⟩ : ∃ E, E = w2.heap.size := ⟨_, rfl⟩
      obtain ⟨w3, hw3⟩ : ∃ Y : World, Y = w2.alloc (.cells #[.int .u64 (s1 : Int), .int .u64 (s2 : Int), .int .u64 (n : Int)] tRe) := ⟨_, rfl⟩
      have HB3 : Hid (Below w2.heap.size w2 w3) := (show Below _ _ _ by rw [hw3]; exact al (Below.refl _ _) _)
      have HE3 : Hid (w3.heap[E]? = some (.cells #[.int .u64 (s1 : Int), .int .u64 (s2 : Int), .int .u64 (n : Int)] tRe (0, 0))) := (show _ = _ by rw [hw3, hE]; exact heap_alloc_new w2 _)
      have HI3 : Hid (RefI w3 r S P (.slice (some ⟨gr, 0, none⟩) N cap) vs) := HI2.out.below HB3.out
      have HW3 : Hid (∀ u, Below w3.heap.size w3 u → u.cell? ⟨r, 0, none⟩ = some (.int .i64 (S : Int)) ∧ u.cell? ⟨r, 1, none⟩ = some (.slice (some ⟨gr, 0, none⟩) N cap) ∧ u.cell? ⟨gr, p, none⟩ = some (.slice (some ⟨b, 0, none⟩) M c) ∧ RdX u (some ⟨b, 0, none⟩) P[p]) := (fun u hu => by
        have h9 := below_next HB3.out hu
        exact ⟨(h9.cell (World.block_lt_of_cell? w2 _ HC0.out)).trans HC0.out, (h9.cell (World.block_lt_of_cell? w2 _ hcr)).trans hcr, (h9.cell (World.block_lt_of_cell? w2 _ hcp)).trans hcp, HPX.out.below h9⟩)
      obtain ⟨hs3, hr3, hp3, -⟩ := HW3.out w3 (Below.refl _ _)
      have HTI : Hid (i = (P[p].take i).length) := (show _ = _ by rw [List.length_take]; omega)
      have hld : w2.rangeAt w.heap.size 0 (sc (s1, s2)) := box_range HX2.out
      have HMI : Hid (M - i = (P[p].drop i).length) := (show _ = _ by rw [List.length_drop]; omega)
      have HLE : Hid (P[p].length ≤ 100) := (show _ ≤ _ by omega)
      clear hrx hx hM
      go_upto_region 8 with (first | (refine wpList_load_mid rfl tSt _ rfl w.heap.size 0 rfl (sc (s1, s2)) _ hld Try.underlying36 rfl info_st ?_))
      rw [← hw3]
      simp only [← hE]
      clear hw3 hE hcr hcp hld
      go_upto_region 13 with (first | (at_builtin; refine wp_appX rfl _ _ rfl w3.heap.size _ [] (P[p].take i) (by rfl) (OwnX.nil _ _) b 0 _ _ HTI.out (by rfl) ((HW3.out w3 (Below.refl _ _)).2.2.2.take i) (by have := HLE.out; rw [List.length_take]; simp; omega) (Nat.le_refl _) ?_; intro v4 w4 hown hg hbk; have HO4 : Hid (OwnX w4 w3.heap.size v4 (P[p].take i)) := hown; have HB4 : Hid (Below w3.heap.size w3 w4) := ⟨hg.os, hg.tape, hg.output, hg.size, fun k9 h9 => hg.block k9 h9 (fun e9 => by cases e9)⟩; obtain ⟨a4, c4, hv4, -⟩ := OwnX.val hown; rw [List.nil_append, ← HTI.out] at hv4; subst hv4; clear hown hg hbk))
      obtain ⟨hs4, hr4, hp4, -⟩ := HW3.out w4 HB4.out
      have HE4 : Hid (w4.rangeAt E 0 (ev ⟨(s1, s2), n⟩)) := box_range ((HB4.out.block E (Array.getElem?_eq_some_iff.1 HE3.out).1).trans HE3.out)
      go_upto_region 14 with (first | (refine wpList_load_mid rfl tRe _ rfl E 0 rfl (ev ⟨(s1, s2), n⟩) _ HE4.out Try.underlying94 rfl info_re3 ?_) | (at_builtin; refine wp_appX rfl _ _ rfl w3.heap.size _ (P[p].take i) [⟨(s1, s2), n⟩] (by rfl) (OwnX.below HO4.out (al (Below.refl _ _) _)) _ 0 1 1 rfl (by rfl) (rdX_one (e := ⟨(s1, s2), n⟩) (heap_alloc_new w4 _)) (by have := HLE.out; rw [List.length_take]; simp; omega) (by have := HB4.out.size; simp; omega) ?_; intro v5 w5 hown hg hbk; have HO5 : Hid (OwnX w5 w3.heap.size v5 (P[p].take i ++ [⟨(s1, s2), n⟩])) := hown; have HB5 : Hid (Below w3.heap.size w3 w5) := (HB4.out.alloc HB4.out.size _).grown hg (by have := HB4.out.size; simp; omega) (fun j9 h9 => (World.ownsRow.lt HO4.out j9 h9).1); obtain ⟨a5, c5, hv5, -⟩ := OwnX.val hown; rw [List.length_append, ← HTI.out] at hv5; simp only [List.length_singleton] at hv5; subst hv5; clear hown hg hbk))
      obtain ⟨hs5, hr5, hp5, -⟩ := HW3.out w5 HB5.out
      have HPU : Hid (P[p].take i ++ [⟨(s1, s2), n⟩] ++ P[p].drop i = putL P[p] i false ⟨(s1, s2), n⟩) := (show _ = _ by unfold putL; rfl)
      go_cut [11] from 64 to 74 (fun c9 wx => OwnX wx w3.heap.size c9 (putL P[p] i false ⟨(s1, s2), n⟩) ∧ Below w3.heap.size w3 wx)
      case first =>
        by_cases hci : c = i
        · have hMi : M = i := by omega
          subst hci
          subst hMi
          have HMZ : Hid (P[p].drop M = []) := (show _ = _ by apply List.drop_eq_nil_of_le; have := HMM.out; omega)
          go_wp2_with (first | (at_builtin; refine wp_appX rfl _ _ rfl w3.heap.size _ (P[p].take M ++ [⟨(s1, s2), n⟩]) (P[p].drop M) (by rfl) HO5.out _ _ 0 _ (by rw [HMZ.out]; rfl) (by rfl) (by rw [HMZ.out]; exact fun j9 h9 => absurd h9 (Nat.not_lt_zero _)) (by have := HLE.out; rw [List.length_append, List.length_take, List.length_drop]; simp; omega) HB5.out.size ?_; intro v6 w6 hown hg hbk; rw [HPU.out] at hown; have HO6 : Hid _ := hown; have HB6 : Hid (Below w3.heap.size w3 w6) := HB5.out.grown hg HB5.out.size (fun j9 h9 => (World.ownsRow.lt HO5.out j9 h9).1); clear hown hg hbk))
          go_meet
          exact ⟨HO6.out, HB6.out⟩
        · go_wp2_with (first | (at_builtin; refine wp_appX rfl _ _ rfl w3.heap.size _ (P[p].take i ++ [⟨(s1, s2), n⟩]) (P[p].drop i) (by rfl) HO5.out b (i * 3) _ _ HMI.out (by rfl) (by have h9 := ((HW3.out w5 HB5.out).2.2.2.drop i); rw [Nat.zero_add] at h9; exact h9) (by have := HLE.out; rw [List.length_append, List.length_take, List.length_drop]; simp; omega) HB5.out.size ?_; intro v6 w6 hown hg hbk; rw [HPU.out] at hown; have HO6 : Hid _ := hown; have HB6 : Hid (Below w3.heap.size w3 w6) := HB5.out.grown hg HB5.out.size (fun j9 h9 => (World.ownsRow.lt HO5.out j9 h9).1); clear hown hg hbk))
          go_meet
          exact ⟨HO6.out, HB6.out⟩
      case rest =>
        obtain ⟨ho6, hb6⟩ := hcut
        have HO6 : Hid (OwnX wc w3.heap.size u11 (putL P[p] i false ⟨(s1, s2), n⟩)) := ho6
        have HB6 : Hid (Below w3.heap.size w3 wc) := hb6
        obtain ⟨a6, c6, hv6, hc6, -⟩ := OwnX.val ho6
        obtain ⟨T6, hT6⟩ : ∃ T6, T6 = (putL P[p] i false ⟨(s1, s2), n⟩).length := ⟨_, rfl⟩
        have HT6 : Hid (T6 = M + 1) := (show _ = _ by rw [hT6, putL_len hiP (fun e => by cases e), HMM.out]; rfl)
        have HTL : Hid (T6 = (putL P[p] i false ⟨(s1, s2), n⟩).length) := hT6
        rw [← hT6] at hv6 hc6
        subst hv6
        obtain ⟨hs6, hr6, hp6, -⟩ := HW3.out wc hb6
        obtain ⟨gcur, hgc⟩ := rowX_blk HI3.out.row gr rfl
        have HGC : Hid (w3.heap[gr]? = some (.cells gcur tRs (0, 0))) := hgc
        have hfz : wc.frozen? ⟨gr, p, none⟩ = false := by simp [World.frozen?, (hb6.block gr (Array.getElem?_eq_some_iff.1 hgc).1).trans hgc]
        have HBW : Hid (Below w.heap.size w w3) := below_next HB2.out HB3.out
        have hgl : gr < w3.heap.size := (Array.getElem?_eq_some_iff.1 hgc).1
        clear ho6 hb6 hT6 hgc hs3 hr3 hp3 hs4 hr4 hp4 hs5 hr5 hp5
        by_cases hle : T6 ≤ S
        · have hlei : (T6 : Int) ≤ (S : Int) := by omega
          have HPP : Hid (putP S P p i false ⟨(s1, s2), n⟩ = repL P p (p + 1) [putL P[p] i false ⟨(s1, s2), n⟩]) := (show _ = _ by
            unfold putP
            rw [eP, if_pos (by rw [← HTL.out]; exact hle)])
          have HTY : Hid (∀ (k : Nat) cur t fr, w3.heap[k]? = some (.cells cur t fr) → t ≠ tRs → (wc.setCell ⟨gr, p, none⟩ (.slice a6 T6 c6)).heap[k]? = some (.cells cur t fr)) := (fun k cur t fr hk ht => by
            rw [heap_setCell_other _ _ _ _ (fun e => by
              simp at e
              subst e
              rw [HGC.out] at hk
              injection hk with hk
              injection hk with e1 e2
              exact ht e2.symm)]
            exact (HB6.out.block k (Array.getElem?_eq_some_iff.1 hk).1).trans hk)
          have hpv : p < vs.length := by rw [HI3.out.len]; exact hpP
          have HIF : Hid (RefI (wc.setCell ⟨gr, p, none⟩ (.slice a6 T6 c6)) r S (repL P p (p + 1) [putL P[p] i false ⟨(s1, s2), n⟩]) (.slice (some ⟨gr, 0, none⟩) N cap) (repL vs p (p + 1) [.slice a6 T6 c6])) := (show RefI _ _ _ _ _ _ by
            refine HI3.out.rep (HTY.out r _ _ _ HI3.out.hd (by decide)) p (p + 1) (by omega) [putL P[p] i false ⟨(s1, s2), n⟩] [.slice a6 T6 c6] rfl ?_ (List.pairwise_singleton _ _) ?_ ?_ (Nat.le_succ _)
            · intro t q hq
              match t, hq with
              | 0, hq =>
                cases hq
                refine ⟨_, rfl, row_kept HO6.out (fun k hk => heap_setCell_other _ _ _ _ (fun e => ?_))⟩
                have := (World.ownsRow.lt HO6.out k hk).1
                simp at e
                omega
              | t + 1, hq => simp at hq
            · have hrw : wc.ownsRow 0 tRs 1 (.slice (some ⟨gr, 0, none⟩) N cap) N vs := row_kept (by have h9 := HI3.out.row; rw [← HN.out] at h9; exact h9) (fun k hk => by cases hk; exact HB6.out.block gr hgl)
              have h9 := (World.ownsRow.stored hrw p (.slice a6 T6 c6)).1
              rw [show repL vs p (p + 1) [Value.slice a6 T6 c6] = vs.set p (.slice a6 T6 c6) by unfold repL; rw [List.set_eq_take_append_cons_drop, if_pos hpv]; simp, repL_len (by omega)]
              rw [show p + [putL P[p] i false ⟨(s1, s2), n⟩].length + (P.length - (p + 1)) = N by simp; have := HN.out; omega]
              exact h9
            · intro x hx k hk
              obtain ⟨j9, hj9, -, hr9⟩ := HI3.out.pgv x hx
              obtain ⟨cur9, h9⟩ := rowX_blk hr9 k hk
              rw [HTY.out k _ _ _ h9 (by decide), h9])
          have HFT : Hid (∀ k, footR r (.slice (some ⟨gr, 0, none⟩) N cap) (repL vs p (p + 1) [.slice a6 T6 c6]) k → footR r (.slice (some ⟨gr, 0, none⟩) N cap) vs k ∨ w.heap.size ≤ k) := footR_step (fun k hk => .inl (.inr (.inl hk))) (fun x hx k hk => by
            unfold repL at hx
            rcases List.mem_append.1 hx with hx | hx
            · rcases List.mem_append.1 hx with hx | hx
              · exact .inl (.inr (.inr ⟨x, List.mem_of_mem_take hx, hk⟩))
              · obtain rfl := List.mem_singleton.1 hx
                have h8 := (World.ownsRow.lt HO6.out k hk).1
                have h9 := HBW.out.size
                exact .inr (by omega)
            · exact .inl (.inr (.inr ⟨x, List.mem_of_mem_drop hx, hk⟩))) (.inl rfl)
          have HCH : Hid (Chg (footR r (.slice (some ⟨gr, 0, none⟩) N cap) vs) w (wc.setCell ⟨gr, p, none⟩ (.slice a6 T6 c6))) := (show Chg _ _ _ by
            refine (Chg.of_below (below_next HBW.out HB6.out)).trans (G := fun k => k = gr) (Chg.of_grown (row := some gr) ⟨rfl, rfl, rfl, by simp, fun k _ hk => heap_setCell_other wc _ k _ (fun e => hk (by simp at e; rw [e]))⟩ (fun k e => by cases e; rfl)) (fun k e => .inl ?_)
            subst e
            exact .inr (.inl rfl))
          go_wp2
          go_ret
          exact ⟨p, i, false, _, _, HPI.out, rfl, by rw [HPP.out]; exact HIF.out, HFT.out, HCH.out⟩
        · have hlei : ¬ (T6 : Int) ≤ (S : Int) := by omega
          obtain ⟨L9, hL9⟩ : ∃ L9, L9 = putL P[p] i false ⟨(s1, s2), n⟩ := ⟨_, rfl⟩
          have hO9 := HO6.out
          rw [← hL9] at hO9
          have hTS : T6 = S + 1 := by have := HT6.out; omega
          have hTL9 : T6 = L9.length := by rw [hL9]; exact HTL.out
          obtain ⟨b6, hb6e⟩ : ∃ b6, a6 = some ⟨b6, 0, none⟩ := by
            rcases hO9.2 with ⟨e, h0⟩ | ⟨g9, c9, cur9, e, -⟩
            · omega
            · cases e; exact ⟨_, rfl⟩
          subst hb6e
          have hrd9 : RdX wc (some ⟨b6, 0, none⟩) L9 := by
            obtain ⟨a9, c9, e9, -, h9⟩ := OwnX.val hO9
            cases e9; exact h9
          obtain ⟨K9, hK9⟩ : ∃ K9, K9 = (S + 1) / 2 := ⟨_, rfl⟩
          have hKT : K9 < T6 := by omega
          have HKA : Hid (K9 = (L9.take K9).length) := (show _ = _ by rw [List.length_take]; omega)
          have HKB : Hid (T6 - K9 = (L9.drop K9).length) := (show _ = _ by rw [List.length_drop]; omega)
          have HRA : Hid (RdX wc (some ⟨b6, 0, none⟩) (L9.take K9)) := hrd9.take K9
          have HRB : Hid (RdX wc (some ⟨b6, K9 * 3, none⟩) (L9.drop K9)) := (show RdX _ _ _ by have h9 := hrd9.drop K9; rw [Nat.zero_add] at h9; exact h9)
          have HLA : Hid ((L9.take K9).length ≤ 5000000000000) := (show _ ≤ _ by rw [List.length_take]; omega)
          have HLB : Hid ((L9.drop K9).length ≤ 5000000000000) := (show _ ≤ _ by rw [List.length_drop]; omega)
          have HCL : Hid (∀ u, Below wc.heap.size wc u → u.cell? ⟨r, 1, none⟩ = some (.slice (some ⟨gr, 0, none⟩) N cap)) := (fun u hu => (HW3.out u (below_next HB6.out hu)).2.1)
          have HPP : Hid (putP S P p i false ⟨(s1, s2), n⟩ = repL P p (p + 1) [L9.take K9, L9.drop K9]) := (show _ = _ by
            unfold putP
            rw [eP, if_neg (by rw [← HTL.out]; exact hle), hL9, hK9])
          have HVL : Hid (vs.length = N) := (show _ = _ by rw [HI3.out.len]; exact HN.out.symm)
          have HSL : Hid (∀ u ∈ vs, ∃ a m c, u = .slice a m c) := HI3.out.sl
          have HRW : Hid (∀ (u uu : World) (vA vB : Value), PairX wc u vA (L9.take K9) vB (L9.drop K9) → uu = u.alloc (.cells #[vA, vB] tRs) → Calls Try.prog 54 #[.slice (some ⟨gr, 0, none⟩) N cap, .int .i64 (p : Int), .int .i64 ((p : Int) + 1), .slice (some ⟨u.heap.size, 0, none⟩) 2 2] uu fun e w' => ∃ v', e = .returned v' ∧ w'.ownsRow uu.heap.size tRs 1 v' (repL vs p (p + 1) [vA, vB]).length (repL vs p (p + 1) [vA, vB]) ∧ Below uu.heap.size uu w') := (fun u uu vA vB hp huu => by
            have hbu : Below w3.heap.size w3 uu := by rw [huu]; exact below_next HB6.out (below_next hp.bel (al (Below.refl _ _) _))
            have hnw : uu.heap[u.heap.size]? = some (.cells #[vA, vB] tRs (0, 0)) := by rw [huu]; exact heap_alloc_new u _
            obtain ⟨pa, ca, rfl, -⟩ := hp.oa.val
            obtain ⟨pb, cb, rfl, -⟩ := hp.ob.val
            have hrw9 : uu.ownsRow 0 tRs 1 (.slice (some ⟨gr, 0, none⟩) N cap) N vs := row_kept (by have h9 := HI3.out.row; rw [← HN.out] at h9; exact h9) (fun k hk => by cases hk; exact hbu.block gr hgl)
            have h9 := row_t gr N cap vs HVL.out uu (fun j u9 h9 => by
              rw [World.ownsRow.cellAt hrw9 j (by have := (List.getElem?_eq_some_iff.1 h9).1; rw [HVL.out] at this; omega)]
              exact h9) HSL.out p (p + 1) (Nat.le_succ _) (by have := HN.out; omega) (.slice (some ⟨u.heap.size, 0, none⟩) 2 2) _ (.inr ⟨_, 2, 2, rfl, rfl, two_vs hnw⟩) (by intro x hx; simp at hx; rcases hx with rfl | rfl <;> rfl) hPl (by simp)
            exact h9)
          have HFN : Hid (∀ (u uu u5 : World) (vA vB : Value), PairX wc u vA (L9.take K9) vB (L9.drop K9) → uu = u.alloc (.cells #[vA, vB] tRs) → Below uu.heap.size uu u5 → ∀ v5, u5.ownsRow uu.heap.size tRs 1 v5 (repL vs p (p + 1) [vA, vB]).length (repL vs p (p + 1) [vA, vB]) → u5.cell? ⟨r, 1, none⟩ = some (.slice (some ⟨gr, 0, none⟩) N cap) ∧ u5.frozen? ⟨r, 1, none⟩ = false ∧ ∃ vs9, RefI (u5.setCell ⟨r, 1, none⟩ v5) r S (putP S P p i false ⟨(s1, s2), n⟩) v5 vs9 ∧ (∀ k, footR r v5 vs9 k → footR r (.slice (some ⟨gr, 0, none⟩) N cap) vs k ∨ w.heap.size ≤ k) ∧ Chg (footR r (.slice (some ⟨gr, 0, none⟩) N cap) vs) w (u5.setCell ⟨r, 1, none⟩ v5)) := (fun u uu u5 vA vB hp huu hb5 v5 hrow => by
            have hbu : Below u.heap.size u uu := by rw [huu]; exact al (Below.refl _ _) _
            have hb35 : Below w3.heap.size w3 u5 := below_next HB6.out (below_next hp.bel (below_next hbu hb5))
            have hd5 := (hb35.block r (HI3.out.lt r (.inl rfl))).trans HI3.out.hd
            obtain ⟨h1, h2, h3⟩ := HI3.out.newRow (below_next HB6.out hp.bel) [vA, vB] [L9.take K9, L9.drop K9] rfl (by
              intro t q hq
              match t, hq with
              | 0, hq => cases hq; exact ⟨_, rfl, hp.oa.base HB6.out.size⟩
              | 1, hq => cases hq; exact ⟨_, rfl, hp.ob.base HB6.out.size⟩
              | t + 2, hq => simp at hq) (by
                rw [List.pairwise_cons]
                exact ⟨fun y hy => by obtain rfl := List.mem_singleton.1 hy; exact hp.ap, List.pairwise_singleton _ _⟩) (below_next hbu hb5) p (p + 1) (by omega) (Nat.le_succ _) hrow (Nat.le_trans (Nat.le_trans HB6.out.size hp.bel.size) hbu.size)
            refine ⟨by rw [cell_of_row _ _ _ _ _ _ hd5]; rfl, by simp [World.frozen?, hd5], _, by rw [HPP.out]; exact h1, fun k hk => (h2 k hk).imp_right (fun h9 => Nat.le_trans HBW.out.size h9), ?_⟩
            exact (Chg.of_below HBW.out).trans (G := footR r (.slice (some ⟨gr, 0, none⟩) N cap) vs) h3 (fun k e => .inl e))
          have hwp : IntKind.i64.wrap ((p : Int) + 1) = (p : Int) + 1 := by rw [IntKind.wrap_i64]; omega
          have hKi : ((S : Int) + 1) / 2 = (K9 : Int) := by omega
          have hK0 : (0 : Int) ≤ (K9 : Int) := by omega
          have hKc : (K9 : Int) ≤ (c6 : Int) := by omega
          have hKt : (K9 : Int) ≤ (T6 : Int) := by omega
          have hKcn : K9 ≤ c6 := by omega
          have hKtn : K9 ≤ T6 := by omega
          have hcK : ¬ c6 = K9 := by omega
          have HKT : Hid (K9 < T6) := hKT
          clear hO9 hTS hTL9 hrd9 hK9 hL9 hKT hle
          go_upto_region 19 with fail
          skip
          refine wp_region_held_drew (S := (fun _ => True)) (by kernel_rfl) (by exact trivial) (fun hHeld => ?_)
          (obtain ⟨u0, hu⟩ : ∃ X : World, X = wc.drew := ⟨_, rfl⟩; rw [← hu]; have HP0 : Hid (PairX wc u0 (.slice none 0 0) [] (.slice none 0 0) []) := (by rw [hu]; exact (PairX.init wc).below (Below.refl _ _).drew); have hc0 : u0.cell? ⟨r, 1, none⟩ = some (.slice (some ⟨gr, 0, none⟩) N cap) := HCL.out u0 HP0.out.bel; clear hu)
          refine take_at (i := 0) 95 (v := ?_) rfl rfl (by kernel_rfl) (by kernel_rfl) (by kernel_rfl) (fun _ _ _ h => h) (by rfl) ?_ hHeld ?_
          rotate_left
          · (intro w hSw; (try dsimp only at hSw); go_simp; try with_reducible rfl)
          simp only [Act.put, List.setIfInBounds_toArray, List.set_cons_zero, List.set_cons_succ]
          refine take_at (i := 1) 96 (v := ?_) rfl rfl (by kernel_rfl) (by kernel_rfl) (by kernel_rfl) (fun _ _ _ h => h) (by rfl) ?_ hHeld ?_
          rotate_left
          · (intro w hSw; (try dsimp only at hSw); go_simp; try with_reducible rfl)
          simp only [Act.put, List.setIfInBounds_toArray, List.set_cons_zero, List.set_cons_succ]
          refine take_at (i := 2) 97 (v := ?_) rfl rfl (by kernel_rfl) (by kernel_rfl) (by kernel_rfl) (fun _ _ _ h => h) (by rfl) ?_ hHeld ?_
          rotate_left
          · (intro w hSw; (try dsimp only at hSw); go_simp; try with_reducible rfl)
          simp only [Act.put, List.setIfInBounds_toArray, List.set_cons_zero, List.set_cons_succ]
          refine take_at (i := 3) 98 (v := ?_) rfl rfl (by kernel_rfl) (by kernel_rfl) (by kernel_rfl) (fun _ _ _ h => h) (by rfl) ?_ hHeld ?_
          rotate_left
          · (intro w hSw; (try dsimp only at hSw); go_simp; try with_reducible rfl)
          simp only [Act.put, List.setIfInBounds_toArray, List.set_cons_zero, List.set_cons_succ]
          refine take_at (i := 5) 100 (v := ?_) rfl rfl (by kernel_rfl) (by kernel_rfl) (by kernel_rfl) (fun _ _ _ h => h) (by rfl) ?_ hHeld ?_
          rotate_left
          · (intro w hSw; (try dsimp only at hSw); go_simp; try with_reducible rfl)
          simp only [Act.put, List.setIfInBounds_toArray, List.set_cons_zero, List.set_cons_succ]
          refine take_at (i := 6) 101 (v := ?_) rfl rfl (by kernel_rfl) (by kernel_rfl) (by kernel_rfl) (fun _ _ _ h => h) (by rfl) ?_ hHeld ?_
          rotate_left
          · (intro w hSw; (try dsimp only at hSw); go_simp; try with_reducible rfl)
          simp only [Act.put, List.setIfInBounds_toArray, List.set_cons_zero, List.set_cons_succ]
          refine take_at (i := 7) 102 (v := ?_) rfl rfl (by kernel_rfl) (by kernel_rfl) (by kernel_rfl) (fun _ _ _ h => h) (by rfl) ?_ hHeld ?_
          rotate_left
          · (intro w hSw; (try dsimp only at hSw); go_simp; try with_reducible rfl)
          simp only [Act.put, List.setIfInBounds_toArray, List.set_cons_zero, List.set_cons_succ]
          refine take_at (i := 9) 104 (v := ?_) rfl rfl (by kernel_rfl) (by kernel_rfl) (by kernel_rfl) (fun _ _ _ h => h) (by rfl) ?_ hHeld ?_
          rotate_left
          · (intro w hSw; (try dsimp only at hSw); go_simp; try with_reducible rfl)
          simp only [Act.put, List.setIfInBounds_toArray, List.set_cons_zero, List.set_cons_succ]
          refine take_at (i := 10) 105 (v := ?_) rfl rfl (by kernel_rfl) (by kernel_rfl) (by kernel_rfl) (fun _ _ _ h => h) (by rfl) ?_ hHeld ?_
          rotate_left
          · (intro w hSw; (try dsimp only at hSw); go_simp; try with_reducible rfl)
          simp only [Act.put, List.setIfInBounds_toArray, List.set_cons_zero, List.set_cons_succ]
          refine take_at (i := 11) 106 (v := ?_) rfl rfl (by kernel_rfl) (by kernel_rfl) (by kernel_rfl) (fun _ _ _ h => h) (by rfl) ?_ hHeld ?_
          rotate_left
          · (intro w hSw; (try dsimp only at hSw); go_simp; try with_reducible rfl)
          simp only [Act.put, List.setIfInBounds_toArray, List.set_cons_zero, List.set_cons_succ]
          refine take_at (i := 14) 109 (v := ?_) rfl rfl (by kernel_rfl) (by kernel_rfl) (by kernel_rfl) (fun _ _ _ h => h) (by rfl) ?_ hHeld ?_
          rotate_left
          · (intro w hSw; (try dsimp only at hSw); go_simp; try with_reducible rfl)
          simp only [Act.put, List.setIfInBounds_toArray, List.set_cons_zero, List.set_cons_succ]
          refine take_at (i := 15) 110 (v := ?_) rfl rfl (by kernel_rfl) (by kernel_rfl) (by kernel_rfl) (fun _ _ _ h => h) (by rfl) ?_ hHeld ?_
          rotate_left
          · (intro w hSw; (try dsimp only at hSw); go_simp; try with_reducible rfl)
          simp only [Act.put, List.setIfInBounds_toArray, List.set_cons_zero, List.set_cons_succ]
          refine take_at (i := 16) 111 (v := ?_) rfl rfl (by kernel_rfl) (by kernel_rfl) (by kernel_rfl) (fun _ _ _ h => h) (by rfl) ?_ hHeld ?_
          rotate_left
          · (intro w hSw; (try dsimp only at hSw); go_simp; try with_reducible rfl)
          simp only [Act.put, List.setIfInBounds_toArray, List.set_cons_zero, List.set_cons_succ]
          refine wpAnyH_ready (rs := [4, 8, 13]) (by kernel_rfl) (by simp) ?_
          refine AllReadyH.cons (o := _) rfl (fun K hK => ?_) ?_
          focus
            rw [if_pos (by rfl)]
            refine val_wp 99 (v := ?_) rfl ?_ ?_
            rotate_left
            · (go_simp; try with_reducible rfl)
            refine hK.out _ _ (by exact trivial) ?_
            clear hK K
            intro hHeld2
            clear hHeld
            have hHeld := hHeld2
            clear hHeld2
            simp only [Act.put, List.setIfInBounds_toArray, List.set_cons_zero, List.set_cons_succ]
            refine wpAnyH_ready (rs := [8, 13]) (by kernel_rfl) (by simp) ?_
            refine AllReadyH.cons (o := _) rfl (fun K hK => ?_) ?_
            focus
              rw [if_pos (by rfl)]
              simp only [List.getElem_toArray, List.getElem_cons_zero, List.getElem_cons_succ]
              go_simp
              go_wp2_with fail
              refine hK.out _ _ (by exact trivial) ?_
              clear hK K
              intro hHeld2
              clear hHeld
              have hHeld := hHeld2
              clear hHeld2
              try simp only [Act.put, List.setIfInBounds_toArray, List.set_cons_zero, List.set_cons_succ]
              (obtain ⟨u1, hu⟩ : ∃ X : World, X = u0.alloc (.cells #[] tRe) := ⟨_, rfl⟩; rw [← hu]; have HP1 : Hid (PairX wc u1 (.slice (some ⟨u0.heap.size, 0, none⟩) 0 0) [] (.slice none 0 0) []) := (by rw [hu]; exact HP0.out.lit); have hc1 : u1.cell? ⟨r, 1, none⟩ = some (.slice (some ⟨gr, 0, none⟩) N cap) := HCL.out u1 HP1.out.bel; clear hu HP0 hc0)
              refine wpAnyH_ready (rs := [12, 13]) (by kernel_rfl) (by simp) ?_
              refine AllReadyH.cons (o := _) rfl (fun K hK => ?_) ?_
              focus
                rw [if_pos (by rfl)]
                simp only [List.getElem_toArray, List.getElem_cons_zero, List.getElem_cons_succ]
                (refine wpo_appX _ _ rfl HP1.out (L9.take K9) (by rfl) b6 0 K9 _ HKA.out (by rfl) HRA.out HLA.out ?_; intro p2 q2 u2 hp9; have HP2 : Hid (PairX wc u2 (.slice p2 K9 q2) (L9.take K9) (.slice none 0 0) []) := hp9; have hc2 : u2.cell? ⟨r, 1, none⟩ = some (.slice (some ⟨gr, 0, none⟩) N cap) := HCL.out u2 HP2.out.bel; clear hp9 HP1 hc1)
                refine hK.out _ _ (by exact trivial) ?_
                clear hK K
                intro hHeld2
                clear hHeld
                have hHeld := hHeld2
                clear hHeld2
                try simp only [Act.put, List.setIfInBounds_toArray, List.set_cons_zero, List.set_cons_succ]
                refine run_at (i := 13) rfl (by kernel_rfl) (by rfl) (fun K hK => ?_)
                simp only [List.getElem_toArray, List.getElem_cons_zero, List.getElem_cons_succ]
                go_simp
                go_wp2_with fail
                refine hK.out _ _ (by exact trivial) ?_
                clear hK K
                intro hHeld2
                clear hHeld
                have hHeld := hHeld2
                clear hHeld2
                try simp only [Act.put, List.setIfInBounds_toArray, List.set_cons_zero, List.set_cons_succ]
                (obtain ⟨u3, hu⟩ : ∃ X : World, X = u2.alloc (.cells #[] tRe) := ⟨_, rfl⟩; rw [← hu]; have HP3 : Hid (PairX wc u3 (.slice p2 K9 q2) (L9.take K9) (.slice (some ⟨u2.heap.size, 0, none⟩) 0 0) []) := (by rw [hu]; exact HP2.out.litB); have hc3 : u3.cell? ⟨r, 1, none⟩ = some (.slice (some ⟨gr, 0, none⟩) N cap) := HCL.out u3 HP3.out.bel; clear hu HP2 hc2)
                refine run_at (i := 17) rfl (by kernel_rfl) (by rfl) (fun K hK => ?_)
                simp only [List.getElem_toArray, List.getElem_cons_zero, List.getElem_cons_succ]
                (refine wpo_appXB _ _ rfl HP3.out (L9.drop K9) (by rfl) b6 (K9 * 3) (T6 - K9) _ HKB.out (by rfl) HRB.out HLB.out ?_; intro p4 q4 u4 hp9; have HP4 : Hid (PairX wc u4 (.slice p2 K9 q2) (L9.take K9) (.slice p4 (T6 - K9) q4) (L9.drop K9)) := hp9; have hc4 : u4.cell? ⟨r, 1, none⟩ = some (.slice (some ⟨gr, 0, none⟩) N cap) := HCL.out u4 HP4.out.bel; clear hp9 HP3 hc3)
                refine hK.out _ _ (by exact trivial) ?_
                clear hK K
                intro hHeld2
                clear hHeld
                have hHeld := hHeld2
                clear hHeld2
                try simp only [Act.put, List.setIfInBounds_toArray, List.set_cons_zero, List.set_cons_succ]
                refine run_at (i := 18) rfl (by kernel_rfl) (by rfl) (fun K hK => ?_)
                simp only [List.getElem_toArray, List.getElem_cons_zero, List.getElem_cons_succ]
                go_simp
                go_wp2_with fail
                refine hK.out _ _ (by exact trivial) ?_
                clear hK K
                intro hHeld2
                clear hHeld
                have hHeld := hHeld2
                clear hHeld2
                try simp only [Act.put, List.setIfInBounds_toArray, List.set_cons_zero, List.set_cons_succ]
                (obtain ⟨u5, hu⟩ : ∃ X : World, X = u4.alloc (.cells #[.slice p2 K9 q2, .slice p4 (T6 - K9) q4] tRs) := ⟨_, rfl⟩; rw [← hu]; have HU5 : Hid (u5 = u4.alloc (.cells #[.slice p2 K9 q2, .slice p4 (T6 - K9) q4] tRs)) := hu; have hc5 : u5.cell? ⟨r, 1, none⟩ = some (.slice (some ⟨gr, 0, none⟩) N cap) := HCL.out u5 (by rw [hu]; exact below_next HP4.out.bel (al (Below.refl _ _) _)); clear hu hc4)
                refine run_at (i := 19) rfl (by kernel_rfl) (by rfl) (fun K hK => ?_)
                simp only [List.getElem_toArray, List.getElem_cons_zero, List.getElem_cons_succ]
                (go_simp; (try simp only [hwp]); go_at_call 54; refine Calls.mono (HRW.out u4 u5 (.slice p2 K9 q2) (.slice p4 (T6 - K9) q4) HP4.out HU5.out) ?_; rintro e uz ⟨v9, rfl, hrow, hb9⟩; obtain ⟨a9, c9, hv9⟩ := rowS_sl hrow; obtain ⟨R9, hR9⟩ : ∃ R9, R9 = (repL vs p (p + 1) [.slice p2 K9 q2, .slice p4 (T6 - K9) q4]).length := ⟨_, rfl⟩; rw [← hR9] at hv9; obtain ⟨hc9, hf9, h99⟩ := HFN.out u4 u5 uz (.slice p2 K9 q2) (.slice p4 (T6 - K9) q4) HP4.out HU5.out hb9 v9 hrow; subst hv9; have HF9 : Hid _ := h99; clear h99 hrow hb9 hR9 HP4 HU5; go_wp2_with fail)
                refine hK.out _ _ (by exact trivial) ?_
                clear hK K
                intro hHeld2
                clear hHeld
                have hHeld := hHeld2
                clear hHeld2
                try simp only [Act.put, List.setIfInBounds_toArray, List.set_cons_zero, List.set_cons_succ]
                refine take_at (i := 20) 115 (v := ?_) rfl rfl (by kernel_rfl) (by kernel_rfl) (by kernel_rfl) (fun _ _ _ h => h) (by rfl) ?_ hHeld ?_
                rotate_left
                · (intro w hSw; (try dsimp only at hSw); go_simp; try with_reducible rfl)
                simp only [Act.put, List.setIfInBounds_toArray, List.set_cons_zero, List.set_cons_succ]
                refine take_at (i := 21) 116 (v := ?_) rfl rfl (by kernel_rfl) (by kernel_rfl) (by kernel_rfl) (fun _ _ _ h => h) (by rfl) ?_ hHeld ?_
                rotate_left
                · (intro w hSw; (try dsimp only at hSw); go_simp; try with_reducible rfl)
                simp only [Act.put, List.setIfInBounds_toArray, List.set_cons_zero, List.set_cons_succ]
                refine run_at (i := 22) rfl (by kernel_rfl) (by rfl) (fun K hK => ?_)
                simp only [List.getElem_toArray, List.getElem_cons_zero, List.getElem_cons_succ]
                go_simp
                go_wp2_with fail
                refine hK.out _ _ (by exact trivial) ?_
                clear hK K
                intro hHeld2
                clear hHeld
                have hHeld := hHeld2
                clear hHeld2
                try simp only [Act.put, List.setIfInBounds_toArray, List.set_cons_zero, List.set_cons_succ]
                refine wpAnyH_done (by kernel_rfl) ?_ _
              rotate_left 1
              refine AllReadyH.cons (o := _) rfl (fun K hK => ?_) AllReadyH.nil
              focus
                rw [if_pos (by rfl)]
                simp only [List.getElem_toArray, List.getElem_cons_zero, List.getElem_cons_succ]
                go_simp
                go_wp2_with fail
                refine hK.out _ _ (by exact trivial) ?_
                clear hK K
                intro hHeld2
                clear hHeld
                have hHeld := hHeld2
                clear hHeld2
                try simp only [Act.put, List.setIfInBounds_toArray, List.set_cons_zero, List.set_cons_succ]
                (obtain ⟨u6, hu⟩ : ∃ X : World, X = u1.alloc (.cells #[] tRe) := ⟨_, rfl⟩; rw [← hu]; have HP6 : Hid (PairX wc u6 (.slice (some ⟨u0.heap.size, 0, none⟩) 0 0) [] (.slice (some ⟨u1.heap.size, 0, none⟩) 0 0) []) := (by rw [hu]; exact HP1.out.litB); have hc6 : u6.cell? ⟨r, 1, none⟩ = some (.slice (some ⟨gr, 0, none⟩) N cap) := HCL.out u6 HP6.out.bel; clear hu HP1 hc1)
                refine run_at (i := 12) rfl (by kernel_rfl) (by rfl) (fun K hK => ?_)
                simp only [List.getElem_toArray, List.getElem_cons_zero, List.getElem_cons_succ]
                (refine wpo_appX _ _ rfl HP6.out (L9.take K9) (by rfl) b6 0 K9 _ HKA.out (by rfl) HRA.out HLA.out ?_; intro p7 q7 u7 hp9; have HP7 : Hid (PairX wc u7 (.slice p7 K9 q7) (L9.take K9) (.slice (some ⟨u1.heap.size, 0, none⟩) 0 0) []) := hp9; have hc7 : u7.cell? ⟨r, 1, none⟩ = some (.slice (some ⟨gr, 0, none⟩) N cap) := HCL.out u7 HP7.out.bel; clear hp9 HP6 hc6)
                refine hK.out _ _ (by exact trivial) ?_
                clear hK K
                intro hHeld2
                clear hHeld
                have hHeld := hHeld2
                clear hHeld2
                try simp only [Act.put, List.setIfInBounds_toArray, List.set_cons_zero, List.set_cons_succ]
                refine run_at (i := 17) rfl (by kernel_rfl) (by rfl) (fun K hK => ?_)
                simp only [List.getElem_toArray, List.getElem_cons_zero, List.getElem_cons_succ]
                (refine wpo_appXB _ _ rfl HP7.out (L9.drop K9) (by rfl) b6 (K9 * 3) (T6 - K9) _ HKB.out (by rfl) HRB.out HLB.out ?_; intro p8 q8 u8 hp9; have HP8 : Hid (PairX wc u8 (.slice p7 K9 q7) (L9.take K9) (.slice p8 (T6 - K9) q8) (L9.drop K9)) := hp9; have hc8 : u8.cell? ⟨r, 1, none⟩ = some (.slice (some ⟨gr, 0, none⟩) N cap) := HCL.out u8 HP8.out.bel; clear hp9 HP7 hc7)
                refine hK.out _ _ (by exact trivial) ?_
                clear hK K
                intro hHeld2
                clear hHeld
                have hHeld := hHeld2
                clear hHeld2
                try simp only [Act.put, List.setIfInBounds_toArray, List.set_cons_zero, List.set_cons_succ]
                refine run_at (i := 18) rfl (by kernel_rfl) (by rfl) (fun K hK => ?_)
                simp only [List.getElem_toArray, List.getElem_cons_zero, List.getElem_cons_succ]
                go_simp
                go_wp2_with fail
                refine hK.out _ _ (by exact trivial) ?_
                clear hK K
                intro hHeld2
                clear hHeld
                have hHeld := hHeld2
                clear hHeld2
                try simp only [Act.put, List.setIfInBounds_toArray, List.set_cons_zero, List.set_cons_succ]
                (obtain ⟨u9, hu⟩ : ∃ X : World, X = u8.alloc (.cells #[.slice p7 K9 q7, .slice p8 (T6 - K9) q8] tRs) := ⟨_, rfl⟩; rw [← hu]; have HU9 : Hid (u9 = u8.alloc (.cells #[.slice p7 K9 q7, .slice p8 (T6 - K9) q8] tRs)) := hu; have hc9 : u9.cell? ⟨r, 1, none⟩ = some (.slice (some ⟨gr, 0, none⟩) N cap) := HCL.out u9 (by rw [hu]; exact below_next HP8.out.bel (al (Below.refl _ _) _)); clear hu hc8)
                refine run_at (i := 19) rfl (by kernel_rfl) (by rfl) (fun K hK => ?_)
                simp only [List.getElem_toArray, List.getElem_cons_zero, List.getElem_cons_succ]
                (go_simp; (try simp only [hwp]); go_at_call 54; refine Calls.mono (HRW.out u8 u9 (.slice p7 K9 q7) (.slice p8 (T6 - K9) q8) HP8.out HU9.out) ?_; rintro e uz ⟨v9, rfl, hrow, hb9⟩; obtain ⟨a9, c9, hv9⟩ := rowS_sl hrow; obtain ⟨R9, hR9⟩ : ∃ R9, R9 = (repL vs p (p + 1) [.slice p7 K9 q7, .slice p8 (T6 - K9) q8]).length := ⟨_, rfl⟩; rw [← hR9] at hv9; obtain ⟨hc9, hf9, h99⟩ := HFN.out u8 u9 uz (.slice p7 K9 q7) (.slice p8 (T6 - K9) q8) HP8.out HU9.out hb9 v9 hrow; subst hv9; have HF9 : Hid _ := h99; clear h99 hrow hb9 hR9 HP8 HU9; go_wp2_with fail)
                refine hK.out _ _ (by exact trivial) ?_
                clear hK K
                intro hHeld2
                clear hHeld
                have hHeld := hHeld2
                clear hHeld2
                try simp only [Act.put, List.setIfInBounds_toArray, List.set_cons_zero, List.set_cons_succ]
                refine take_at (i := 20) 115 (v := ?_) rfl rfl (by kernel_rfl) (by kernel_rfl) (by kernel_rfl) (fun _ _ _ h => h) (by rfl) ?_ hHeld ?_
                rotate_left
                · (intro w hSw; (try dsimp only at hSw); go_simp; try with_reducible rfl)
                simp only [Act.put, List.setIfInBounds_toArray, List.set_cons_zero, List.set_cons_succ]
                refine take_at (i := 21) 116 (v := ?_) rfl rfl (by kernel_rfl) (by kernel_rfl) (by kernel_rfl) (fun _ _ _ h => h) (by rfl) ?_ hHeld ?_
                rotate_left
                · (intro w hSw; (try dsimp only at hSw); go_simp; try with_reducible rfl)
                simp only [Act.put, List.setIfInBounds_toArray, List.set_cons_zero, List.set_cons_succ]
                refine run_at (i := 22) rfl (by kernel_rfl) (by rfl) (fun K hK => ?_)
                simp only [List.getElem_toArray, List.getElem_cons_zero, List.getElem_cons_succ]
                go_simp
                go_wp2_with fail
                refine hK.out _ _ (by exact trivial) ?_
                clear hK K
                intro hHeld2
                clear hHeld
                have hHeld := hHeld2
                clear hHeld2
                try simp only [Act.put, List.setIfInBounds_toArray, List.set_cons_zero, List.set_cons_succ]
                refine wpAnyH_done (by kernel_rfl) ?_ _
            rotate_left 2
            refine AllReadyH.cons (o := _) rfl (fun K hK => ?_) AllReadyH.nil
            focus
              rw [if_pos (by rfl)]
              simp only [List.getElem_toArray, List.getElem_cons_zero, List.getElem_cons_succ]
              go_simp
              go_wp2_with fail
              refine hK.out _ _ (by exact trivial) ?_
              clear hK K
              intro hHeld2
              clear hHeld
              have hHeld := hHeld2
              clear hHeld2
              try simp only [Act.put, List.setIfInBounds_toArray, List.set_cons_zero, List.set_cons_succ]
              (obtain ⟨u10, hu⟩ : ∃ X : World, X = u0.alloc (.cells #[] tRe) := ⟨_, rfl⟩; rw [← hu]; have HP10 : Hid (PairX wc u10 (.slice none 0 0) [] (.slice (some ⟨u0.heap.size, 0, none⟩) 0 0) []) := (by rw [hu]; exact HP0.out.litB); have hc10 : u10.cell? ⟨r, 1, none⟩ = some (.slice (some ⟨gr, 0, none⟩) N cap) := HCL.out u10 HP10.out.bel; clear hu HP0 hc0)
              refine run_at (i := 8) rfl (by kernel_rfl) (by rfl) (fun K hK => ?_)
              simp only [List.getElem_toArray, List.getElem_cons_zero, List.getElem_cons_succ]
              go_simp
              go_wp2_with fail
              refine hK.out _ _ (by exact trivial) ?_
              clear hK K
              intro hHeld2
              clear hHeld
              have hHeld := hHeld2
              clear hHeld2
              try simp only [Act.put, List.setIfInBounds_toArray, List.set_cons_zero, List.set_cons_succ]
              (obtain ⟨u11, hu⟩ : ∃ X : World, X = u10.alloc (.cells #[] tRe) := ⟨_, rfl⟩; rw [← hu]; have HP11 : Hid (PairX wc u11 (.slice (some ⟨u10.heap.size, 0, none⟩) 0 0) [] (.slice (some ⟨u0.heap.size, 0, none⟩) 0 0) []) := (by rw [hu]; exact HP10.out.lit); have hc11 : u11.cell? ⟨r, 1, none⟩ = some (.slice (some ⟨gr, 0, none⟩) N cap) := HCL.out u11 HP11.out.bel; clear hu HP10 hc10)
              refine run_at (i := 12) rfl (by kernel_rfl) (by rfl) (fun K hK => ?_)
              simp only [List.getElem_toArray, List.getElem_cons_zero, List.getElem_cons_succ]
              (refine wpo_appX _ _ rfl HP11.out (L9.take K9) (by rfl) b6 0 K9 _ HKA.out (by rfl) HRA.out HLA.out ?_; intro p12 q12 u12 hp9; have HP12 : Hid (PairX wc u12 (.slice p12 K9 q12) (L9.take K9) (.slice (some ⟨u0.heap.size, 0, none⟩) 0 0) []) := hp9; have hc12 : u12.cell? ⟨r, 1, none⟩ = some (.slice (some ⟨gr, 0, none⟩) N cap) := HCL.out u12 HP12.out.bel; clear hp9 HP11 hc11)
              refine hK.out _ _ (by exact trivial) ?_
              clear hK K
              intro hHeld2
              clear hHeld
              have hHeld := hHeld2
              clear hHeld2
              try simp only [Act.put, List.setIfInBounds_toArray, List.set_cons_zero, List.set_cons_succ]
              refine run_at (i := 17) rfl (by kernel_rfl) (by rfl) (fun K hK => ?_)
              simp only [List.getElem_toArray, List.getElem_cons_zero, List.getElem_cons_succ]
              (refine wpo_appXB _ _ rfl HP12.out (L9.drop K9) (by rfl) b6 (K9 * 3) (T6 - K9) _ HKB.out (by rfl) HRB.out HLB.out ?_; intro p13 q13 u13 hp9; have HP13 : Hid (PairX wc u13 (.slice p12 K9 q12) (L9.take K9) (.slice p13 (T6 - K9) q13) (L9.drop K9)) := hp9; have hc13 : u13.cell? ⟨r, 1, none⟩ = some (.slice (some ⟨gr, 0, none⟩) N cap) := HCL.out u13 HP13.out.bel; clear hp9 HP12 hc12)
              refine hK.out _ _ (by exact trivial) ?_
              clear hK K
              intro hHeld2
              clear hHeld
              have hHeld := hHeld2
              clear hHeld2
              try simp only [Act.put, List.setIfInBounds_toArray, List.set_cons_zero, List.set_cons_succ]
              refine run_at (i := 18) rfl (by kernel_rfl) (by rfl) (fun K hK => ?_)
              simp only [List.getElem_toArray, List.getElem_cons_zero, List.getElem_cons_succ]
              go_simp
              go_wp2_with fail
              refine hK.out _ _ (by exact trivial) ?_
              clear hK K
              intro hHeld2
              clear hHeld
              have hHeld := hHeld2
              clear hHeld2
              try simp only [Act.put, List.setIfInBounds_toArray, List.set_cons_zero, List.set_cons_succ]
              (obtain ⟨u14, hu⟩ : ∃ X : World, X = u13.alloc (.cells #[.slice p12 K9 q12, .slice p13 (T6 - K9) q13] tRs) := ⟨_, rfl⟩; rw [← hu]; have HU14 : Hid (u14 = u13.alloc (.cells #[.slice p12 K9 q12, .slice p13 (T6 - K9) q13] tRs)) := hu; have hc14 : u14.cell? ⟨r, 1, none⟩ = some (.slice (some ⟨gr, 0, none⟩) N cap) := HCL.out u14 (by rw [hu]; exact below_next HP13.out.bel (al (Below.refl _ _) _)); clear hu hc13)
              refine run_at (i := 19) rfl (by kernel_rfl) (by rfl) (fun K hK => ?_)
              simp only [List.getElem_toArray, List.getElem_cons_zero, List.getElem_cons_succ]
              (go_simp; (try simp only [hwp]); go_at_call 54; refine Calls.mono (HRW.out u13 u14 (.slice p12 K9 q12) (.slice p13 (T6 - K9) q13) HP13.out HU14.out) ?_; rintro e uz ⟨v9, rfl, hrow, hb9⟩; obtain ⟨a9, c9, hv9⟩ := rowS_sl hrow; obtain ⟨R9, hR9⟩ : ∃ R9, R9 = (repL vs p (p + 1) [.slice p12 K9 q12, .slice p13 (T6 - K9) q13]).length := ⟨_, rfl⟩; rw [← hR9] at hv9; obtain ⟨hc9, hf9, h99⟩ := HFN.out u13 u14 uz (.slice p12 K9 q12) (.slice p13 (T6 - K9) q13) HP13.out HU14.out hb9 v9 hrow; subst hv9; have HF9 : Hid _ := h99; clear h99 hrow hb9 hR9 HP13 HU14; go_wp2_with fail)
              refine hK.out _ _ (by exact trivial) ?_
              clear hK K
              intro hHeld2
              clear hHeld
              have hHeld := hHeld2
              clear hHeld2
              try simp only [Act.put, List.setIfInBounds_toArray, List.set_cons_zero, List.set_cons_succ]
              refine take_at (i := 20) 115 (v := ?_) rfl rfl (by kernel_rfl) (by kernel_rfl) (by kernel_rfl) (fun _ _ _ h => h) (by rfl) ?_ hHeld ?_
              rotate_left
              · (intro w hSw; (try dsimp only at hSw); go_simp; try with_reducible rfl)
              simp only [Act.put, List.setIfInBounds_toArray, List.set_cons_zero, List.set_cons_succ]
              refine take_at (i := 21) 116 (v := ?_) rfl rfl (by kernel_rfl) (by kernel_rfl) (by kernel_rfl) (fun _ _ _ h => h) (by rfl) ?_ hHeld ?_
              rotate_left
              · (intro w hSw; (try dsimp only at hSw); go_simp; try with_reducible rfl)
              simp only [Act.put, List.setIfInBounds_toArray, List.set_cons_zero, List.set_cons_succ]
              refine run_at (i := 22) rfl (by kernel_rfl) (by rfl) (fun K hK => ?_)
              simp only [List.getElem_toArray, List.getElem_cons_zero, List.getElem_cons_succ]
              go_simp
              go_wp2_with fail
              refine hK.out _ _ (by exact trivial) ?_
              clear hK K
              intro hHeld2
              clear hHeld
              have hHeld := hHeld2
              clear hHeld2
              try simp only [Act.put, List.setIfInBounds_toArray, List.set_cons_zero, List.set_cons_succ]
              refine wpAnyH_done (by kernel_rfl) ?_ _
          rotate_left 3
          refine AllReadyH.cons (o := _) rfl (fun K hK => ?_) ?_
          focus
            rw [if_pos (by rfl)]
            simp only [List.getElem_toArray, List.getElem_cons_zero, List.getElem_cons_succ]
            go_simp
            go_wp2_with fail
            refine hK.out _ _ (by exact trivial) ?_
            clear hK K
            intro hHeld2
            clear hHeld
            have hHeld := hHeld2
            clear hHeld2
            try simp only [Act.put, List.setIfInBounds_toArray, List.set_cons_zero, List.set_cons_succ]
            (obtain ⟨u15, hu⟩ : ∃ X : World, X = u0.alloc (.cells #[] tRe) := ⟨_, rfl⟩; rw [← hu]; have HP15 : Hid (PairX wc u15 (.slice (some ⟨u0.heap.size, 0, none⟩) 0 0) [] (.slice none 0 0) []) := (by rw [hu]; exact HP0.out.lit); have hc15 : u15.cell? ⟨r, 1, none⟩ = some (.slice (some ⟨gr, 0, none⟩) N cap) := HCL.out u15 HP15.out.bel; clear hu HP0 hc0)
            refine wpAnyH_ready (rs := [4, 12, 13]) (by kernel_rfl) (by simp) ?_
            refine AllReadyH.cons (o := _) rfl (fun K hK => ?_) ?_
            focus
              rw [if_pos (by rfl)]
              refine val_wp 99 (v := ?_) rfl ?_ ?_
              rotate_left
              · (go_simp; try with_reducible rfl)
              refine hK.out _ _ (by exact trivial) ?_
              clear hK K
              intro hHeld2
              clear hHeld
              have hHeld := hHeld2
              clear hHeld2
              simp only [Act.put, List.setIfInBounds_toArray, List.set_cons_zero, List.set_cons_succ]
              refine wpAnyH_ready (rs := [12, 13]) (by kernel_rfl) (by simp) ?_
              refine AllReadyH.cons (o := _) rfl (fun K hK => ?_) ?_
              focus
                rw [if_pos (by rfl)]
                simp only [List.getElem_toArray, List.getElem_cons_zero, List.getElem_cons_succ]
                (refine wpo_appX _ _ rfl HP15.out (L9.take K9) (by rfl) b6 0 K9 _ HKA.out (by rfl) HRA.out HLA.out ?_; intro p16 q16 u16 hp9; have HP16 : Hid (PairX wc u16 (.slice p16 K9 q16) (L9.take K9) (.slice none 0 0) []) := hp9; have hc16 : u16.cell? ⟨r, 1, none⟩ = some (.slice (some ⟨gr, 0, none⟩) N cap) := HCL.out u16 HP16.out.bel; clear hp9 HP15 hc15)
                refine hK.out _ _ (by exact trivial) ?_
                clear hK K
                intro hHeld2
                clear hHeld
                have hHeld := hHeld2
                clear hHeld2
                try simp only [Act.put, List.setIfInBounds_toArray, List.set_cons_zero, List.set_cons_succ]
                refine run_at (i := 13) rfl (by kernel_rfl) (by rfl) (fun K hK => ?_)
                simp only [List.getElem_toArray, List.getElem_cons_zero, List.getElem_cons_succ]
                go_simp
                go_wp2_with fail
                refine hK.out _ _ (by exact trivial) ?_
                clear hK K
                intro hHeld2
                clear hHeld
                have hHeld := hHeld2
                clear hHeld2
                try simp only [Act.put, List.setIfInBounds_toArray, List.set_cons_zero, List.set_cons_succ]
                (obtain ⟨u17, hu⟩ : ∃ X : World, X = u16.alloc (.cells #[] tRe) := ⟨_, rfl⟩; rw [← hu]; have HP17 : Hid (PairX wc u17 (.slice p16 K9 q16) (L9.take K9) (.slice (some ⟨u16.heap.size, 0, none⟩) 0 0) []) := (by rw [hu]; exact HP16.out.litB); have hc17 : u17.cell? ⟨r, 1, none⟩ = some (.slice (some ⟨gr, 0, none⟩) N cap) := HCL.out u17 HP17.out.bel; clear hu HP16 hc16)
                refine run_at (i := 17) rfl (by kernel_rfl) (by rfl) (fun K hK => ?_)
                simp only [List.getElem_toArray, List.getElem_cons_zero, List.getElem_cons_succ]
                (refine wpo_appXB _ _ rfl HP17.out (L9.drop K9) (by rfl) b6 (K9 * 3) (T6 - K9) _ HKB.out (by rfl) HRB.out HLB.out ?_; intro p18 q18 u18 hp9; have HP18 : Hid (PairX wc u18 (.slice p16 K9 q16) (L9.take K9) (.slice p18 (T6 - K9) q18) (L9.drop K9)) := hp9; have hc18 : u18.cell? ⟨r, 1, none⟩ = some (.slice (some ⟨gr, 0, none⟩) N cap) := HCL.out u18 HP18.out.bel; clear hp9 HP17 hc17)
                refine hK.out _ _ (by exact trivial) ?_
                clear hK K
                intro hHeld2
                clear hHeld
                have hHeld := hHeld2
                clear hHeld2
                try simp only [Act.put, List.setIfInBounds_toArray, List.set_cons_zero, List.set_cons_succ]
                refine run_at (i := 18) rfl (by kernel_rfl) (by rfl) (fun K hK => ?_)
                simp only [List.getElem_toArray, List.getElem_cons_zero, List.getElem_cons_succ]
                go_simp
                go_wp2_with fail
                refine hK.out _ _ (by exact trivial) ?_
                clear hK K
                intro hHeld2
                clear hHeld
                have hHeld := hHeld2
                clear hHeld2
                try simp only [Act.put, List.setIfInBounds_toArray, List.set_cons_zero, List.set_cons_succ]
                (obtain ⟨u19, hu⟩ : ∃ X : World, X = u18.alloc (.cells #[.slice p16 K9 q16, .slice p18 (T6 - K9) q18] tRs) := ⟨_, rfl⟩; rw [← hu]; have HU19 : Hid (u19 = u18.alloc (.cells #[.slice p16 K9 q16, .slice p18 (T6 - K9) q18] tRs)) := hu; have hc19 : u19.cell? ⟨r, 1, none⟩ = some (.slice (some ⟨gr, 0, none⟩) N cap) := HCL.out u19 (by rw [hu]; exact below_next HP18.out.bel (al (Below.refl _ _) _)); clear hu hc18)
                refine run_at (i := 19) rfl (by kernel_rfl) (by rfl) (fun K hK => ?_)
                simp only [List.getElem_toArray, List.getElem_cons_zero, List.getElem_cons_succ]
                (go_simp; (try simp only [hwp]); go_at_call 54; refine Calls.mono (HRW.out u18 u19 (.slice p16 K9 q16) (.slice p18 (T6 - K9) q18) HP18.out HU19.out) ?_; rintro e uz ⟨v9, rfl, hrow, hb9⟩; obtain ⟨a9, c9, hv9⟩ := rowS_sl hrow; obtain ⟨R9, hR9⟩ : ∃ R9, R9 = (repL vs p (p + 1) [.slice p16 K9 q16, .slice p18 (T6 - K9) q18]).length := ⟨_, rfl⟩; rw [← hR9] at hv9; obtain ⟨hc9, hf9, h99⟩ := HFN.out u18 u19 uz (.slice p16 K9 q16) (.slice p18 (T6 - K9) q18) HP18.out HU19.out hb9 v9 hrow; subst hv9; have HF9 : Hid _ := h99; clear h99 hrow hb9 hR9 HP18 HU19; go_wp2_with fail)
                refine hK.out _ _ (by exact trivial) ?_
                clear hK K
                intro hHeld2
                clear hHeld
                have hHeld := hHeld2
                clear hHeld2
                try simp only [Act.put, List.setIfInBounds_toArray, List.set_cons_zero, List.set_cons_succ]
                refine take_at (i := 20) 115 (v := ?_) rfl rfl (by kernel_rfl) (by kernel_rfl) (by kernel_rfl) (fun _ _ _ h => h) (by rfl) ?_ hHeld ?_
                rotate_left
                · (intro w hSw; (try dsimp only at hSw); go_simp; try with_reducible rfl)
                simp only [Act.put, List.setIfInBounds_toArray, List.set_cons_zero, List.set_cons_succ]
                refine take_at (i := 21) 116 (v := ?_) rfl rfl (by kernel_rfl) (by kernel_rfl) (by kernel_rfl) (fun _ _ _ h => h) (by rfl) ?_ hHeld ?_
                rotate_left
                · (intro w hSw; (try dsimp only at hSw); go_simp; try with_reducible rfl)
                simp only [Act.put, List.setIfInBounds_toArray, List.set_cons_zero, List.set_cons_succ]
                refine run_at (i := 22) rfl (by kernel_rfl) (by rfl) (fun K hK => ?_)
                simp only [List.getElem_toArray, List.getElem_cons_zero, List.getElem_cons_succ]
                go_simp
                go_wp2_with fail
                refine hK.out _ _ (by exact trivial) ?_
                clear hK K
                intro hHeld2
                clear hHeld
                have hHeld := hHeld2
                clear hHeld2
                try simp only [Act.put, List.setIfInBounds_toArray, List.set_cons_zero, List.set_cons_succ]
                refine wpAnyH_done (by kernel_rfl) ?_ _
              rotate_left 1
              refine AllReadyH.cons (o := _) rfl (fun K hK => ?_) AllReadyH.nil
              focus
                rw [if_pos (by rfl)]
                simp only [List.getElem_toArray, List.getElem_cons_zero, List.getElem_cons_succ]
                go_simp
                go_wp2_with fail
                refine hK.out _ _ (by exact trivial) ?_
                clear hK K
                intro hHeld2
                clear hHeld
                have hHeld := hHeld2
                clear hHeld2
                try simp only [Act.put, List.setIfInBounds_toArray, List.set_cons_zero, List.set_cons_succ]
                (obtain ⟨u20, hu⟩ : ∃ X : World, X = u15.alloc (.cells #[] tRe) := ⟨_, rfl⟩; rw [← hu]; have HP20 : Hid (PairX wc u20 (.slice (some ⟨u0.heap.size, 0, none⟩) 0 0) [] (.slice (some ⟨u15.heap.size, 0, none⟩) 0 0) []) := (by rw [hu]; exact HP15.out.litB); have hc20 : u20.cell? ⟨r, 1, none⟩ = some (.slice (some ⟨gr, 0, none⟩) N cap) := HCL.out u20 HP20.out.bel; clear hu HP15 hc15)
                refine run_at (i := 12) rfl (by kernel_rfl) (by rfl) (fun K hK => ?_)
                simp only [List.getElem_toArray, List.getElem_cons_zero, List.getElem_cons_succ]
                (refine wpo_appX _ _ rfl HP20.out (L9.take K9) (by rfl) b6 0 K9 _ HKA.out (by rfl) HRA.out HLA.out ?_; intro p21 q21 u21 hp9; have HP21 : Hid (PairX wc u21 (.slice p21 K9 q21) (L9.take K9) (.slice (some ⟨u15.heap.size, 0, none⟩) 0 0) []) := hp9; have hc21 : u21.cell? ⟨r, 1, none⟩ = some (.slice (some ⟨gr, 0, none⟩) N cap) := HCL.out u21 HP21.out.bel; clear hp9 HP20 hc20)
                refine hK.out _ _ (by exact trivial) ?_
                clear hK K
                intro hHeld2
                clear hHeld
                have hHeld := hHeld2
                clear hHeld2
                try simp only [Act.put, List.setIfInBounds_toArray, List.set_cons_zero, List.set_cons_succ]
                refine run_at (i := 17) rfl (by kernel_rfl) (by rfl) (fun K hK => ?_)
                simp only [List.getElem_toArray, List.getElem_cons_zero, List.getElem_cons_succ]
                (refine wpo_appXB _ _ rfl HP21.out (L9.drop K9) (by rfl) b6 (K9 * 3) (T6 - K9) _ HKB.out (by rfl) HRB.out HLB.out ?_; intro p22 q22 u22 hp9; have HP22 : Hid (PairX wc u22 (.slice p21 K9 q21) (L9.take K9) (.slice p22 (T6 - K9) q22) (L9.drop K9)) := hp9; have hc22 : u22.cell? ⟨r, 1, none⟩ = some (.slice (some ⟨gr, 0, none⟩) N cap) := HCL.out u22 HP22.out.bel; clear hp9 HP21 hc21)
                refine hK.out _ _ (by exact trivial) ?_
                clear hK K
                intro hHeld2
                clear hHeld
                have hHeld := hHeld2
                clear hHeld2
                try simp only [Act.put, List.setIfInBounds_toArray, List.set_cons_zero, List.set_cons_succ]
                refine run_at (i := 18) rfl (by kernel_rfl) (by rfl) (fun K hK => ?_)
                simp only [List.getElem_toArray, List.getElem_cons_zero, List.getElem_cons_succ]
                go_simp
                go_wp2_with fail
                refine hK.out _ _ (by exact trivial) ?_
                clear hK K
                intro hHeld2
                clear hHeld
                have hHeld := hHeld2
                clear hHeld2
                try simp only [Act.put, List.setIfInBounds_toArray, List.set_cons_zero, List.set_cons_succ]
                (obtain ⟨u23, hu⟩ : ∃ X : World, X = u22.alloc (.cells #[.slice p21 K9 q21, .slice p22 (T6 - K9) q22] tRs) := ⟨_, rfl⟩; rw [← hu]; have HU23 : Hid (u23 = u22.alloc (.cells #[.slice p21 K9 q21, .slice p22 (T6 - K9) q22] tRs)) := hu; have hc23 : u23.cell? ⟨r, 1, none⟩ = some (.slice (some ⟨gr, 0, none⟩) N cap) := HCL.out u23 (by rw [hu]; exact below_next HP22.out.bel (al (Below.refl _ _) _)); clear hu hc22)
                refine run_at (i := 19) rfl (by kernel_rfl) (by rfl) (fun K hK => ?_)
                simp only [List.getElem_toArray, List.getElem_cons_zero, List.getElem_cons_succ]
                (go_simp; (try simp only [hwp]); go_at_call 54; refine Calls.mono (HRW.out u22 u23 (.slice p21 K9 q21) (.slice p22 (T6 - K9) q22) HP22.out HU23.out) ?_; rintro e uz ⟨v9, rfl, hrow, hb9⟩; obtain ⟨a9, c9, hv9⟩ := rowS_sl hrow; obtain ⟨R9, hR9⟩ : ∃ R9, R9 = (repL vs p (p + 1) [.slice p21 K9 q21, .slice p22 (T6 - K9) q22]).length := ⟨_, rfl⟩; rw [← hR9] at hv9; obtain ⟨hc9, hf9, h99⟩ := HFN.out u22 u23 uz (.slice p21 K9 q21) (.slice p22 (T6 - K9) q22) HP22.out HU23.out hb9 v9 hrow; subst hv9; have HF9 : Hid _ := h99; clear h99 hrow hb9 hR9 HP22 HU23; go_wp2_with fail)
                refine hK.out _ _ (by exact trivial) ?_
                clear hK K
                intro hHeld2
                clear hHeld
                have hHeld := hHeld2
                clear hHeld2
                try simp only [Act.put, List.setIfInBounds_toArray, List.set_cons_zero, List.set_cons_succ]
                refine take_at (i := 20) 115 (v := ?_) rfl rfl (by kernel_rfl) (by kernel_rfl) (by kernel_rfl) (fun _ _ _ h => h) (by rfl) ?_ hHeld ?_
                rotate_left
                · (intro w hSw; (try dsimp only at hSw); go_simp; try with_reducible rfl)
                simp only [Act.put, List.setIfInBounds_toArray, List.set_cons_zero, List.set_cons_succ]
                refine take_at (i := 21) 116 (v := ?_) rfl rfl (by kernel_rfl) (by kernel_rfl) (by kernel_rfl) (fun _ _ _ h => h) (by rfl) ?_ hHeld ?_
                rotate_left
                · (intro w hSw; (try dsimp only at hSw); go_simp; try with_reducible rfl)
                simp only [Act.put, List.setIfInBounds_toArray, List.set_cons_zero, List.set_cons_succ]
                refine run_at (i := 22) rfl (by kernel_rfl) (by rfl) (fun K hK => ?_)
                simp only [List.getElem_toArray, List.getElem_cons_zero, List.getElem_cons_succ]
                go_simp
                go_wp2_with fail
                refine hK.out _ _ (by exact trivial) ?_
                clear hK K
                intro hHeld2
                clear hHeld
                have hHeld := hHeld2
                clear hHeld2
                try simp only [Act.put, List.setIfInBounds_toArray, List.set_cons_zero, List.set_cons_succ]
                refine wpAnyH_done (by kernel_rfl) ?_ _
            rotate_left 2
            refine AllReadyH.cons (o := _) rfl (fun K hK => ?_) ?_
            focus
              rw [if_pos (by rfl)]
              simp only [List.getElem_toArray, List.getElem_cons_zero, List.getElem_cons_succ]
              (refine wpo_appX _ _ rfl HP15.out (L9.take K9) (by rfl) b6 0 K9 _ HKA.out (by rfl) HRA.out HLA.out ?_; intro p24 q24 u24 hp9; have HP24 : Hid (PairX wc u24 (.slice p24 K9 q24) (L9.take K9) (.slice none 0 0) []) := hp9; have hc24 : u24.cell? ⟨r, 1, none⟩ = some (.slice (some ⟨gr, 0, none⟩) N cap) := HCL.out u24 HP24.out.bel; clear hp9 HP15 hc15)
              refine hK.out _ _ (by exact trivial) ?_
              clear hK K
              intro hHeld2
              clear hHeld
              have hHeld := hHeld2
              clear hHeld2
              try simp only [Act.put, List.setIfInBounds_toArray, List.set_cons_zero, List.set_cons_succ]
              refine wpAnyH_ready (rs := [4, 13]) (by kernel_rfl) (by simp) ?_
              refine AllReadyH.cons (o := _) rfl (fun K hK => ?_) ?_
              focus
                rw [if_pos (by rfl)]
                refine val_wp 99 (v := ?_) rfl ?_ ?_
                rotate_left
                · (go_simp; try with_reducible rfl)
                refine hK.out _ _ (by exact trivial) ?_
                clear hK K
                intro hHeld2
                clear hHeld
                have hHeld := hHeld2
                clear hHeld2
                simp only [Act.put, List.setIfInBounds_toArray, List.set_cons_zero, List.set_cons_succ]
                refine run_at (i := 13) rfl (by kernel_rfl) (by rfl) (fun K hK => ?_)
                simp only [List.getElem_toArray, List.getElem_cons_zero, List.getElem_cons_succ]
                go_simp
                go_wp2_with fail
                refine hK.out _ _ (by exact trivial) ?_
                clear hK K
                intro hHeld2
                clear hHeld
                have hHeld := hHeld2
                clear hHeld2
                try simp only [Act.put, List.setIfInBounds_toArray, List.set_cons_zero, List.set_cons_succ]
                (obtain ⟨u25, hu⟩ : ∃ X : World, X = u24.alloc (.cells #[] tRe) := ⟨_, rfl⟩; rw [← hu]; have HP25 : Hid (PairX wc u25 (.slice p24 K9 q24) (L9.take K9) (.slice (some ⟨u24.heap.size, 0, none⟩) 0 0) []) := (by rw [hu]; exact HP24.out.litB); have hc25 : u25.cell? ⟨r, 1, none⟩ = some (.slice (some ⟨gr, 0, none⟩) N cap) := HCL.out u25 HP25.out.bel; clear hu HP24 hc24)
                refine run_at (i := 17) rfl (by kernel_rfl) (by rfl) (fun K hK => ?_)
                simp only [List.getElem_toArray, List.getElem_cons_zero, List.getElem_cons_succ]
                (refine wpo_appXB _ _ rfl HP25.out (L9.drop K9) (by rfl) b6 (K9 * 3) (T6 - K9) _ HKB.out (by rfl) HRB.out HLB.out ?_; intro p26 q26 u26 hp9; have HP26 : Hid (PairX wc u26 (.slice p24 K9 q24) (L9.take K9) (.slice p26 (T6 - K9) q26) (L9.drop K9)) := hp9; have hc26 : u26.cell? ⟨r, 1, none⟩ = some (.slice (some ⟨gr, 0, none⟩) N cap) := HCL.out u26 HP26.out.bel; clear hp9 HP25 hc25)
                refine hK.out _ _ (by exact trivial) ?_
                clear hK K
                intro hHeld2
                clear hHeld
                have hHeld := hHeld2
                clear hHeld2
                try simp only [Act.put, List.setIfInBounds_toArray, List.set_cons_zero, List.set_cons_succ]
                refine run_at (i := 18) rfl (by kernel_rfl) (by rfl) (fun K hK => ?_)
                simp only [List.getElem_toArray, List.getElem_cons_zero, List.getElem_cons_succ]
                go_simp
                go_wp2_with fail
                refine hK.out _ _ (by exact trivial) ?_
                clear hK K
                intro hHeld2
                clear hHeld
                have hHeld := hHeld2
                clear hHeld2
                try simp only [Act.put, List.setIfInBounds_toArray, List.set_cons_zero, List.set_cons_succ]
                (obtain ⟨u27, hu⟩ : ∃ X : World, X = u26.alloc (.cells #[.slice p24 K9 q24, .slice p26 (T6 - K9) q26] tRs) := ⟨_, rfl⟩; rw [← hu]; have HU27 : Hid (u27 = u26.alloc (.cells #[.slice p24 K9 q24, .slice p26 (T6 - K9) q26] tRs)) := hu; have hc27 : u27.cell? ⟨r, 1, none⟩ = some (.slice (some ⟨gr, 0, none⟩) N cap) := HCL.out u27 (by rw [hu]; exact below_next HP26.out.bel (al (Below.refl _ _) _)); clear hu hc26)
                refine run_at (i := 19) rfl (by kernel_rfl) (by rfl) (fun K hK => ?_)
                simp only [List.getElem_toArray, List.getElem_cons_zero, List.getElem_cons_succ]
                (go_simp; (try simp only [hwp]); go_at_call 54; refine Calls.mono (HRW.out u26 u27 (.slice p24 K9 q24) (.slice p26 (T6 - K9) q26) HP26.out HU27.out) ?_; rintro e uz ⟨v9, rfl, hrow, hb9⟩; obtain ⟨a9, c9, hv9⟩ := rowS_sl hrow; obtain ⟨R9, hR9⟩ : ∃ R9, R9 = (repL vs p (p + 1) [.slice p24 K9 q24, .slice p26 (T6 - K9) q26]).length := ⟨_, rfl⟩; rw [← hR9] at hv9; obtain ⟨hc9, hf9, h99⟩ := HFN.out u26 u27 uz (.slice p24 K9 q24) (.slice p26 (T6 - K9) q26) HP26.out HU27.out hb9 v9 hrow; subst hv9; have HF9 : Hid _ := h99; clear h99 hrow hb9 hR9 HP26 HU27; go_wp2_with fail)
                refine hK.out _ _ (by exact trivial) ?_
                clear hK K
                intro hHeld2
                clear hHeld
                have hHeld := hHeld2
                clear hHeld2
                try simp only [Act.put, List.setIfInBounds_toArray, List.set_cons_zero, List.set_cons_succ]
                refine take_at (i := 20) 115 (v := ?_) rfl rfl (by kernel_rfl) (by kernel_rfl) (by kernel_rfl) (fun _ _ _ h => h) (by rfl) ?_ hHeld ?_
                rotate_left
                · (intro w hSw; (try dsimp only at hSw); go_simp; try with_reducible rfl)
                simp only [Act.put, List.setIfInBounds_toArray, List.set_cons_zero, List.set_cons_succ]
                refine take_at (i := 21) 116 (v := ?_) rfl rfl (by kernel_rfl) (by kernel_rfl) (by kernel_rfl) (fun _ _ _ h => h) (by rfl) ?_ hHeld ?_
                rotate_left
                · (intro w hSw; (try dsimp only at hSw); go_simp; try with_reducible rfl)
                simp only [Act.put, List.setIfInBounds_toArray, List.set_cons_zero, List.set_cons_succ]
                refine run_at (i := 22) rfl (by kernel_rfl) (by rfl) (fun K hK => ?_)
                simp only [List.getElem_toArray, List.getElem_cons_zero, List.getElem_cons_succ]
                go_simp
                go_wp2_with fail
                refine hK.out _ _ (by exact trivial) ?_
                clear hK K
                intro hHeld2
                clear hHeld
                have hHeld := hHeld2
                clear hHeld2
                try simp only [Act.put, List.setIfInBounds_toArray, List.set_cons_zero, List.set_cons_succ]
                refine wpAnyH_done (by kernel_rfl) ?_ _
              rotate_left 1
              refine AllReadyH.cons (o := _) rfl (fun K hK => ?_) AllReadyH.nil
              focus
                rw [if_pos (by rfl)]
                simp only [List.getElem_toArray, List.getElem_cons_zero, List.getElem_cons_succ]
                go_simp
                go_wp2_with fail
                refine hK.out _ _ (by exact trivial) ?_
                clear hK K
                intro hHeld2
                clear hHeld
                have hHeld := hHeld2
                clear hHeld2
                try simp only [Act.put, List.setIfInBounds_toArray, List.set_cons_zero, List.set_cons_succ]
                (obtain ⟨u28, hu⟩ : ∃ X : World, X = u24.alloc (.cells #[] tRe) := ⟨_, rfl⟩; rw [← hu]; have HP28 : Hid (PairX wc u28 (.slice p24 K9 q24) (L9.take K9) (.slice (some ⟨u24.heap.size, 0, none⟩) 0 0) []) := (by rw [hu]; exact HP24.out.litB); have hc28 : u28.cell? ⟨r, 1, none⟩ = some (.slice (some ⟨gr, 0, none⟩) N cap) := HCL.out u28 HP28.out.bel; clear hu HP24 hc24)
                refine wpAnyH_ready (rs := [4, 17]) (by kernel_rfl) (by simp) ?_
                refine AllReadyH.cons (o := _) rfl (fun K hK => ?_) ?_
                focus
                  rw [if_pos (by rfl)]
                  refine val_wp 99 (v := ?_) rfl ?_ ?_
                  rotate_left
                  · (go_simp; try with_reducible rfl)
                  refine hK.out _ _ (by exact trivial) ?_
                  clear hK K
                  intro hHeld2
                  clear hHeld
                  have hHeld := hHeld2
                  clear hHeld2
                  simp only [Act.put, List.setIfInBounds_toArray, List.set_cons_zero, List.set_cons_succ]
                  refine run_at (i := 17) rfl (by kernel_rfl) (by rfl) (fun K hK => ?_)
                  simp only [List.getElem_toArray, List.getElem_cons_zero, List.getElem_cons_succ]
                  (refine wpo_appXB _ _ rfl HP28.out (L9.drop K9) (by rfl) b6 (K9 * 3) (T6 - K9) _ HKB.out (by rfl) HRB.out HLB.out ?_; intro p29 q29 u29 hp9; have HP29 : Hid (PairX wc u29 (.slice p24 K9 q24) (L9.take K9) (.slice p29 (T6 - K9) q29) (L9.drop K9)) := hp9; have hc29 : u29.cell? ⟨r, 1, none⟩ = some (.slice (some ⟨gr, 0, none⟩) N cap) := HCL.out u29 HP29.out.bel; clear hp9 HP28 hc28)
                  refine hK.out _ _ (by exact trivial) ?_
                  clear hK K
                  intro hHeld2
                  clear hHeld
                  have hHeld := hHeld2
                  clear hHeld2
                  try simp only [Act.put, List.setIfInBounds_toArray, List.set_cons_zero, List.set_cons_succ]
                  refine run_at (i := 18) rfl (by kernel_rfl) (by rfl) (fun K hK => ?_)
                  simp only [List.getElem_toArray, List.getElem_cons_zero, List.getElem_cons_succ]
                  go_simp
                  go_wp2_with fail
                  refine hK.out _ _ (by exact trivial) ?_
                  clear hK K
                  intro hHeld2
                  clear hHeld
                  have hHeld := hHeld2
                  clear hHeld2
                  try simp only [Act.put, List.setIfInBounds_toArray, List.set_cons_zero, List.set_cons_succ]
                  (obtain ⟨u30, hu⟩ : ∃ X : World, X = u29.alloc (.cells #[.slice p24 K9 q24, .slice p29 (T6 - K9) q29] tRs) := ⟨_, rfl⟩; rw [← hu]; have HU30 : Hid (u30 = u29.alloc (.cells #[.slice p24 K9 q24, .slice p29 (T6 - K9) q29] tRs)) := hu; have hc30 : u30.cell? ⟨r, 1, none⟩ = some (.slice (some ⟨gr, 0, none⟩) N cap) := HCL.out u30 (by rw [hu]; exact below_next HP29.out.bel (al (Below.refl _ _) _)); clear hu hc29)
                  refine run_at (i := 19) rfl (by kernel_rfl) (by rfl) (fun K hK => ?_)
                  simp only [List.getElem_toArray, List.getElem_cons_zero, List.getElem_cons_succ]
                  (go_simp; (try simp only [hwp]); go_at_call 54; refine Calls.mono (HRW.out u29 u30 (.slice p24 K9 q24) (.slice p29 (T6 - K9) q29) HP29.out HU30.out) ?_; rintro e uz ⟨v9, rfl, hrow, hb9⟩; obtain ⟨a9, c9, hv9⟩ := rowS_sl hrow; obtain ⟨R9, hR9⟩ : ∃ R9, R9 = (repL vs p (p + 1) [.slice p24 K9 q24, .slice p29 (T6 - K9) q29]).length := ⟨_, rfl⟩; rw [← hR9] at hv9; obtain ⟨hc9, hf9, h99⟩ := HFN.out u29 u30 uz (.slice p24 K9 q24) (.slice p29 (T6 - K9) q29) HP29.out HU30.out hb9 v9 hrow; subst hv9; have HF9 : Hid _ := h99; clear h99 hrow hb9 hR9 HP29 HU30; go_wp2_with fail)
                  refine hK.out _ _ (by exact trivial) ?_
                  clear hK K
                  intro hHeld2
                  clear hHeld
                  have hHeld := hHeld2
                  clear hHeld2
                  try simp only [Act.put, List.setIfInBounds_toArray, List.set_cons_zero, List.set_cons_succ]
                  refine take_at (i := 20) 115 (v := ?_) rfl rfl (by kernel_rfl) (by kernel_rfl) (by kernel_rfl) (fun _ _ _ h => h) (by rfl) ?_ hHeld ?_
                  rotate_left
                  · (intro w hSw; (try dsimp only at hSw); go_simp; try with_reducible rfl)
                  simp only [Act.put, List.setIfInBounds_toArray, List.set_cons_zero, List.set_cons_succ]
                  refine take_at (i := 21) 116 (v := ?_) rfl rfl (by kernel_rfl) (by kernel_rfl) (by kernel_rfl) (fun _ _ _ h => h) (by rfl) ?_ hHeld ?_
                  rotate_left
                  · (intro w hSw; (try dsimp only at hSw); go_simp; try with_reducible rfl)
                  simp only [Act.put, List.setIfInBounds_toArray, List.set_cons_zero, List.set_cons_succ]
                  refine run_at (i := 22) rfl (by kernel_rfl) (by rfl) (fun K hK => ?_)
                  simp only [List.getElem_toArray, List.getElem_cons_zero, List.getElem_cons_succ]
                  go_simp
                  go_wp2_with fail
                  refine hK.out _ _ (by exact trivial) ?_
                  clear hK K
                  intro hHeld2
                  clear hHeld
                  have hHeld := hHeld2
                  clear hHeld2
                  try simp only [Act.put, List.setIfInBounds_toArray, List.set_cons_zero, List.set_cons_succ]
                  refine wpAnyH_done (by kernel_rfl) ?_ _
                rotate_left 1
                refine AllReadyH.cons (o := _) rfl (fun K hK => ?_) AllReadyH.nil
                focus
                  rw [if_pos (by rfl)]
                  simp only [List.getElem_toArray, List.getElem_cons_zero, List.getElem_cons_succ]
                  (refine wpo_appXB _ _ rfl HP28.out (L9.drop K9) (by rfl) b6 (K9 * 3) (T6 - K9) _ HKB.out (by rfl) HRB.out HLB.out ?_; intro p31 q31 u31 hp9; have HP31 : Hid (PairX wc u31 (.slice p24 K9 q24) (L9.take K9) (.slice p31 (T6 - K9) q31) (L9.drop K9)) := hp9; have hc31 : u31.cell? ⟨r, 1, none⟩ = some (.slice (some ⟨gr, 0, none⟩) N cap) := HCL.out u31 HP31.out.bel; clear hp9 HP28 hc28)
                  refine hK.out _ _ (by exact trivial) ?_
                  clear hK K
                  intro hHeld2
                  clear hHeld
                  have hHeld := hHeld2
                  clear hHeld2
                  try simp only [Act.put, List.setIfInBounds_toArray, List.set_cons_zero, List.set_cons_succ]
                  refine wpAnyH_ready (rs := [4, 18]) (by kernel_rfl) (by simp) ?_
                  refine AllReadyH.cons (o := _) rfl (fun K hK => ?_) ?_
                  focus
                    rw [if_pos (by rfl)]
                    refine val_wp 99 (v := ?_) rfl ?_ ?_
                    rotate_left
                    · (go_simp; try with_reducible rfl)
                    refine hK.out _ _ (by exact trivial) ?_
                    clear hK K
                    intro hHeld2
                    clear hHeld
                    have hHeld := hHeld2
                    clear hHeld2
                    simp only [Act.put, List.setIfInBounds_toArray, List.set_cons_zero, List.set_cons_succ]
                    refine run_at (i := 18) rfl (by kernel_rfl) (by rfl) (fun K hK => ?_)
                    simp only [List.getElem_toArray, List.getElem_cons_zero, List.getElem_cons_succ]
                    go_simp
                    go_wp2_with fail
                    refine hK.out _ _ (by exact trivial) ?_
                    clear hK K
                    intro hHeld2
                    clear hHeld
                    have hHeld := hHeld2
                    clear hHeld2
                    try simp only [Act.put, List.setIfInBounds_toArray, List.set_cons_zero, List.set_cons_succ]
                    (obtain ⟨u32, hu⟩ : ∃ X : World, X = u31.alloc (.cells #[.slice p24 K9 q24, .slice p31 (T6 - K9) q31] tRs) := ⟨_, rfl⟩; rw [← hu]; have HU32 : Hid (u32 = u31.alloc (.cells #[.slice p24 K9 q24, .slice p31 (T6 - K9) q31] tRs)) := hu; have hc32 : u32.cell? ⟨r, 1, none⟩ = some (.slice (some ⟨gr, 0, none⟩) N cap) := HCL.out u32 (by rw [hu]; exact below_next HP31.out.bel (al (Below.refl _ _) _)); clear hu hc31)
                    refine run_at (i := 19) rfl (by kernel_rfl) (by rfl) (fun K hK => ?_)
                    simp only [List.getElem_toArray, List.getElem_cons_zero, List.getElem_cons_succ]
                    (go_simp; (try simp only [hwp]); go_at_call 54; refine Calls.mono (HRW.out u31 u32 (.slice p24 K9 q24) (.slice p31 (T6 - K9) q31) HP31.out HU32.out) ?_; rintro e uz ⟨v9, rfl, hrow, hb9⟩; obtain ⟨a9, c9, hv9⟩ := rowS_sl hrow; obtain ⟨R9, hR9⟩ : ∃ R9, R9 = (repL vs p (p + 1) [.slice p24 K9 q24, .slice p31 (T6 - K9) q31]).length := ⟨_, rfl⟩; rw [← hR9] at hv9; obtain ⟨hc9, hf9, h99⟩ := HFN.out u31 u32 uz (.slice p24 K9 q24) (.slice p31 (T6 - K9) q31) HP31.out HU32.out hb9 v9 hrow; subst hv9; have HF9 : Hid _ := h99; clear h99 hrow hb9 hR9 HP31 HU32; go_wp2_with fail)
                    refine hK.out _ _ (by exact trivial) ?_
                    clear hK K
                    intro hHeld2
                    clear hHeld
                    have hHeld := hHeld2
                    clear hHeld2
                    try simp only [Act.put, List.setIfInBounds_toArray, List.set_cons_zero, List.set_cons_succ]
                    refine take_at (i := 20) 115 (v := ?_) rfl rfl (by kernel_rfl) (by kernel_rfl) (by kernel_rfl) (fun _ _ _ h => h) (by rfl) ?_ hHeld ?_
                    rotate_left
                    · (intro w hSw; (try dsimp only at hSw); go_simp; try with_reducible rfl)
                    simp only [Act.put, List.setIfInBounds_toArray, List.set_cons_zero, List.set_cons_succ]
                    refine take_at (i := 21) 116 (v := ?_) rfl rfl (by kernel_rfl) (by kernel_rfl) (by kernel_rfl) (fun _ _ _ h => h) (by rfl) ?_ hHeld ?_
                    rotate_left
                    · (intro w hSw; (try dsimp only at hSw); go_simp; try with_reducible rfl)
                    simp only [Act.put, List.setIfInBounds_toArray, List.set_cons_zero, List.set_cons_succ]
                    refine run_at (i := 22) rfl (by kernel_rfl) (by rfl) (fun K hK => ?_)
                    simp only [List.getElem_toArray, List.getElem_cons_zero, List.getElem_cons_succ]
                    go_simp
                    go_wp2_with fail
                    refine hK.out _ _ (by exact trivial) ?_
                    clear hK K
                    intro hHeld2
                    clear hHeld
                    have hHeld := hHeld2
                    clear hHeld2
                    try simp only [Act.put, List.setIfInBounds_toArray, List.set_cons_zero, List.set_cons_succ]
                    refine wpAnyH_done (by kernel_rfl) ?_ _
                  rotate_left 1
                  refine AllReadyH.cons (o := _) rfl (fun K hK => ?_) AllReadyH.nil
                  focus
                    rw [if_pos (by rfl)]
                    simp only [List.getElem_toArray, List.getElem_cons_zero, List.getElem_cons_succ]
                    go_simp
                    go_wp2_with fail
                    refine hK.out _ _ (by exact trivial) ?_
                    clear hK K
                    intro hHeld2
                    clear hHeld
                    have hHeld := hHeld2
                    clear hHeld2
                    try simp only [Act.put, List.setIfInBounds_toArray, List.set_cons_zero, List.set_cons_succ]
                    (obtain ⟨u33, hu⟩ : ∃ X : World, X = u31.alloc (.cells #[.slice p24 K9 q24, .slice p31 (T6 - K9) q31] tRs) := ⟨_, rfl⟩; rw [← hu]; have HU33 : Hid (u33 = u31.alloc (.cells #[.slice p24 K9 q24, .slice p31 (T6 - K9) q31] tRs)) := hu; have hc33 : u33.cell? ⟨r, 1, none⟩ = some (.slice (some ⟨gr, 0, none⟩) N cap) := HCL.out u33 (by rw [hu]; exact below_next HP31.out.bel (al (Below.refl _ _) _)); clear hu hc31)
                    refine val_at (i := 4) 99 (v := ?_) rfl rfl (by kernel_rfl) (by rfl) ?_ ?_ ?_
                    rotate_left
                    · (go_simp; try with_reducible rfl)
                    · (exact trivial)
                    intro hHeld2
                    clear hHeld
                    have hHeld := hHeld2
                    clear hHeld2
                    simp only [Act.put, List.setIfInBounds_toArray, List.set_cons_zero, List.set_cons_succ]
                    refine run_at (i := 19) rfl (by kernel_rfl) (by rfl) (fun K hK => ?_)
                    simp only [List.getElem_toArray, List.getElem_cons_zero, List.getElem_cons_succ]
                    (go_simp; (try simp only [hwp]); go_at_call 54; refine Calls.mono (HRW.out u31 u33 (.slice p24 K9 q24) (.slice p31 (T6 - K9) q31) HP31.out HU33.out) ?_; rintro e uz ⟨v9, rfl, hrow, hb9⟩; obtain ⟨a9, c9, hv9⟩ := rowS_sl hrow; obtain ⟨R9, hR9⟩ : ∃ R9, R9 = (repL vs p (p + 1) [.slice p24 K9 q24, .slice p31 (T6 - K9) q31]).length := ⟨_, rfl⟩; rw [← hR9] at hv9; obtain ⟨hc9, hf9, h99⟩ := HFN.out u31 u33 uz (.slice p24 K9 q24) (.slice p31 (T6 - K9) q31) HP31.out HU33.out hb9 v9 hrow; subst hv9; have HF9 : Hid _ := h99; clear h99 hrow hb9 hR9 HP31 HU33; go_wp2_with fail)
                    refine hK.out _ _ (by exact trivial) ?_
                    clear hK K
                    intro hHeld2
                    clear hHeld
                    have hHeld := hHeld2
                    clear hHeld2
                    try simp only [Act.put, List.setIfInBounds_toArray, List.set_cons_zero, List.set_cons_succ]
                    refine take_at (i := 20) 115 (v := ?_) rfl rfl (by kernel_rfl) (by kernel_rfl) (by kernel_rfl) (fun _ _ _ h => h) (by rfl) ?_ hHeld ?_
                    rotate_left
                    · (intro w hSw; (try dsimp only at hSw); go_simp; try with_reducible rfl)
                    simp only [Act.put, List.setIfInBounds_toArray, List.set_cons_zero, List.set_cons_succ]
                    refine take_at (i := 21) 116 (v := ?_) rfl rfl (by kernel_rfl) (by kernel_rfl) (by kernel_rfl) (fun _ _ _ h => h) (by rfl) ?_ hHeld ?_
                    rotate_left
                    · (intro w hSw; (try dsimp only at hSw); go_simp; try with_reducible rfl)
                    simp only [Act.put, List.setIfInBounds_toArray, List.set_cons_zero, List.set_cons_succ]
                    refine run_at (i := 22) rfl (by kernel_rfl) (by rfl) (fun K hK => ?_)
                    simp only [List.getElem_toArray, List.getElem_cons_zero, List.getElem_cons_succ]
                    go_simp
                    go_wp2_with fail
                    refine hK.out _ _ (by exact trivial) ?_
                    clear hK K
                    intro hHeld2
                    clear hHeld
                    have hHeld := hHeld2
                    clear hHeld2
                    try simp only [Act.put, List.setIfInBounds_toArray, List.set_cons_zero, List.set_cons_succ]
                    refine wpAnyH_done (by kernel_rfl) ?_ _
            rotate_left 4
            refine AllReadyH.cons (o := _) rfl (fun K hK => ?_) AllReadyH.nil
            focus
              rw [if_pos (by rfl)]
              simp only [List.getElem_toArray, List.getElem_cons_zero, List.getElem_cons_succ]
              go_simp
              go_wp2_with fail
              refine hK.out _ _ (by exact trivial) ?_
              clear hK K
              intro hHeld2
              clear hHeld
              have hHeld := hHeld2
              clear hHeld2
              try simp only [Act.put, List.setIfInBounds_toArray, List.set_cons_zero, List.set_cons_succ]
              (obtain ⟨u34, hu⟩ : ∃ X : World, X = u15.alloc (.cells #[] tRe) := ⟨_, rfl⟩; rw [← hu]; have HP34 : Hid (PairX wc u34 (.slice (some ⟨u0.heap.size, 0, none⟩) 0 0) [] (.slice (some ⟨u15.heap.size, 0, none⟩) 0 0) []) := (by rw [hu]; exact HP15.out.litB); have hc34 : u34.cell? ⟨r, 1, none⟩ = some (.slice (some ⟨gr, 0, none⟩) N cap) := HCL.out u34 HP34.out.bel; clear hu HP15 hc15)
              refine wpAnyH_ready (rs := [4, 12]) (by kernel_rfl) (by simp) ?_
              refine AllReadyH.cons (o := _) rfl (fun K hK => ?_) ?_
              focus
                rw [if_pos (by rfl)]
                refine val_wp 99 (v := ?_) rfl ?_ ?_
                rotate_left
                · (go_simp; try with_reducible rfl)
                refine hK.out _ _ (by exact trivial) ?_
                clear hK K
                intro hHeld2
                clear hHeld
                have hHeld := hHeld2
                clear hHeld2
                simp only [Act.put, List.setIfInBounds_toArray, List.set_cons_zero, List.set_cons_succ]
                refine run_at (i := 12) rfl (by kernel_rfl) (by rfl) (fun K hK => ?_)
                simp only [List.getElem_toArray, List.getElem_cons_zero, List.getElem_cons_succ]
                (refine wpo_appX _ _ rfl HP34.out (L9.take K9) (by rfl) b6 0 K9 _ HKA.out (by rfl) HRA.out HLA.out ?_; intro p35 q35 u35 hp9; have HP35 : Hid (PairX wc u35 (.slice p35 K9 q35) (L9.take K9) (.slice (some ⟨u15.heap.size, 0, none⟩) 0 0) []) := hp9; have hc35 : u35.cell? ⟨r, 1, none⟩ = some (.slice (some ⟨gr, 0, none⟩) N cap) := HCL.out u35 HP35.out.bel; clear hp9 HP34 hc34)
                refine hK.out _ _ (by exact trivial) ?_
                clear hK K
                intro hHeld2
                clear hHeld
                have hHeld := hHeld2
                clear hHeld2
                try simp only [Act.put, List.setIfInBounds_toArray, List.set_cons_zero, List.set_cons_succ]
                refine run_at (i := 17) rfl (by kernel_rfl) (by rfl) (fun K hK => ?_)
                simp only [List.getElem_toArray, List.getElem_cons_zero, List.getElem_cons_succ]
                (refine wpo_appXB _ _ rfl HP35.out (L9.drop K9) (by rfl) b6 (K9 * 3) (T6 - K9) _ HKB.out (by rfl) HRB.out HLB.out ?_; intro p36 q36 u36 hp9; have HP36 : Hid (PairX wc u36 (.slice p35 K9 q35) (L9.take K9) (.slice p36 (T6 - K9) q36) (L9.drop K9)) := hp9; have hc36 : u36.cell? ⟨r, 1, none⟩ = some (.slice (some ⟨gr, 0, none⟩) N cap) := HCL.out u36 HP36.out.bel; clear hp9 HP35 hc35)
                refine hK.out _ _ (by exact trivial) ?_
                clear hK K
                intro hHeld2
                clear hHeld
                have hHeld := hHeld2
                clear hHeld2
                try simp only [Act.put, List.setIfInBounds_toArray, List.set_cons_zero, List.set_cons_succ]
                refine run_at (i := 18) rfl (by kernel_rfl) (by rfl) (fun K hK => ?_)
                simp only [List.getElem_toArray, List.getElem_cons_zero, List.getElem_cons_succ]
                go_simp
                go_wp2_with fail
                refine hK.out _ _ (by exact trivial) ?_
                clear hK K
                intro hHeld2
                clear hHeld
                have hHeld := hHeld2
                clear hHeld2
                try simp only [Act.put, List.setIfInBounds_toArray, List.set_cons_zero, List.set_cons_succ]
                (obtain ⟨u37, hu⟩ : ∃ X : World, X = u36.alloc (.cells #[.slice p35 K9 q35, .slice p36 (T6 - K9) q36] tRs) := ⟨_, rfl⟩; rw [← hu]; have HU37 : Hid (u37 = u36.alloc (.cells #[.slice p35 K9 q35, .slice p36 (T6 - K9) q36] tRs)) := hu; have hc37 : u37.cell? ⟨r, 1, none⟩ = some (.slice (some ⟨gr, 0, none⟩) N cap) := HCL.out u37 (by rw [hu]; exact below_next HP36.out.bel (al (Below.refl _ _) _)); clear hu hc36)
                refine run_at (i := 19) rfl (by kernel_rfl) (by rfl) (fun K hK => ?_)
                simp only [List.getElem_toArray, List.getElem_cons_zero, List.getElem_cons_succ]
                (go_simp; (try simp only [hwp]); go_at_call 54; refine Calls.mono (HRW.out u36 u37 (.slice p35 K9 q35) (.slice p36 (T6 - K9) q36) HP36.out HU37.out) ?_; rintro e uz ⟨v9, rfl, hrow, hb9⟩; obtain ⟨a9, c9, hv9⟩ := rowS_sl hrow; obtain ⟨R9, hR9⟩ : ∃ R9, R9 = (repL vs p (p + 1) [.slice p35 K9 q35, .slice p36 (T6 - K9) q36]).length := ⟨_, rfl⟩; rw [← hR9] at hv9; obtain ⟨hc9, hf9, h99⟩ := HFN.out u36 u37 uz (.slice p35 K9 q35) (.slice p36 (T6 - K9) q36) HP36.out HU37.out hb9 v9 hrow; subst hv9; have HF9 : Hid _ := h99; clear h99 hrow hb9 hR9 HP36 HU37; go_wp2_with fail)
                refine hK.out _ _ (by exact trivial) ?_
                clear hK K
                intro hHeld2
                clear hHeld
                have hHeld := hHeld2
                clear hHeld2
                try simp only [Act.put, List.setIfInBounds_toArray, List.set_cons_zero, List.set_cons_succ]
                refine take_at (i := 20) 115 (v := ?_) rfl rfl (by kernel_rfl) (by kernel_rfl) (by kernel_rfl) (fun _ _ _ h => h) (by rfl) ?_ hHeld ?_
                rotate_left
                · (intro w hSw; (try dsimp only at hSw); go_simp; try with_reducible rfl)
                simp only [Act.put, List.setIfInBounds_toArray, List.set_cons_zero, List.set_cons_succ]
                refine take_at (i := 21) 116 (v := ?_) rfl rfl (by kernel_rfl) (by kernel_rfl) (by kernel_rfl) (fun _ _ _ h => h) (by rfl) ?_ hHeld ?_
                rotate_left
                · (intro w hSw; (try dsimp only at hSw); go_simp; try with_reducible rfl)
                simp only [Act.put, List.setIfInBounds_toArray, List.set_cons_zero, List.set_cons_succ]
                refine run_at (i := 22) rfl (by kernel_rfl) (by rfl) (fun K hK => ?_)
                simp only [List.getElem_toArray, List.getElem_cons_zero, List.getElem_cons_succ]
                go_simp
                go_wp2_with fail
                refine hK.out _ _ (by exact trivial) ?_
                clear hK K
                intro hHeld2
                clear hHeld
                have hHeld := hHeld2
                clear hHeld2
                try simp only [Act.put, List.setIfInBounds_toArray, List.set_cons_zero, List.set_cons_succ]
                refine wpAnyH_done (by kernel_rfl) ?_ _
              rotate_left 1
              refine AllReadyH.cons (o := _) rfl (fun K hK => ?_) AllReadyH.nil
              focus
                rw [if_pos (by rfl)]
                simp only [List.getElem_toArray, List.getElem_cons_zero, List.getElem_cons_succ]
                (refine wpo_appX _ _ rfl HP34.out (L9.take K9) (by rfl) b6 0 K9 _ HKA.out (by rfl) HRA.out HLA.out ?_; intro p38 q38 u38 hp9; have HP38 : Hid (PairX wc u38 (.slice p38 K9 q38) (L9.take K9) (.slice (some ⟨u15.heap.size, 0, none⟩) 0 0) []) := hp9; have hc38 : u38.cell? ⟨r, 1, none⟩ = some (.slice (some ⟨gr, 0, none⟩) N cap) := HCL.out u38 HP38.out.bel; clear hp9 HP34 hc34)
                refine hK.out _ _ (by exact trivial) ?_
                clear hK K
                intro hHeld2
                clear hHeld
                have hHeld := hHeld2
                clear hHeld2
                try simp only [Act.put, List.setIfInBounds_toArray, List.set_cons_zero, List.set_cons_succ]
                refine wpAnyH_ready (rs := [4, 17]) (by kernel_rfl) (by simp) ?_
                refine AllReadyH.cons (o := _) rfl (fun K hK => ?_) ?_
                focus
                  rw [if_pos (by rfl)]
                  refine val_wp 99 (v := ?_) rfl ?_ ?_
                  rotate_left
                  · (go_simp; try with_reducible rfl)
                  refine hK.out _ _ (by exact trivial) ?_
                  clear hK K
                  intro hHeld2
                  clear hHeld
                  have hHeld := hHeld2
                  clear hHeld2
                  simp only [Act.put, List.setIfInBounds_toArray, List.set_cons_zero, List.set_cons_succ]
                  refine run_at (i := 17) rfl (by kernel_rfl) (by rfl) (fun K hK => ?_)
                  simp only [List.getElem_toArray, List.getElem_cons_zero, List.getElem_cons_succ]
                  (refine wpo_appXB _ _ rfl HP38.out (L9.drop K9) (by rfl) b6 (K9 * 3) (T6 - K9) _ HKB.out (by rfl) HRB.out HLB.out ?_; intro p39 q39 u39 hp9; have HP39 : Hid (PairX wc u39 (.slice p38 K9 q38) (L9.take K9) (.slice p39 (T6 - K9) q39) (L9.drop K9)) := hp9; have hc39 : u39.cell? ⟨r, 1, none⟩ = some (.slice (some ⟨gr, 0, none⟩) N cap) := HCL.out u39 HP39.out.bel; clear hp9 HP38 hc38)
                  refine hK.out _ _ (by exact trivial) ?_
                  clear hK K
                  intro hHeld2
                  clear hHeld
                  have hHeld := hHeld2
                  clear hHeld2
                  try simp only [Act.put, List.setIfInBounds_toArray, List.set_cons_zero, List.set_cons_succ]
                  refine run_at (i := 18) rfl (by kernel_rfl) (by rfl) (fun K hK => ?_)
                  simp only [List.getElem_toArray, List.getElem_cons_zero, List.getElem_cons_succ]
                  go_simp
                  go_wp2_with fail
                  refine hK.out _ _ (by exact trivial) ?_
                  clear hK K
                  intro hHeld2
                  clear hHeld
                  have hHeld := hHeld2
                  clear hHeld2
                  try simp only [Act.put, List.setIfInBounds_toArray, List.set_cons_zero, List.set_cons_succ]
                  (obtain ⟨u40, hu⟩ : ∃ X : World, X = u39.alloc (.cells #[.slice p38 K9 q38, .slice p39 (T6 - K9) q39] tRs) := ⟨_, rfl⟩; rw [← hu]; have HU40 : Hid (u40 = u39.alloc (.cells #[.slice p38 K9 q38, .slice p39 (T6 - K9) q39] tRs)) := hu; have hc40 : u40.cell? ⟨r, 1, none⟩ = some (.slice (some ⟨gr, 0, none⟩) N cap) := HCL.out u40 (by rw [hu]; exact below_next HP39.out.bel (al (Below.refl _ _) _)); clear hu hc39)
                  refine run_at (i := 19) rfl (by kernel_rfl) (by rfl) (fun K hK => ?_)
                  simp only [List.getElem_toArray, List.getElem_cons_zero, List.getElem_cons_succ]
                  (go_simp; (try simp only [hwp]); go_at_call 54; refine Calls.mono (HRW.out u39 u40 (.slice p38 K9 q38) (.slice p39 (T6 - K9) q39) HP39.out HU40.out) ?_; rintro e uz ⟨v9, rfl, hrow, hb9⟩; obtain ⟨a9, c9, hv9⟩ := rowS_sl hrow; obtain ⟨R9, hR9⟩ : ∃ R9, R9 = (repL vs p (p + 1) [.slice p38 K9 q38, .slice p39 (T6 - K9) q39]).length := ⟨_, rfl⟩; rw [← hR9] at hv9; obtain ⟨hc9, hf9, h99⟩ := HFN.out u39 u40 uz (.slice p38 K9 q38) (.slice p39 (T6 - K9) q39) HP39.out HU40.out hb9 v9 hrow; subst hv9; have HF9 : Hid _ := h99; clear h99 hrow hb9 hR9 HP39 HU40; go_wp2_with fail)
                  refine hK.out _ _ (by exact trivial) ?_
                  clear hK K
                  intro hHeld2
                  clear hHeld
                  have hHeld := hHeld2
                  clear hHeld2
                  try simp only [Act.put, List.setIfInBounds_toArray, List.set_cons_zero, List.set_cons_succ]
                  refine take_at (i := 20) 115 (v := ?_) rfl rfl (by kernel_rfl) (by kernel_rfl) (by kernel_rfl) (fun _ _ _ h => h) (by rfl) ?_ hHeld ?_
                  rotate_left
                  · (intro w hSw; (try dsimp only at hSw); go_simp; try with_reducible rfl)
                  simp only [Act.put, List.setIfInBounds_toArray, List.set_cons_zero, List.set_cons_succ]
                  refine take_at (i := 21) 116 (v := ?_) rfl rfl (by kernel_rfl) (by kernel_rfl) (by kernel_rfl) (fun _ _ _ h => h) (by rfl) ?_ hHeld ?_
                  rotate_left
                  · (intro w hSw; (try dsimp only at hSw); go_simp; try with_reducible rfl)
                  simp only [Act.put, List.setIfInBounds_toArray, List.set_cons_zero, List.set_cons_succ]
                  refine run_at (i := 22) rfl (by kernel_rfl) (by rfl) (fun K hK => ?_)
                  simp only [List.getElem_toArray, List.getElem_cons_zero, List.getElem_cons_succ]
                  go_simp
                  go_wp2_with fail
                  refine hK.out _ _ (by exact trivial) ?_
                  clear hK K
                  intro hHeld2
                  clear hHeld
                  have hHeld := hHeld2
                  clear hHeld2
                  try simp only [Act.put, List.setIfInBounds_toArray, List.set_cons_zero, List.set_cons_succ]
                  refine wpAnyH_done (by kernel_rfl) ?_ _
                rotate_left 1
                refine AllReadyH.cons (o := _) rfl (fun K hK => ?_) AllReadyH.nil
                focus
                  rw [if_pos (by rfl)]
                  simp only [List.getElem_toArray, List.getElem_cons_zero, List.getElem_cons_succ]
                  (refine wpo_appXB _ _ rfl HP38.out (L9.drop K9) (by rfl) b6 (K9 * 3) (T6 - K9) _ HKB.out (by rfl) HRB.out HLB.out ?_; intro p41 q41 u41 hp9; have HP41 : Hid (PairX wc u41 (.slice p38 K9 q38) (L9.take K9) (.slice p41 (T6 - K9) q41) (L9.drop K9)) := hp9; have hc41 : u41.cell? ⟨r, 1, none⟩ = some (.slice (some ⟨gr, 0, none⟩) N cap) := HCL.out u41 HP41.out.bel; clear hp9 HP38 hc38)
                  refine hK.out _ _ (by exact trivial) ?_
                  clear hK K
                  intro hHeld2
                  clear hHeld
                  have hHeld := hHeld2
                  clear hHeld2
                  try simp only [Act.put, List.setIfInBounds_toArray, List.set_cons_zero, List.set_cons_succ]
                  refine wpAnyH_ready (rs := [4, 18]) (by kernel_rfl) (by simp) ?_
                  refine AllReadyH.cons (o := _) rfl (fun K hK => ?_) ?_
                  focus
                    rw [if_pos (by rfl)]
                    refine val_wp 99 (v := ?_) rfl ?_ ?_
                    rotate_left
                    · (go_simp; try with_reducible rfl)
                    refine hK.out _ _ (by exact trivial) ?_
                    clear hK K
                    intro hHeld2
                    clear hHeld
                    have hHeld := hHeld2
                    clear hHeld2
                    simp only [Act.put, List.setIfInBounds_toArray, List.set_cons_zero, List.set_cons_succ]
                    refine run_at (i := 18) rfl (by kernel_rfl) (by rfl) (fun K hK => ?_)
                    simp only [List.getElem_toArray, List.getElem_cons_zero, List.getElem_cons_succ]
                    go_simp
                    go_wp2_with fail
                    refine hK.out _ _ (by exact trivial) ?_
                    clear hK K
                    intro hHeld2
                    clear hHeld
                    have hHeld := hHeld2
                    clear hHeld2
                    try simp only [Act.put, List.setIfInBounds_toArray, List.set_cons_zero, List.set_cons_succ]
                    (obtain ⟨u42, hu⟩ : ∃ X : World, X = u41.alloc (.cells #[.slice p38 K9 q38, .slice p41 (T6 - K9) q41] tRs) := ⟨_, rfl⟩; rw [← hu]; have HU42 : Hid (u42 = u41.alloc (.cells #[.slice p38 K9 q38, .slice p41 (T6 - K9) q41] tRs)) := hu; have hc42 : u42.cell? ⟨r, 1, none⟩ = some (.slice (some ⟨gr, 0, none⟩) N cap) := HCL.out u42 (by rw [hu]; exact below_next HP41.out.bel (al (Below.refl _ _) _)); clear hu hc41)
                    refine run_at (i := 19) rfl (by kernel_rfl) (by rfl) (fun K hK => ?_)
                    simp only [List.getElem_toArray, List.getElem_cons_zero, List.getElem_cons_succ]
                    (go_simp; (try simp only [hwp]); go_at_call 54; refine Calls.mono (HRW.out u41 u42 (.slice p38 K9 q38) (.slice p41 (T6 - K9) q41) HP41.out HU42.out) ?_; rintro e uz ⟨v9, rfl, hrow, hb9⟩; obtain ⟨a9, c9, hv9⟩ := rowS_sl hrow; obtain ⟨R9, hR9⟩ : ∃ R9, R9 = (repL vs p (p + 1) [.slice p38 K9 q38, .slice p41 (T6 - K9) q41]).length := ⟨_, rfl⟩; rw [← hR9] at hv9; obtain ⟨hc9, hf9, h99⟩ := HFN.out u41 u42 uz (.slice p38 K9 q38) (.slice p41 (T6 - K9) q41) HP41.out HU42.out hb9 v9 hrow; subst hv9; have HF9 : Hid _ := h99; clear h99 hrow hb9 hR9 HP41 HU42; go_wp2_with fail)
                    refine hK.out _ _ (by exact trivial) ?_
                    clear hK K
                    intro hHeld2
                    clear hHeld
                    have hHeld := hHeld2
                    clear hHeld2
                    try simp only [Act.put, List.setIfInBounds_toArray, List.set_cons_zero, List.set_cons_succ]
                    refine take_at (i := 20) 115 (v := ?_) rfl rfl (by kernel_rfl) (by kernel_rfl) (by kernel_rfl) (fun _ _ _ h => h) (by rfl) ?_ hHeld ?_
                    rotate_left
                    · (intro w hSw; (try dsimp only at hSw); go_simp; try with_reducible rfl)
                    simp only [Act.put, List.setIfInBounds_toArray, List.set_cons_zero, List.set_cons_succ]
                    refine take_at (i := 21) 116 (v := ?_) rfl rfl (by kernel_rfl) (by kernel_rfl) (by kernel_rfl) (fun _ _ _ h => h) (by rfl) ?_ hHeld ?_
                    rotate_left
                    · (intro w hSw; (try dsimp only at hSw); go_simp; try with_reducible rfl)
                    simp only [Act.put, List.setIfInBounds_toArray, List.set_cons_zero, List.set_cons_succ]
                    refine run_at (i := 22) rfl (by kernel_rfl) (by rfl) (fun K hK => ?_)
                    simp only [List.getElem_toArray, List.getElem_cons_zero, List.getElem_cons_succ]
                    go_simp
                    go_wp2_with fail
                    refine hK.out _ _ (by exact trivial) ?_
                    clear hK K
                    intro hHeld2
                    clear hHeld
                    have hHeld := hHeld2
                    clear hHeld2
                    try simp only [Act.put, List.setIfInBounds_toArray, List.set_cons_zero, List.set_cons_succ]
                    refine wpAnyH_done (by kernel_rfl) ?_ _
                  rotate_left 1
                  refine AllReadyH.cons (o := _) rfl (fun K hK => ?_) AllReadyH.nil
                  focus
                    rw [if_pos (by rfl)]
                    simp only [List.getElem_toArray, List.getElem_cons_zero, List.getElem_cons_succ]
                    go_simp
                    go_wp2_with fail
                    refine hK.out _ _ (by exact trivial) ?_
                    clear hK K
                    intro hHeld2
                    clear hHeld
                    have hHeld := hHeld2
                    clear hHeld2
                    try simp only [Act.put, List.setIfInBounds_toArray, List.set_cons_zero, List.set_cons_succ]
                    (obtain ⟨u43, hu⟩ : ∃ X : World, X = u41.alloc (.cells #[.slice p38 K9 q38, .slice p41 (T6 - K9) q41] tRs) := ⟨_, rfl⟩; rw [← hu]; have HU43 : Hid (u43 = u41.alloc (.cells #[.slice p38 K9 q38, .slice p41 (T6 - K9) q41] tRs)) := hu; have hc43 : u43.cell? ⟨r, 1, none⟩ = some (.slice (some ⟨gr, 0, none⟩) N cap) := HCL.out u43 (by rw [hu]; exact below_next HP41.out.bel (al (Below.refl _ _) _)); clear hu hc41)
                    refine val_at (i := 4) 99 (v := ?_) rfl rfl (by kernel_rfl) (by rfl) ?_ ?_ ?_
                    rotate_left
                    · (go_simp; try with_reducible rfl)
                    · (exact trivial)
                    intro hHeld2
                    clear hHeld
                    have hHeld := hHeld2
                    clear hHeld2
                    simp only [Act.put, List.setIfInBounds_toArray, List.set_cons_zero, List.set_cons_succ]
                    refine run_at (i := 19) rfl (by kernel_rfl) (by rfl) (fun K hK => ?_)
                    simp only [List.getElem_toArray, List.getElem_cons_zero, List.getElem_cons_succ]
                    (go_simp; (try simp only [hwp]); go_at_call 54; refine Calls.mono (HRW.out u41 u43 (.slice p38 K9 q38) (.slice p41 (T6 - K9) q41) HP41.out HU43.out) ?_; rintro e uz ⟨v9, rfl, hrow, hb9⟩; obtain ⟨a9, c9, hv9⟩ := rowS_sl hrow; obtain ⟨R9, hR9⟩ : ∃ R9, R9 = (repL vs p (p + 1) [.slice p38 K9 q38, .slice p41 (T6 - K9) q41]).length := ⟨_, rfl⟩; rw [← hR9] at hv9; obtain ⟨hc9, hf9, h99⟩ := HFN.out u41 u43 uz (.slice p38 K9 q38) (.slice p41 (T6 - K9) q41) HP41.out HU43.out hb9 v9 hrow; subst hv9; have HF9 : Hid _ := h99; clear h99 hrow hb9 hR9 HP41 HU43; go_wp2_with fail)
                    refine hK.out _ _ (by exact trivial) ?_
                    clear hK K
                    intro hHeld2
                    clear hHeld
                    have hHeld := hHeld2
                    clear hHeld2
                    try simp only [Act.put, List.setIfInBounds_toArray, List.set_cons_zero, List.set_cons_succ]
                    refine take_at (i := 20) 115 (v := ?_) rfl rfl (by kernel_rfl) (by kernel_rfl) (by kernel_rfl) (fun _ _ _ h => h) (by rfl) ?_ hHeld ?_
                    rotate_left
                    · (intro w hSw; (try dsimp only at hSw); go_simp; try with_reducible rfl)
                    simp only [Act.put, List.setIfInBounds_toArray, List.set_cons_zero, List.set_cons_succ]
                    refine take_at (i := 21) 116 (v := ?_) rfl rfl (by kernel_rfl) (by kernel_rfl) (by kernel_rfl) (fun _ _ _ h => h) (by rfl) ?_ hHeld ?_
                    rotate_left
                    · (intro w hSw; (try dsimp only at hSw); go_simp; try with_reducible rfl)
                    simp only [Act.put, List.setIfInBounds_toArray, List.set_cons_zero, List.set_cons_succ]
                    refine run_at (i := 22) rfl (by kernel_rfl) (by rfl) (fun K hK => ?_)
                    simp only [List.getElem_toArray, List.getElem_cons_zero, List.getElem_cons_succ]
                    go_simp
                    go_wp2_with fail
                    refine hK.out _ _ (by exact trivial) ?_
                    clear hK K
                    intro hHeld2
                    clear hHeld
                    have hHeld := hHeld2
                    clear hHeld2
                    try simp only [Act.put, List.setIfInBounds_toArray, List.set_cons_zero, List.set_cons_succ]
                    refine wpAnyH_done (by kernel_rfl) ?_ _
          rotate_left 10
          refine AllReadyH.cons (o := _) rfl (fun K hK => ?_) AllReadyH.nil
          focus
            rw [if_pos (by rfl)]
            simp only [List.getElem_toArray, List.getElem_cons_zero, List.getElem_cons_succ]
            go_simp
            go_wp2_with fail
            refine hK.out _ _ (by exact trivial) ?_
            clear hK K
            intro hHeld2
            clear hHeld
            have hHeld := hHeld2
            clear hHeld2
            try simp only [Act.put, List.setIfInBounds_toArray, List.set_cons_zero, List.set_cons_succ]
            (obtain ⟨u44, hu⟩ : ∃ X : World, X = u0.alloc (.cells #[] tRe) := ⟨_, rfl⟩; rw [← hu]; have HP44 : Hid (PairX wc u44 (.slice none 0 0) [] (.slice (some ⟨u0.heap.size, 0, none⟩) 0 0) []) := (by rw [hu]; exact HP0.out.litB); have hc44 : u44.cell? ⟨r, 1, none⟩ = some (.slice (some ⟨gr, 0, none⟩) N cap) := HCL.out u44 HP44.out.bel; clear hu HP0 hc0)
            refine wpAnyH_ready (rs := [4, 8]) (by kernel_rfl) (by simp) ?_
            refine AllReadyH.cons (o := _) rfl (fun K hK => ?_) ?_
            focus
              rw [if_pos (by rfl)]
              refine val_wp 99 (v := ?_) rfl ?_ ?_
              rotate_left
              · (go_simp; try with_reducible rfl)
              refine hK.out _ _ (by exact trivial) ?_
              clear hK K
              intro hHeld2
              clear hHeld
              have hHeld := hHeld2
              clear hHeld2
              simp only [Act.put, List.setIfInBounds_toArray, List.set_cons_zero, List.set_cons_succ]
              refine run_at (i := 8) rfl (by kernel_rfl) (by rfl) (fun K hK => ?_)
              simp only [List.getElem_toArray, List.getElem_cons_zero, List.getElem_cons_succ]
              go_simp
              go_wp2_with fail
              refine hK.out _ _ (by exact trivial) ?_
              clear hK K
              intro hHeld2
              clear hHeld
              have hHeld := hHeld2
              clear hHeld2
              try simp only [Act.put, List.setIfInBounds_toArray, List.set_cons_zero, List.set_cons_succ]
              (obtain ⟨u45, hu⟩ : ∃ X : World, X = u44.alloc (.cells #[] tRe) := ⟨_, rfl⟩; rw [← hu]; have HP45 : Hid (PairX wc u45 (.slice (some ⟨u44.heap.size, 0, none⟩) 0 0) [] (.slice (some ⟨u0.heap.size, 0, none⟩) 0 0) []) := (by rw [hu]; exact HP44.out.lit); have hc45 : u45.cell? ⟨r, 1, none⟩ = some (.slice (some ⟨gr, 0, none⟩) N cap) := HCL.out u45 HP45.out.bel; clear hu HP44 hc44)
              refine run_at (i := 12) rfl (by kernel_rfl) (by rfl) (fun K hK => ?_)
              simp only [List.getElem_toArray, List.getElem_cons_zero, List.getElem_cons_succ]
              (refine wpo_appX _ _ rfl HP45.out (L9.take K9) (by rfl) b6 0 K9 _ HKA.out (by rfl) HRA.out HLA.out ?_; intro p46 q46 u46 hp9; have HP46 : Hid (PairX wc u46 (.slice p46 K9 q46) (L9.take K9) (.slice (some ⟨u0.heap.size, 0, none⟩) 0 0) []) := hp9; have hc46 : u46.cell? ⟨r, 1, none⟩ = some (.slice (some ⟨gr, 0, none⟩) N cap) := HCL.out u46 HP46.out.bel; clear hp9 HP45 hc45)
              refine hK.out _ _ (by exact trivial) ?_
              clear hK K
              intro hHeld2
              clear hHeld
              have hHeld := hHeld2
              clear hHeld2
              try simp only [Act.put, List.setIfInBounds_toArray, List.set_cons_zero, List.set_cons_succ]
              refine run_at (i := 17) rfl (by kernel_rfl) (by rfl) (fun K hK => ?_)
              simp only [List.getElem_toArray, List.getElem_cons_zero, List.getElem_cons_succ]
              (refine wpo_appXB _ _ rfl HP46.out (L9.drop K9) (by rfl) b6 (K9 * 3) (T6 - K9) _ HKB.out (by rfl) HRB.out HLB.out ?_; intro p47 q47 u47 hp9; have HP47 : Hid (PairX wc u47 (.slice p46 K9 q46) (L9.take K9) (.slice p47 (T6 - K9) q47) (L9.drop K9)) := hp9; have hc47 : u47.cell? ⟨r, 1, none⟩ = some (.slice (some ⟨gr, 0, none⟩) N cap) := HCL.out u47 HP47.out.bel; clear hp9 HP46 hc46)
              refine hK.out _ _ (by exact trivial) ?_
              clear hK K
              intro hHeld2
              clear hHeld
              have hHeld := hHeld2
              clear hHeld2
              try simp only [Act.put, List.setIfInBounds_toArray, List.set_cons_zero, List.set_cons_succ]
              refine run_at (i := 18) rfl (by kernel_rfl) (by rfl) (fun K hK => ?_)
              simp only [List.getElem_toArray, List.getElem_cons_zero, List.getElem_cons_succ]
              go_simp
              go_wp2_with fail
              refine hK.out _ _ (by exact trivial) ?_
              clear hK K
              intro hHeld2
              clear hHeld
              have hHeld := hHeld2
              clear hHeld2
              try simp only [Act.put, List.setIfInBounds_toArray, List.set_cons_zero, List.set_cons_succ]
              (obtain ⟨u48, hu⟩ : ∃ X : World, X = u47.alloc (.cells #[.slice p46 K9 q46, .slice p47 (T6 - K9) q47] tRs) := ⟨_, rfl⟩; rw [← hu]; have HU48 : Hid (u48 = u47.alloc (.cells #[.slice p46 K9 q46, .slice p47 (T6 - K9) q47] tRs)) := hu; have hc48 : u48.cell? ⟨r, 1, none⟩ = some (.slice (some ⟨gr, 0, none⟩) N cap) := HCL.out u48 (by rw [hu]; exact below_next HP47.out.bel (al (Below.refl _ _) _)); clear hu hc47)
              refine run_at (i := 19) rfl (by kernel_rfl) (by rfl) (fun K hK => ?_)
              simp only [List.getElem_toArray, List.getElem_cons_zero, List.getElem_cons_succ]
              (go_simp; (try simp only [hwp]); go_at_call 54; refine Calls.mono (HRW.out u47 u48 (.slice p46 K9 q46) (.slice p47 (T6 - K9) q47) HP47.out HU48.out) ?_; rintro e uz ⟨v9, rfl, hrow, hb9⟩; obtain ⟨a9, c9, hv9⟩ := rowS_sl hrow; obtain ⟨R9, hR9⟩ : ∃ R9, R9 = (repL vs p (p + 1) [.slice p46 K9 q46, .slice p47 (T6 - K9) q47]).length := ⟨_, rfl⟩; rw [← hR9] at hv9; obtain ⟨hc9, hf9, h99⟩ := HFN.out u47 u48 uz (.slice p46 K9 q46) (.slice p47 (T6 - K9) q47) HP47.out HU48.out hb9 v9 hrow; subst hv9; have HF9 : Hid _ := h99; clear h99 hrow hb9 hR9 HP47 HU48; go_wp2_with fail)
              refine hK.out _ _ (by exact trivial) ?_
              clear hK K
              intro hHeld2
              clear hHeld
              have hHeld := hHeld2
              clear hHeld2
              try simp only [Act.put, List.setIfInBounds_toArray, List.set_cons_zero, List.set_cons_succ]
              refine take_at (i := 20) 115 (v := ?_) rfl rfl (by kernel_rfl) (by kernel_rfl) (by kernel_rfl) (fun _ _ _ h => h) (by rfl) ?_ hHeld ?_
              rotate_left
              · (intro w hSw; (try dsimp only at hSw); go_simp; try with_reducible rfl)
              simp only [Act.put, List.setIfInBounds_toArray, List.set_cons_zero, List.set_cons_succ]
              refine take_at (i := 21) 116 (v := ?_) rfl rfl (by kernel_rfl) (by kernel_rfl) (by kernel_rfl) (fun _ _ _ h => h) (by rfl) ?_ hHeld ?_
              rotate_left
              · (intro w hSw; (try dsimp only at hSw); go_simp; try with_reducible rfl)
              simp only [Act.put, List.setIfInBounds_toArray, List.set_cons_zero, List.set_cons_succ]
              refine run_at (i := 22) rfl (by kernel_rfl) (by rfl) (fun K hK => ?_)
              simp only [List.getElem_toArray, List.getElem_cons_zero, List.getElem_cons_succ]
              go_simp
              go_wp2_with fail
              refine hK.out _ _ (by exact trivial) ?_
              clear hK K
              intro hHeld2
              clear hHeld
              have hHeld := hHeld2
              clear hHeld2
              try simp only [Act.put, List.setIfInBounds_toArray, List.set_cons_zero, List.set_cons_succ]
              refine wpAnyH_done (by kernel_rfl) ?_ _
            rotate_left 1
            refine AllReadyH.cons (o := _) rfl (fun K hK => ?_) AllReadyH.nil
            focus
              rw [if_pos (by rfl)]
              simp only [List.getElem_toArray, List.getElem_cons_zero, List.getElem_cons_succ]
              go_simp
              go_wp2_with fail
              refine hK.out _ _ (by exact trivial) ?_
              clear hK K
              intro hHeld2
              clear hHeld
              have hHeld := hHeld2
              clear hHeld2
              try simp only [Act.put, List.setIfInBounds_toArray, List.set_cons_zero, List.set_cons_succ]
              (obtain ⟨u49, hu⟩ : ∃ X : World, X = u44.alloc (.cells #[] tRe) := ⟨_, rfl⟩; rw [← hu]; have HP49 : Hid (PairX wc u49 (.slice (some ⟨u44.heap.size, 0, none⟩) 0 0) [] (.slice (some ⟨u0.heap.size, 0, none⟩) 0 0) []) := (by rw [hu]; exact HP44.out.lit); have hc49 : u49.cell? ⟨r, 1, none⟩ = some (.slice (some ⟨gr, 0, none⟩) N cap) := HCL.out u49 HP49.out.bel; clear hu HP44 hc44)
              refine wpAnyH_ready (rs := [4, 12]) (by kernel_rfl) (by simp) ?_
              refine AllReadyH.cons (o := _) rfl (fun K hK => ?_) ?_
              focus
                rw [if_pos (by rfl)]
                refine val_wp 99 (v := ?_) rfl ?_ ?_
                rotate_left
                · (go_simp; try with_reducible rfl)
                refine hK.out _ _ (by exact trivial) ?_
                clear hK K
                intro hHeld2
                clear hHeld
                have hHeld := hHeld2
                clear hHeld2
                simp only [Act.put, List.setIfInBounds_toArray, List.set_cons_zero, List.set_cons_succ]
                refine run_at (i := 12) rfl (by kernel_rfl) (by rfl) (fun K hK => ?_)
                simp only [List.getElem_toArray, List.getElem_cons_zero, List.getElem_cons_succ]
                (refine wpo_appX _ _ rfl HP49.out (L9.take K9) (by rfl) b6 0 K9 _ HKA.out (by rfl) HRA.out HLA.out ?_; intro p50 q50 u50 hp9; have HP50 : Hid (PairX wc u50 (.slice p50 K9 q50) (L9.take K9) (.slice (some ⟨u0.heap.size, 0, none⟩) 0 0) []) := hp9; have hc50 : u50.cell? ⟨r, 1, none⟩ = some (.slice (some ⟨gr, 0, none⟩) N cap) := HCL.out u50 HP50.out.bel; clear hp9 HP49 hc49)
                refine hK.out _ _ (by exact trivial) ?_
                clear hK K
                intro hHeld2
                clear hHeld
                have hHeld := hHeld2
                clear hHeld2
                try simp only [Act.put, List.setIfInBounds_toArray, List.set_cons_zero, List.set_cons_succ]
                refine run_at (i := 17) rfl (by kernel_rfl) (by rfl) (fun K hK => ?_)
                simp only [List.getElem_toArray, List.getElem_cons_zero, List.getElem_cons_succ]
                (refine wpo_appXB _ _ rfl HP50.out (L9.drop K9) (by rfl) b6 (K9 * 3) (T6 - K9) _ HKB.out (by rfl) HRB.out HLB.out ?_; intro p51 q51 u51 hp9; have HP51 : Hid (PairX wc u51 (.slice p50 K9 q50) (L9.take K9) (.slice p51 (T6 - K9) q51) (L9.drop K9)) := hp9; have hc51 : u51.cell? ⟨r, 1, none⟩ = some (.slice (some ⟨gr, 0, none⟩) N cap) := HCL.out u51 HP51.out.bel; clear hp9 HP50 hc50)
                refine hK.out _ _ (by exact trivial) ?_
                clear hK K
                intro hHeld2
                clear hHeld
                have hHeld := hHeld2
                clear hHeld2
                try simp only [Act.put, List.setIfInBounds_toArray, List.set_cons_zero, List.set_cons_succ]
                refine run_at (i := 18) rfl (by kernel_rfl) (by rfl) (fun K hK => ?_)
                simp only [List.getElem_toArray, List.getElem_cons_zero, List.getElem_cons_succ]
                go_simp
                go_wp2_with fail
                refine hK.out _ _ (by exact trivial) ?_
                clear hK K
                intro hHeld2
                clear hHeld
                have hHeld := hHeld2
                clear hHeld2
                try simp only [Act.put, List.setIfInBounds_toArray, List.set_cons_zero, List.set_cons_succ]
                (obtain ⟨u52, hu⟩ : ∃ X : World, X = u51.alloc (.cells #[.slice p50 K9 q50, .slice p51 (T6 - K9) q51] tRs) := ⟨_, rfl⟩; rw [← hu]; have HU52 : Hid (u52 = u51.alloc (.cells #[.slice p50 K9 q50, .slice p51 (T6 - K9) q51] tRs)) := hu; have hc52 : u52.cell? ⟨r, 1, none⟩ = some (.slice (some ⟨gr, 0, none⟩) N cap) := HCL.out u52 (by rw [hu]; exact below_next HP51.out.bel (al (Below.refl _ _) _)); clear hu hc51)
                refine run_at (i := 19) rfl (by kernel_rfl) (by rfl) (fun K hK => ?_)
                simp only [List.getElem_toArray, List.getElem_cons_zero, List.getElem_cons_succ]
                (go_simp; (try simp only [hwp]); go_at_call 54; refine Calls.mono (HRW.out u51 u52 (.slice p50 K9 q50) (.slice p51 (T6 - K9) q51) HP51.out HU52.out) ?_; rintro e uz ⟨v9, rfl, hrow, hb9⟩; obtain ⟨a9, c9, hv9⟩ := rowS_sl hrow; obtain ⟨R9, hR9⟩ : ∃ R9, R9 = (repL vs p (p + 1) [.slice p50 K9 q50, .slice p51 (T6 - K9) q51]).length := ⟨_, rfl⟩; rw [← hR9] at hv9; obtain ⟨hc9, hf9, h99⟩ := HFN.out u51 u52 uz (.slice p50 K9 q50) (.slice p51 (T6 - K9) q51) HP51.out HU52.out hb9 v9 hrow; subst hv9; have HF9 : Hid _ := h99; clear h99 hrow hb9 hR9 HP51 HU52; go_wp2_with fail)
                refine hK.out _ _ (by exact trivial) ?_
                clear hK K
                intro hHeld2
                clear hHeld
                have hHeld := hHeld2
                clear hHeld2
                try simp only [Act.put, List.setIfInBounds_toArray, List.set_cons_zero, List.set_cons_succ]
                refine take_at (i := 20) 115 (v := ?_) rfl rfl (by kernel_rfl) (by kernel_rfl) (by kernel_rfl) (fun _ _ _ h => h) (by rfl) ?_ hHeld ?_
                rotate_left
                · (intro w hSw; (try dsimp only at hSw); go_simp; try with_reducible rfl)
                simp only [Act.put, List.setIfInBounds_toArray, List.set_cons_zero, List.set_cons_succ]
                refine take_at (i := 21) 116 (v := ?_) rfl rfl (by kernel_rfl) (by kernel_rfl) (by kernel_rfl) (fun _ _ _ h => h) (by rfl) ?_ hHeld ?_
                rotate_left
                · (intro w hSw; (try dsimp only at hSw); go_simp; try with_reducible rfl)
                simp only [Act.put, List.setIfInBounds_toArray, List.set_cons_zero, List.set_cons_succ]
                refine run_at (i := 22) rfl (by kernel_rfl) (by rfl) (fun K hK => ?_)
                simp only [List.getElem_toArray, List.getElem_cons_zero, List.getElem_cons_succ]
                go_simp
                go_wp2_with fail
                refine hK.out _ _ (by exact trivial) ?_
                clear hK K
                intro hHeld2
                clear hHeld
                have hHeld := hHeld2
                clear hHeld2
                try simp only [Act.put, List.setIfInBounds_toArray, List.set_cons_zero, List.set_cons_succ]
                refine wpAnyH_done (by kernel_rfl) ?_ _
              rotate_left 1
              refine AllReadyH.cons (o := _) rfl (fun K hK => ?_) AllReadyH.nil
              focus
                rw [if_pos (by rfl)]
                simp only [List.getElem_toArray, List.getElem_cons_zero, List.getElem_cons_succ]
                (refine wpo_appX _ _ rfl HP49.out (L9.take K9) (by rfl) b6 0 K9 _ HKA.out (by rfl) HRA.out HLA.out ?_; intro p53 q53 u53 hp9; have HP53 : Hid (PairX wc u53 (.slice p53 K9 q53) (L9.take K9) (.slice (some ⟨u0.heap.size, 0, none⟩) 0 0) []) := hp9; have hc53 : u53.cell? ⟨r, 1, none⟩ = some (.slice (some ⟨gr, 0, none⟩) N cap) := HCL.out u53 HP53.out.bel; clear hp9 HP49 hc49)
                refine hK.out _ _ (by exact trivial) ?_
                clear hK K
                intro hHeld2
                clear hHeld
                have hHeld := hHeld2
                clear hHeld2
                try simp only [Act.put, List.setIfInBounds_toArray, List.set_cons_zero, List.set_cons_succ]
                refine wpAnyH_ready (rs := [4, 17]) (by kernel_rfl) (by simp) ?_
                refine AllReadyH.cons (o := _) rfl (fun K hK => ?_) ?_
                focus
                  rw [if_pos (by rfl)]
                  refine val_wp 99 (v := ?_) rfl ?_ ?_
                  rotate_left
                  · (go_simp; try with_reducible rfl)
                  refine hK.out _ _ (by exact trivial) ?_
                  clear hK K
                  intro hHeld2
                  clear hHeld
                  have hHeld := hHeld2
                  clear hHeld2
                  simp only [Act.put, List.setIfInBounds_toArray, List.set_cons_zero, List.set_cons_succ]
                  refine run_at (i := 17) rfl (by kernel_rfl) (by rfl) (fun K hK => ?_)
                  simp only [List.getElem_toArray, List.getElem_cons_zero, List.getElem_cons_succ]
                  (refine wpo_appXB _ _ rfl HP53.out (L9.drop K9) (by rfl) b6 (K9 * 3) (T6 - K9) _ HKB.out (by rfl) HRB.out HLB.out ?_; intro p54 q54 u54 hp9; have HP54 : Hid (PairX wc u54 (.slice p53 K9 q53) (L9.take K9) (.slice p54 (T6 - K9) q54) (L9.drop K9)) := hp9; have hc54 : u54.cell? ⟨r, 1, none⟩ = some (.slice (some ⟨gr, 0, none⟩) N cap) := HCL.out u54 HP54.out.bel; clear hp9 HP53 hc53)
                  refine hK.out _ _ (by exact trivial) ?_
                  clear hK K
                  intro hHeld2
                  clear hHeld
                  have hHeld := hHeld2
                  clear hHeld2
                  try simp only [Act.put, List.setIfInBounds_toArray, List.set_cons_zero, List.set_cons_succ]
                  refine run_at (i := 18) rfl (by kernel_rfl) (by rfl) (fun K hK => ?_)
                  simp only [List.getElem_toArray, List.getElem_cons_zero, List.getElem_cons_succ]
                  go_simp
                  go_wp2_with fail
                  refine hK.out _ _ (by exact trivial) ?_
                  clear hK K
                  intro hHeld2
                  clear hHeld
                  have hHeld := hHeld2
                  clear hHeld2
                  try simp only [Act.put, List.setIfInBounds_toArray, List.set_cons_zero, List.set_cons_succ]
                  (obtain ⟨u55, hu⟩ : ∃ X : World, X = u54.alloc (.cells #[.slice p53 K9 q53, .slice p54 (T6 - K9) q54] tRs) := ⟨_, rfl⟩; rw [← hu]; have HU55 : Hid (u55 = u54.alloc (.cells #[.slice p53 K9 q53, .slice p54 (T6 - K9) q54] tRs)) := hu; have hc55 : u55.cell? ⟨r, 1, none⟩ = some (.slice (some ⟨gr, 0, none⟩) N cap) := HCL.out u55 (by rw [hu]; exact below_next HP54.out.bel (al (Below.refl _ _) _)); clear hu hc54)
                  refine run_at (i := 19) rfl (by kernel_rfl) (by rfl) (fun K hK => ?_)
                  simp only [List.getElem_toArray, List.getElem_cons_zero, List.getElem_cons_succ]
                  (go_simp; (try simp only [hwp]); go_at_call 54; refine Calls.mono (HRW.out u54 u55 (.slice p53 K9 q53) (.slice p54 (T6 - K9) q54) HP54.out HU55.out) ?_; rintro e uz ⟨v9, rfl, hrow, hb9⟩; obtain ⟨a9, c9, hv9⟩ := rowS_sl hrow; obtain ⟨R9, hR9⟩ : ∃ R9, R9 = (repL vs p (p + 1) [.slice p53 K9 q53, .slice p54 (T6 - K9) q54]).length := ⟨_, rfl⟩; rw [← hR9] at hv9; obtain ⟨hc9, hf9, h99⟩ := HFN.out u54 u55 uz (.slice p53 K9 q53) (.slice p54 (T6 - K9) q54) HP54.out HU55.out hb9 v9 hrow; subst hv9; have HF9 : Hid _ := h99; clear h99 hrow hb9 hR9 HP54 HU55; go_wp2_with fail)
                  refine hK.out _ _ (by exact trivial) ?_
                  clear hK K
                  intro hHeld2
                  clear hHeld
                  have hHeld := hHeld2
                  clear hHeld2
                  try simp only [Act.put, List.setIfInBounds_toArray, List.set_cons_zero, List.set_cons_succ]
                  refine take_at (i := 20) 115 (v := ?_) rfl rfl (by kernel_rfl) (by kernel_rfl) (by kernel_rfl) (fun _ _ _ h => h) (by rfl) ?_ hHeld ?_
                  rotate_left
                  · (intro w hSw; (try dsimp only at hSw); go_simp; try with_reducible rfl)
                  simp only [Act.put, List.setIfInBounds_toArray, List.set_cons_zero, List.set_cons_succ]
                  refine take_at (i := 21) 116 (v := ?_) rfl rfl (by kernel_rfl) (by kernel_rfl) (by kernel_rfl) (fun _ _ _ h => h) (by rfl) ?_ hHeld ?_
                  rotate_left
                  · (intro w hSw; (try dsimp only at hSw); go_simp; try with_reducible rfl)
                  simp only [Act.put, List.setIfInBounds_toArray, List.set_cons_zero, List.set_cons_succ]
                  refine run_at (i := 22) rfl (by kernel_rfl) (by rfl) (fun K hK => ?_)
                  simp only [List.getElem_toArray, List.getElem_cons_zero, List.getElem_cons_succ]
                  go_simp
                  go_wp2_with fail
                  refine hK.out _ _ (by exact trivial) ?_
                  clear hK K
                  intro hHeld2
                  clear hHeld
                  have hHeld := hHeld2
                  clear hHeld2
                  try simp only [Act.put, List.setIfInBounds_toArray, List.set_cons_zero, List.set_cons_succ]
                  refine wpAnyH_done (by kernel_rfl) ?_ _
                rotate_left 1
                refine AllReadyH.cons (o := _) rfl (fun K hK => ?_) AllReadyH.nil
                focus
                  rw [if_pos (by rfl)]
                  simp only [List.getElem_toArray, List.getElem_cons_zero, List.getElem_cons_succ]
                  (refine wpo_appXB _ _ rfl HP53.out (L9.drop K9) (by rfl) b6 (K9 * 3) (T6 - K9) _ HKB.out (by rfl) HRB.out HLB.out ?_; intro p56 q56 u56 hp9; have HP56 : Hid (PairX wc u56 (.slice p53 K9 q53) (L9.take K9) (.slice p56 (T6 - K9) q56) (L9.drop K9)) := hp9; have hc56 : u56.cell? ⟨r, 1, none⟩ = some (.slice (some ⟨gr, 0, none⟩) N cap) := HCL.out u56 HP56.out.bel; clear hp9 HP53 hc53)
                  refine hK.out _ _ (by exact trivial) ?_
                  clear hK K
                  intro hHeld2
                  clear hHeld
                  have hHeld := hHeld2
                  clear hHeld2
                  try simp only [Act.put, List.setIfInBounds_toArray, List.set_cons_zero, List.set_cons_succ]
                  refine wpAnyH_ready (rs := [4, 18]) (by kernel_rfl) (by simp) ?_
                  refine AllReadyH.cons (o := _) rfl (fun K hK => ?_) ?_
                  focus
                    rw [if_pos (by rfl)]
                    refine val_wp 99 (v := ?_) rfl ?_ ?_
                    rotate_left
                    · (go_simp; try with_reducible rfl)
                    refine hK.out _ _ (by exact trivial) ?_
                    clear hK K
                    intro hHeld2
                    clear hHeld
                    have hHeld := hHeld2
                    clear hHeld2
                    simp only [Act.put, List.setIfInBounds_toArray, List.set_cons_zero, List.set_cons_succ]
                    refine run_at (i := 18) rfl (by kernel_rfl) (by rfl) (fun K hK => ?_)
                    simp only [List.getElem_toArray, List.getElem_cons_zero, List.getElem_cons_succ]
                    go_simp
                    go_wp2_with fail
                    refine hK.out _ _ (by exact trivial) ?_
                    clear hK K
                    intro hHeld2
                    clear hHeld
                    have hHeld := hHeld2
                    clear hHeld2
                    try simp only [Act.put, List.setIfInBounds_toArray, List.set_cons_zero, List.set_cons_succ]
                    (obtain ⟨u57, hu⟩ : ∃ X : World, X = u56.alloc (.cells #[.slice p53 K9 q53, .slice p56 (T6 - K9) q56] tRs) := ⟨_, rfl⟩; rw [← hu]; have HU57 : Hid (u57 = u56.alloc (.cells #[.slice p53 K9 q53, .slice p56 (T6 - K9) q56] tRs)) := hu; have hc57 : u57.cell? ⟨r, 1, none⟩ = some (.slice (some ⟨gr, 0, none⟩) N cap) := HCL.out u57 (by rw [hu]; exact below_next HP56.out.bel (al (Below.refl _ _) _)); clear hu hc56)
                    refine run_at (i := 19) rfl (by kernel_rfl) (by rfl) (fun K hK => ?_)
                    simp only [List.getElem_toArray, List.getElem_cons_zero, List.getElem_cons_succ]
                    (go_simp; (try simp only [hwp]); go_at_call 54; refine Calls.mono (HRW.out u56 u57 (.slice p53 K9 q53) (.slice p56 (T6 - K9) q56) HP56.out HU57.out) ?_; rintro e uz ⟨v9, rfl, hrow, hb9⟩; obtain ⟨a9, c9, hv9⟩ := rowS_sl hrow; obtain ⟨R9, hR9⟩ : ∃ R9, R9 = (repL vs p (p + 1) [.slice p53 K9 q53, .slice p56 (T6 - K9) q56]).length := ⟨_, rfl⟩; rw [← hR9] at hv9; obtain ⟨hc9, hf9, h99⟩ := HFN.out u56 u57 uz (.slice p53 K9 q53) (.slice p56 (T6 - K9) q56) HP56.out HU57.out hb9 v9 hrow; subst hv9; have HF9 : Hid _ := h99; clear h99 hrow hb9 hR9 HP56 HU57; go_wp2_with fail)
                    refine hK.out _ _ (by exact trivial) ?_
                    clear hK K
                    intro hHeld2
                    clear hHeld
                    have hHeld := hHeld2
                    clear hHeld2
                    try simp only [Act.put, List.setIfInBounds_toArray, List.set_cons_zero, List.set_cons_succ]
                    refine take_at (i := 20) 115 (v := ?_) rfl rfl (by kernel_rfl) (by kernel_rfl) (by kernel_rfl) (fun _ _ _ h => h) (by rfl) ?_ hHeld ?_
                    rotate_left
                    · (intro w hSw; (try dsimp only at hSw); go_simp; try with_reducible rfl)
                    simp only [Act.put, List.setIfInBounds_toArray, List.set_cons_zero, List.set_cons_succ]
                    refine take_at (i := 21) 116 (v := ?_) rfl rfl (by kernel_rfl) (by kernel_rfl) (by kernel_rfl) (fun _ _ _ h => h) (by rfl) ?_ hHeld ?_
                    rotate_left
                    · (intro w hSw; (try dsimp only at hSw); go_simp; try with_reducible rfl)
                    simp only [Act.put, List.setIfInBounds_toArray, List.set_cons_zero, List.set_cons_succ]
                    refine run_at (i := 22) rfl (by kernel_rfl) (by rfl) (fun K hK => ?_)
                    simp only [List.getElem_toArray, List.getElem_cons_zero, List.getElem_cons_succ]
                    go_simp
                    go_wp2_with fail
                    refine hK.out _ _ (by exact trivial) ?_
                    clear hK K
                    intro hHeld2
                    clear hHeld
                    have hHeld := hHeld2
                    clear hHeld2
                    try simp only [Act.put, List.setIfInBounds_toArray, List.set_cons_zero, List.set_cons_succ]
                    refine wpAnyH_done (by kernel_rfl) ?_ _
                  rotate_left 1
                  refine AllReadyH.cons (o := _) rfl (fun K hK => ?_) AllReadyH.nil
                  focus
                    rw [if_pos (by rfl)]
                    simp only [List.getElem_toArray, List.getElem_cons_zero, List.getElem_cons_succ]
                    go_simp
                    go_wp2_with fail
                    refine hK.out _ _ (by exact trivial) ?_
                    clear hK K
                    intro hHeld2
                    clear hHeld
                    have hHeld := hHeld2
                    clear hHeld2
                    try simp only [Act.put, List.setIfInBounds_toArray, List.set_cons_zero, List.set_cons_succ]
                    (obtain ⟨u58, hu⟩ : ∃ X : World, X = u56.alloc (.cells #[.slice p53 K9 q53, .slice p56 (T6 - K9) q56] tRs) := ⟨_, rfl⟩; rw [← hu]; have HU58 : Hid (u58 = u56.alloc (.cells #[.slice p53 K9 q53, .slice p56 (T6 - K9) q56] tRs)) := hu; have hc58 : u58.cell? ⟨r, 1, none⟩ = some (.slice (some ⟨gr, 0, none⟩) N cap) := HCL.out u58 (by rw [hu]; exact below_next HP56.out.bel (al (Below.refl _ _) _)); clear hu hc56)
                    refine val_at (i := 4) 99 (v := ?_) rfl rfl (by kernel_rfl) (by rfl) ?_ ?_ ?_
                    rotate_left
                    · (go_simp; try with_reducible rfl)
                    · (exact trivial)
                    intro hHeld2
                    clear hHeld
                    have hHeld := hHeld2
                    clear hHeld2
                    simp only [Act.put, List.setIfInBounds_toArray, List.set_cons_zero, List.set_cons_succ]
                    refine run_at (i := 19) rfl (by kernel_rfl) (by rfl) (fun K hK => ?_)
                    simp only [List.getElem_toArray, List.getElem_cons_zero, List.getElem_cons_succ]
                    (go_simp; (try simp only [hwp]); go_at_call 54; refine Calls.mono (HRW.out u56 u58 (.slice p53 K9 q53) (.slice p56 (T6 - K9) q56) HP56.out HU58.out) ?_; rintro e uz ⟨v9, rfl, hrow, hb9⟩; obtain ⟨a9, c9, hv9⟩ := rowS_sl hrow; obtain ⟨R9, hR9⟩ : ∃ R9, R9 = (repL vs p (p + 1) [.slice p53 K9 q53, .slice p56 (T6 - K9) q56]).length := ⟨_, rfl⟩; rw [← hR9] at hv9; obtain ⟨hc9, hf9, h99⟩ := HFN.out u56 u58 uz (.slice p53 K9 q53) (.slice p56 (T6 - K9) q56) HP56.out HU58.out hb9 v9 hrow; subst hv9; have HF9 : Hid _ := h99; clear h99 hrow hb9 hR9 HP56 HU58; go_wp2_with fail)
                    refine hK.out _ _ (by exact trivial) ?_
                    clear hK K
                    intro hHeld2
                    clear hHeld
                    have hHeld := hHeld2
                    clear hHeld2
                    try simp only [Act.put, List.setIfInBounds_toArray, List.set_cons_zero, List.set_cons_succ]
                    refine take_at (i := 20) 115 (v := ?_) rfl rfl (by kernel_rfl) (by kernel_rfl) (by kernel_rfl) (fun _ _ _ h => h) (by rfl) ?_ hHeld ?_
                    rotate_left
                    · (intro w hSw; (try dsimp only at hSw); go_simp; try with_reducible rfl)
                    simp only [Act.put, List.setIfInBounds_toArray, List.set_cons_zero, List.set_cons_succ]
                    refine take_at (i := 21) 116 (v := ?_) rfl rfl (by kernel_rfl) (by kernel_rfl) (by kernel_rfl) (fun _ _ _ h => h) (by rfl) ?_ hHeld ?_
                    rotate_left
                    · (intro w hSw; (try dsimp only at hSw); go_simp; try with_reducible rfl)
                    simp only [Act.put, List.setIfInBounds_toArray, List.set_cons_zero, List.set_cons_succ]
                    refine run_at (i := 22) rfl (by kernel_rfl) (by rfl) (fun K hK => ?_)
                    simp only [List.getElem_toArray, List.getElem_cons_zero, List.getElem_cons_succ]
                    go_simp
                    go_wp2_with fail
                    refine hK.out _ _ (by exact trivial) ?_
                    clear hK K
                    intro hHeld2
                    clear hHeld
                    have hHeld := hHeld2
                    clear hHeld2
                    try simp only [Act.put, List.setIfInBounds_toArray, List.set_cons_zero, List.set_cons_succ]
                    refine wpAnyH_done (by kernel_rfl) ?_ _
          all_goals
            go_wp2
            go_ret
            obtain ⟨vs9, h1, h2, h3⟩ := HF9.out
            exact ⟨p, i, false, _, vs9, HPI.out, rfl, h1, h2, h3⟩
end
end Go.Proofs.Ytibolgpaolnheac
