import Derived.Test.YtibolgpaolnheacNXq
import Derived.Deep.CutRange
import Derived.Test.YtibolgpaolnheacNXh
import Derived.Test.YtibolgpaolnheacNU
namespace Go.Proofs.Ytibolgpaolnheac
set_option linter.unusedVariables false
set_option linter.unusedSimpArgs false
open Go.RowKit Go.Maps
variable {w w' : World} {r S : Nat} {P : List (List Ent)} {v v' : Value} {vs : List Value}
section
set_option maxRecDepth 20000
set_option maxHeartbeats 6400000
theorem rremove_t (h : RefI w r S P v vs) (ht : Tid S P) (hS : 1 ≤ S ∧ S ≤ 64) (hPl : P.length ≤ 4398046511104) (s1 s2 : Nat) :
    Calls Try.prog 28 #[.pointer (some ⟨r, 0, none⟩), sv (s1, s2)] w fun e w' => ∃ p i ok n v' vs', PlaceIs P (s1, s2) p i ok ∧ e = .returned (.tuple #[.int .u64 ((n : Nat) : Int), .bool ok]) ∧ (ok = false → n = 0) ∧ (ok = true → ∃ h : i < (P.getD p []).length, n = (P.getD p [])[i].n) ∧ RefI w' r S (if ok then remP S P p i else P) v' vs' ∧ (∀ b, footR r v' vs' b → footR r v vs b ∨ w.heap.size ≤ b) ∧ Chg (footR r v vs) w w' := by
  obtain ⟨w1, hw1⟩ : ∃ X : World, X = w.alloc (.cells #[.int .u64 (s1 : Int), .int .u64 (s2 : Int)] tSt) := ⟨_, rfl⟩
  have hb1 : Below w.heap.size w w1 := by rw [hw1]; exact al (Below.refl _ _) _
  have HB1 : Hid (Below w.heap.size w w1) := hb1
  have HI : Hid (RefI w r S P v vs) := h
  have HT : Hid (Tid S P) := ht
  have hlp : ∀ q ∈ P, q.length ≤ 100 := fun q hq => by have := ht.2 q hq; omega
  have HLP : Hid (∀ q ∈ P, q.length ≤ 100) := hlp
  obtain ⟨pa, cap, hv, hcap, hxv⟩ := h.view
  obtain ⟨N, hN⟩ : ∃ N, N = P.length := ⟨_, rfl⟩
  have HN : Hid (N = P.length) := hN
  have HPC : Hid _ := rplace_t (hxv.below hb1) ht.1 hPl hlp s1 s2
  rw [← hN] at hv hPl hcap
  clear h ht hxv hb1 hlp hN
  go_enter Try.func28, Try.ntmps28
  go_wp2_with fail
  rw [← hw1]
  clear hw1
  refine Calls.mono HPC.out ?_
  rintro e w2 ⟨p, i, ok, rfl, hpl, hb2⟩
  have HPI : Hid (PlaceIs P (s1, s2) p i ok) := hpl
  have HB2 : Hid (Below w.heap.size w w2) := below_next HB1.out hb2
  have HI2 : Hid (RefI w2 r S P v vs) := HI.out.below HB2.out
  clear hpl hb2 HPC
  cases ok
  case false =>
    go_wp2
    refine bodyPost_ret (results_tmp2 rfl _ _ _) rfl ?_
    exact ⟨p, i, false, 0, v, vs, HPI.out, rfl, fun _ => rfl, fun h9 => (by cases h9), HI2.out, fun b hb => .inl hb, Chg.of_below HB2.out⟩
  case true =>
    have hne : P ≠ [] := fun e => by have := (HPI.out.nil e).2.2; cases this
    have hpP := HPI.out.lt hne
    have eP : P.getD p [] = P[p] := by simp [List.getD, hpP]
    obtain ⟨hiP, hio, -⟩ := HPI.out.cut HT.out.1 hpP
    obtain ⟨gr, hgr⟩ : ∃ gr, v = .slice (some ⟨gr, 0, none⟩) N cap := by
      rcases HI.out.row.2 with ⟨e, h0⟩ | ⟨g, c9, cur, e, -⟩
      · exact absurd (List.eq_nil_of_length_eq_zero h0) hne
      · rw [hv] at e; cases e; exact ⟨g, hv⟩
    rw [hv] at hgr
    cases hgr
    subst hv
    -- the pages, one by one
    have HPG : Hid (∀ q (hq : q < P.length), ∃ b c, vs[q]? = some (.slice (some ⟨b, 0, none⟩) P[q].length c) ∧ P[q].length ≤ c ∧ ∀ u, Below w2.heap.size w2 u → RdX u (some ⟨b, 0, none⟩) P[q] ∧ u.cell? ⟨gr, q, none⟩ = some (.slice (some ⟨b, 0, none⟩) P[q].length c)) := (fun q hq => by
      obtain ⟨x, hx, hrx⟩ := HI2.out.pg q hq
      have h0 : 0 < P[q].length := HT.out.1.1 _ (List.getElem_mem hq)
      obtain ⟨a9, c9, e9, hc9, h9⟩ := ownX_rd hrx
      obtain ⟨b, hb⟩ : ∃ b, a9 = some ⟨b, 0, none⟩ := by
        rcases hrx.2 with ⟨e, h1⟩ | ⟨g, c8, cur, e, -⟩
        · omega
        · rw [e9] at e; cases e; exact ⟨g, rfl⟩
      subst hb
      refine ⟨b, c9, by rw [hx, e9], hc9, fun u hu => ⟨h9.below hu, ?_⟩⟩
      have hcp : w2.cell? ⟨gr, q, none⟩ = some x := by
        rw [World.ownsRow.cellAt (by have h9 := HI2.out.row; rw [← HN.out] at h9; exact h9) q (by have := HN.out; omega), hx]
      rw [e9] at hcp
      exact (hu.cell (World.block_lt_of_cell? w2 _ hcp)).trans hcp)
    obtain ⟨b, c, hvx, hMc, hrc⟩ := HPG.out p hpP
    obtain ⟨M, hM⟩ : ∃ M, M = P[p].length := ⟨_, rfl⟩
    rw [← hM] at hvx hMc
    have HRC : Hid (∀ u, Below w2.heap.size w2 u → RdX u (some ⟨b, 0, none⟩) P[p] ∧ u.cell? ⟨gr, p, none⟩ = some (.slice (some ⟨b, 0, none⟩) M c)) := (fun u hu => by rw [hM]; exact hrc u hu)
    have HMM : Hid (M = P[p].length) := hM
    have hM100 : M ≤ 100 := by rw [hM]; exact HLP.out _ (List.getElem_mem hpP)
    have hiM : i < M := by rw [hM]; exact hio rfl
    have HCR : Hid (∀ u, Below w2.heap.size w2 u → u.cell? ⟨r, 0, none⟩ = some (.int .i64 (S : Int)) ∧ u.cell? ⟨r, 1, none⟩ = some (.slice (some ⟨gr, 0, none⟩) N cap) ∧ u.frozen? ⟨r, 1, none⟩ = false) := (fun u hu => by
      have h9 := (hu.block r (HI2.out.lt r (.inl rfl))).trans HI2.out.hd
      exact ⟨by rw [cell_of_row _ _ _ _ _ _ h9]; rfl, by rw [cell_of_row _ _ _ _ _ _ h9]; rfl, by simp [World.frozen?, h9]⟩)
    obtain ⟨-, hr2, -⟩ := HCR.out w2 (Below.refl _ _)
    have hp2 := (HRC.out w2 (Below.refl _ _)).2
    obtain ⟨on, hon⟩ : ∃ on, on = (P[p][i]'(hio rfl)).n := ⟨_, rfl⟩
    have HON : Hid (∃ h : i < (P.getD p []).length, on = (P.getD p [])[i].n) := (show ∃ h, _ by
      have h7 : ∀ X, X = P[p] → ∃ h : i < X.length, on = X[i].n := by rintro X rfl; exact ⟨hio rfl, hon⟩
      exact h7 _ eP)
    have hcb : w2.cell? ⟨b, i * 3 + 2, none⟩ = some (.int .u64 (on : Int)) := by
      obtain ⟨b', o', e9, h9⟩ := (HRC.out w2 (Below.refl _ _)).1 i (hio rfl)
      cases e9
      have h8 := h9 2 _ rfl
      rw [Nat.zero_add] at h8
      rw [hon]
      exact h8
    have hpi : (p : Int) < (N : Int) := by have := HN.out; omega
    have hp0 : (0 : Int) ≤ (p : Int) := by omega
    have hi0 : (0 : Int) ≤ (i : Int) := by omega
    have hii : (i : Int) < (M : Int) := by omega
    have hic : (i : Int) ≤ (c : Int) := by omega
    have hicn : i ≤ c := by omega
    have HTI : Hid (i = (P[p].take i).length) := (show _ = _ by rw [List.length_take]; omega)
    have HMI : Hid (M - (i + 1) = (P[p].drop (i + 1)).length) := (show _ = _ by rw [List.length_drop]; omega)
    have HLE : Hid (P[p].length ≤ 100) := (show _ ≤ _ by omega)
    have hS64 := hS.2
    have hiL : i < P[p].length := hio rfl
    clear hrc hM hon
    go_upto_region 7 with (first | (at_builtin; refine wp_appX rfl _ _ rfl w2.heap.size _ [] (P[p].take i) (by rfl) (OwnX.nil _ _) b 0 _ _ HTI.out (by rfl) ((HRC.out w2 (Below.refl _ _)).1.take i) (by have := HLE.out; rw [List.length_take]; simp; omega) (Nat.le_refl _) ?_; intro v4 w4 hown hg hbk; have HO4 : Hid (OwnX w4 w2.heap.size v4 (P[p].take i)) := hown; have HB4 : Hid (Below w2.heap.size w2 w4) := ⟨hg.os, hg.tape, hg.output, hg.size, fun k9 h9 => hg.block k9 h9 (fun e9 => by cases e9)⟩; obtain ⟨a4, c4, hv4, -⟩ := OwnX.val hown; rw [List.nil_append, ← HTI.out] at hv4; subst hv4; clear hown hg hbk))
    obtain ⟨-, hr4, -⟩ := HCR.out w4 HB4.out
    have hp4 := (HRC.out w4 HB4.out).2
    obtain ⟨i1, hi1⟩ : ∃ i1 : Nat, i1 = i + 1 := ⟨_, rfl⟩
    have hi1i : (i : Int) + 1 = (i1 : Int) := by omega
    have hi1M : (i1 : Int) ≤ (M : Int) := by omega
    have hi1c : i1 ≤ c := by omega
    have hi10 : (0 : Int) ≤ (i1 : Int) := by omega
    rw [← hi1] at HMI
    have HCU : Hid (P[p].take i ++ P[p].drop i1 = cutL P[p] i) := (show _ = _ by rw [hi1]; rfl)
    clear hi1
    go_cut [10] from 44 to 55 (fun c9 wx => OwnX wx w2.heap.size c9 (cutL P[p] i) ∧ Below w2.heap.size w2 wx)
    case first =>
      have HTL4 : Hid ((P[p].take i).length + (P[p].drop i1).length ≤ 5000000000000) := (show _ ≤ _ by have := HLE.out; rw [List.length_take, List.length_drop]; omega)
      by_cases hci : c = i1
      · have hMi : M = i1 := by omega
        have HMZ : Hid (P[p].drop i1 = []) := (show _ = _ by apply List.drop_eq_nil_of_le; have := HMM.out; omega)
        subst hci
        subst hMi
        go_wp2_with (first | (at_builtin; refine wp_appX rfl _ _ rfl w2.heap.size _ (P[p].take i) (P[p].drop M) (by rfl) HO4.out _ _ 0 _ (by rw [HMZ.out]; rfl) (by rfl) (by rw [HMZ.out]; exact fun j9 h9 => absurd h9 (Nat.not_lt_zero _)) HTL4.out HB4.out.size ?_; intro v6 w6 hown hg hbk; rw [HCU.out] at hown; have HO6 : Hid _ := hown; have HB6 : Hid (Below w2.heap.size w2 w6) := HB4.out.grown hg HB4.out.size (fun j9 h9 => (World.ownsRow.lt HO4.out j9 h9).1); clear hown hg hbk))
        go_meet
        exact ⟨HO6.out, HB6.out⟩
      · go_wp2_with (first | (at_builtin; refine wp_appX rfl _ _ rfl w2.heap.size _ (P[p].take i) (P[p].drop i1) (by rfl) HO4.out b (i1 * 3) _ _ HMI.out (by rfl) (by have h9 := ((HRC.out w4 HB4.out).1.drop i1); rw [Nat.zero_add] at h9; exact h9) HTL4.out HB4.out.size ?_; intro v6 w6 hown hg hbk; rw [HCU.out] at hown; have HO6 : Hid _ := hown; have HB6 : Hid (Below w2.heap.size w2 w6) := HB4.out.grown hg HB4.out.size (fun j9 h9 => (World.ownsRow.lt HO4.out j9 h9).1); clear hown hg hbk))
        go_meet
        exact ⟨HO6.out, HB6.out⟩
    case rest =>
      obtain ⟨ho6, hb6⟩ := hcut
      obtain ⟨L9, hL9⟩ : ∃ L9, L9 = cutL P[p] i := ⟨_, rfl⟩
      rw [← hL9] at ho6
      have HO6 : Hid (OwnX wc w2.heap.size u10 L9) := ho6
      have HB6 : Hid (Below w2.heap.size w2 wc) := hb6
      obtain ⟨a6, c6, hv6, hc6, hrd6⟩ := OwnX.val ho6
      obtain ⟨T6, hT6⟩ : ∃ T6, T6 = L9.length := ⟨_, rfl⟩
      have hTM : T6 + 1 = M := by rw [hT6, hL9, HMM.out]; exact cutL_len hiL
      have HTL : Hid (T6 = L9.length) := hT6
      have HTM : Hid (T6 + 1 = M) := hTM
      rw [← hT6] at hv6 hc6
      subst hv6
      have HRD6 : Hid (RdX wc a6 L9) := hrd6
      have HCL9 : Hid (cutL (P.getD p []) i = L9) := (show _ = _ by rw [eP, hL9])
      obtain ⟨hs6, hr6, hfr6⟩ := HCR.out wc hb6
      have hp6 := (HRC.out wc hb6).2
      obtain ⟨H9, hH9⟩ : ∃ H9, H9 = S / 2 := ⟨_, rfl⟩
      have hHi : (S : Int) / 2 = (H9 : Int) := by omega
      have HH9 : Hid (H9 = S / 2) := hH9
      have HPL : Hid (N ≤ 4398046511104) := hPl
      have HPP : Hid (p < P.length) := hpP
      clear ho6 hb6 hrd6 hT6 hL9 hH9 hr2 hp2 hcb hr4 hp4 hTM
      have hwp : IntKind.i64.wrap ((p : Int) + 1) = (p : Int) + 1 := by rw [IntKind.wrap_i64]; omega
      -- what is left behind a new row
      have HFN : Hid (∀ (u u5 : World) (us : List Value) (Q : List (List Ent)) (i9 j9 : Nat), Below w2.heap.size w2 u → us.length = Q.length → (∀ (t : Nat) q, Q[t]? = some q → ∃ x, us[t]? = some x ∧ OwnX u w2.heap.size x q) → us.Pairwise apV → Below u.heap.size u u5 → i9 ≤ P.length → i9 ≤ j9 → ∀ v5, u5.ownsRow u.heap.size tRs 1 v5 (repL vs i9 j9 us).length (repL vs i9 j9 us) → remP S P p i = repL P i9 j9 Q → u5.cell? ⟨r, 1, none⟩ = some (.slice (some ⟨gr, 0, none⟩) N cap) ∧ u5.frozen? ⟨r, 1, none⟩ = false ∧ ∃ vs9, RefI (u5.setCell ⟨r, 1, none⟩ v5) r S (remP S P p i) v5 vs9 ∧ (∀ k, footR r v5 vs9 k → footR r (.slice (some ⟨gr, 0, none⟩) N cap) vs k ∨ w.heap.size ≤ k) ∧ Chg (footR r (.slice (some ⟨gr, 0, none⟩) N cap) vs) w (u5.setCell ⟨r, 1, none⟩ v5)) := (fun u u5 us Q i9 j9 hbu hql hq hqa hb5 hi9 hij v5 hrow hre => by
        obtain ⟨-, hc9, hf9⟩ := HCR.out u5 (below_next hbu hb5)
        obtain ⟨h1, h2, h3⟩ := HI2.out.newRow hbu us Q hql hq hqa hb5 i9 j9 hi9 hij hrow hbu.size
        refine ⟨hc9, hf9, _, by rw [hre]; exact h1, fun k hk => (h2 k hk).imp_right (fun h9 => Nat.le_trans HB2.out.size h9), ?_⟩
        exact (Chg.of_below HB2.out).trans (G := footR r (.slice (some ⟨gr, 0, none⟩) N cap) vs) h3 (fun k e => .inl e))
      by_cases hT0 : T6 = 0
      · have HRE : Hid (remP S P p i = repL P p (p + 1) []) := (show _ = _ by unfold remP; rw [HCL9.out, ← HTL.out, if_pos hT0])
        subst hT0
        go_wp2_with fail
        have HCA := HI2.out.rowCall HN.out HPL.out HB6.out p (p + 1) (Nat.le_succ _) (by have := HN.out; have := HPP.out; omega) (.slice none 0 0) [] (.inl ⟨rfl, rfl⟩) (fun x hx => by cases hx) (by decide)
        refine Calls.mono HCA ?_
        rintro e u5 ⟨v5, rfl, hrow, hb5⟩
        obtain ⟨a9, c9, hv9⟩ := rowS_sl hrow
        obtain ⟨R9, hR9⟩ : ∃ R9, R9 = (repL vs p (p + 1) []).length := ⟨_, rfl⟩
        rw [← hR9] at hv9
        obtain ⟨hc9, hf9, h99⟩ := HFN.out wc u5 [] [] p (p + 1) HB6.out rfl (fun t q hq => by simp at hq) List.Pairwise.nil hb5 (Nat.le_of_lt HPP.out) (Nat.le_succ _) v5 hrow HRE.out
        subst hv9
        have HF9 : Hid _ := h99
        clear h99 hrow hb5 hR9 HCA
        go_wp2
        refine bodyPost_ret (results_tmp2 rfl _ _ _) rfl ?_
        obtain ⟨vs9, h1, h2, h3⟩ := HF9.out
        exact ⟨p, i, true, on, _, vs9, HPI.out, rfl, (fun h9 => by cases h9), fun _ => HON.out, h1, h2, h3⟩
      · have hT0i : ((T6 : Int) == 0) = false := by simp; exact hT0
        have HT0 : Hid (¬ T6 = 0) := hT0
        have HTE : Hid (∃ b6, a6 = some ⟨b6, 0, none⟩) := (show ∃ b6, _ by
          rcases HO6.out.2 with ⟨e, h0⟩ | ⟨g9, c9, cur9, e, -⟩
          · exact absurd (HTL.out.trans h0) hT0
          · cases e; exact ⟨_, rfl⟩)
        obtain ⟨b6, rfl⟩ := HTE.out
        clear hT0 HTE
        -- the page behind it
        by_cases hj : p + 1 < N ∧ T6 + (P.getD (p + 1) []).length ≤ H9
        · obtain ⟨hpN, hle⟩ := hj
          have hqP : p + 1 < P.length := by have := HN.out; omega
          have eQ : P.getD (p + 1) [] = P[p + 1] := by simp [List.getD, hqP]
          obtain ⟨b7, c7, -, hMc7, hrc7⟩ := HPG.out (p + 1) hqP
          obtain ⟨M7, hM7⟩ : ∃ M7, M7 = P[p + 1].length := ⟨_, rfl⟩
          have HRE : Hid (remP S P p i = repL P p (p + 2) [L9 ++ P[p + 1]]) := (show _ = _ by
            unfold remP
            rw [HCL9.out, ← HTL.out, if_neg HT0.out, if_pos ⟨by have := HN.out; omega, by rw [← HH9.out]; exact hle⟩, eQ])
          have hM7b : M7 ≤ 100 := by rw [hM7]; exact HLP.out _ (List.getElem_mem hqP)
          rw [eQ, ← hM7] at hle
          obtain ⟨hrd7, hp7⟩ := hrc7 wc HB6.out
          rw [← hM7] at hp7
          have HRD7 : Hid (RdX wc (some ⟨b7, 0, none⟩) P[p + 1]) := hrd7
          have HM7 : Hid (M7 = P[p + 1].length) := hM7
          have hpNi : (p : Int) + 1 < (N : Int) := by omega
          have hpN0 : (0 : Int) ≤ (p : Int) + 1 := by omega
          have hlei : (T6 : Int) + (M7 : Int) ≤ (H9 : Int) := by omega
          have HTL4 : Hid (L9.length + P[p + 1].length ≤ 5000000000000) := (show _ ≤ _ by have := HTL.out; have := HTM.out; have := HM7.out; omega)
          clear hrc7 hrd7 hM7 eQ hle
          go_upto_region 14 with (first | (at_builtin; refine wp_appX rfl _ _ rfl w2.heap.size _ L9 P[p + 1] (by rfl) HO6.out b7 0 _ _ HM7.out (by rfl) HRD7.out HTL4.out HB6.out.size ?_; intro v8 w8 hown hg hbk; have HO8 : Hid (OwnX w8 w2.heap.size v8 (L9 ++ P[p + 1])) := hown; have HB8 : Hid (Below w2.heap.size w2 w8) := HB6.out.grown hg HB6.out.size (fun j9 h9 => (World.ownsRow.lt HO6.out j9 h9).1); obtain ⟨a8, c8, hv8, -⟩ := OwnX.val hown; obtain ⟨T8, hT8⟩ : ∃ T8, T8 = (L9 ++ P[p + 1]).length := ⟨_, rfl⟩; rw [← hT8] at hv8; subst hv8; clear hown hg hbk hT8))
          obtain ⟨-, hr8, -⟩ := HCR.out w8 HB8.out
          obtain ⟨w9, hw9⟩ : ∃ X : World, X = w8.alloc (.cells #[.slice a8 T8 c8] tRs) := ⟨_, rfl⟩
          have HB9 : Hid (Below w2.heap.size w2 w9) := (show Below _ _ _ by rw [hw9]; exact below_next HB8.out (al (Below.refl _ _) _))
          have HO9 : Hid (OwnX w9 w2.heap.size (.slice a8 T8 c8) (L9 ++ P[p + 1])) := (show OwnX _ _ _ _ by rw [hw9]; exact OwnX.below HO8.out (al (Below.refl _ _) _))
          have HCA : Hid _ := HI2.out.rowCall HN.out HPL.out HB9.out p (p + 2) (by omega) (by omega) (.slice (some ⟨w8.heap.size, 0, none⟩) 1 1) [.slice a8 T8 c8] (.inr ⟨_, 1, 1, rfl, rfl, one_us (by rw [hw9]; exact heap_alloc_new w8 _)⟩) (by intro x hx; obtain rfl := List.mem_singleton.1 hx; rfl) (by simp)
          go_wp2_with fail
          rw [← hw9]
          clear hw9
          refine Calls.mono HCA.out ?_
          rintro e u5 ⟨v5, rfl, hrow, hb5⟩
          obtain ⟨a9, c9, hv9⟩ := rowS_sl hrow
          obtain ⟨R9, hR9⟩ : ∃ R9, R9 = (repL vs p (p + 2) [.slice a8 T8 c8]).length := ⟨_, rfl⟩
          rw [← hR9] at hv9
          obtain ⟨hc9, hf9, h99⟩ := HFN.out w9 u5 [.slice a8 T8 c8] [L9 ++ P[p + 1]] p (p + 2) HB9.out rfl (by
            intro t q hq
            match t, hq with
            | 0, hq => cases hq; exact ⟨_, rfl, HO9.out⟩
            | t + 1, hq => simp at hq) (List.pairwise_singleton _ _) hb5 (Nat.le_of_lt HPP.out) (by omega) v5 hrow HRE.out
          subst hv9
          have HF9 : Hid _ := h99
          clear h99 hrow hb5 hR9 HCA
          go_wp2
          refine bodyPost_ret (results_tmp2 rfl _ _ _) rfl ?_
          obtain ⟨vs9, h1, h2, h3⟩ := HF9.out
          exact ⟨p, i, true, on, _, vs9, HPI.out, rfl, (fun h9 => by cases h9), fun _ => HON.out, h1, h2, h3⟩
        · have HJ : Hid (¬ (p + 1 < P.length ∧ L9.length + (P.getD (p + 1) []).length ≤ S / 2)) := (show ¬ _ by rw [← HN.out, ← HTL.out, ← HH9.out]; exact hj)
          rename World => wk
          go_upto_region 12 with fail
          go_cut [83] from 84 to 107 (fun c9 wx => c9 = .bool false ∧ wx = wk)
          case first =>
            by_cases hpN : p + 1 < N
            · have hqP : p + 1 < P.length := by have := HN.out; omega
              have eQ : P.getD (p + 1) [] = P[p + 1] := by simp [List.getD, hqP]
              have hle : ¬ T6 + P[p + 1].length ≤ H9 := fun h9 => hj ⟨hpN, by rw [eQ]; exact h9⟩
              obtain ⟨b7, c7, -, -, hrc7⟩ := HPG.out (p + 1) hqP
              obtain ⟨M7, hM7⟩ : ∃ M7, M7 = P[p + 1].length := ⟨_, rfl⟩
              have hM7b : M7 ≤ 100 := by rw [hM7]; exact HLP.out _ (List.getElem_mem hqP)
              rw [← hM7] at hle
              obtain ⟨-, hp7⟩ := hrc7 wk HB6.out
              rw [← hM7] at hp7
              have hTMb : T6 ≤ 100 := by have := HTM.out; omega
              have hpNi : (p : Int) + 1 < (N : Int) := by omega
              have hpN0 : (0 : Int) ≤ (p : Int) + 1 := by omega
              have hlei : ¬ (T6 : Int) + (M7 : Int) ≤ (H9 : Int) := by omega
              clear hrc7 hM7 eQ hle hj
              go_wp2
              go_meet
              exact ⟨rfl, rfl⟩
            · have hpNi : ¬ (p : Int) + 1 < (N : Int) := by omega
              clear hj
              go_wp2
              go_meet
              exact ⟨rfl, rfl⟩
          case rest =>
            obtain ⟨rfl, rfl⟩ := hcut
            clear hj
            by_cases hj : 0 < p ∧ (P.getD (p - 1) []).length + T6 ≤ H9
            · obtain ⟨hpN, hle⟩ := hj
              obtain ⟨q0, hq0⟩ : ∃ q0, q0 = p - 1 := ⟨_, rfl⟩
              have hqP : q0 < P.length := by have := HPP.out; omega
              rw [← hq0] at hle
              have eQ : P.getD q0 [] = P[q0] := by simp [List.getD, hqP]
              obtain ⟨b7, c7, -, hMc7, hrc7⟩ := HPG.out q0 hqP
              obtain ⟨M7, hM7⟩ : ∃ M7, M7 = P[q0].length := ⟨_, rfl⟩
              have HRE : Hid (remP S P p i = repL P q0 (p + 1) [P[q0] ++ L9]) := (show _ = _ by
                unfold remP
                rw [HCL9.out, if_neg (by rw [← HTL.out]; exact HT0.out), if_neg HJ.out, ← hq0, if_pos ⟨hpN, by rw [← HH9.out, ← HTL.out]; exact hle⟩, eQ])
              have hM7b : M7 ≤ 100 := by rw [hM7]; exact HLP.out _ (List.getElem_mem hqP)
              rw [eQ, ← hM7] at hle
              have HRC7 : Hid (∀ u, Below w2.heap.size w2 u → RdX u (some ⟨b7, 0, none⟩) P[q0] ∧ u.cell? ⟨gr, q0, none⟩ = some (.slice (some ⟨b7, 0, none⟩) M7 c7)) := (fun u hu => by rw [hM7]; exact hrc7 u hu)
              obtain ⟨-, hp7⟩ := HRC7.out wc HB6.out
              have HM7 : Hid (M7 = P[q0].length) := hM7
              have hTMb : T6 ≤ 100 := by have := HTM.out; omega
              have hpN0 : (0 : Int) < (p : Int) := by omega
              have hqi : (p : Int) - 1 = (q0 : Int) := by omega
              have hqN : (q0 : Int) < (N : Int) := by have := HN.out; omega
              have hq00 : (0 : Int) ≤ (q0 : Int) := by omega
              have hlei : (M7 : Int) + (T6 : Int) ≤ (H9 : Int) := by omega
              have HTL4 : Hid (P[q0].length + L9.length ≤ 5000000000000) := (show _ ≤ _ by have := HTL.out; have := HM7.out; omega)
              have HTL5 : Hid (([] : List Ent).length + P[q0].length ≤ 5000000000000) := (show _ ≤ _ by have := HM7.out; simp; omega)
              have HQ0 : Hid (q0 = p - 1) := hq0
              clear hrc7 hM7 eQ hle hq0
              have HOd : Hid (OwnX (wc.alloc (.cells #[] tRe)) w2.heap.size (.slice (some ⟨wc.heap.size, 0, none⟩) 0 0) []) := (PairX.init wc).lit.oa.base HB6.out.size
              have HBd : Hid (Below w2.heap.size w2 (wc.alloc (.cells #[] tRe))) := below_next HB6.out (al (Below.refl _ _) _)
              have hrd := (HCR.out _ HBd.out).2.1
              have hpd := (HRC7.out _ HBd.out).2
              go_upto_region 17 with (first | (at_builtin; refine wp_appX rfl _ _ rfl w2.heap.size _ [] P[q0] (by rfl) HOd.out b7 0 _ _ HM7.out (by rfl) (HRC7.out _ HBd.out).1 HTL5.out HBd.out.size ?_; intro v8 w8 hown hg hbk; have HO8 : Hid (OwnX w8 w2.heap.size v8 P[q0]) := hown; have HBC : Hid (Below wc.heap.size wc w8) := (al (Below.refl wc.heap.size wc) _).grown hg (al (Below.refl wc.heap.size wc) _).size (fun j9 h9 => by cases h9; exact Nat.le_refl _); obtain ⟨a8, c8, hv8, -⟩ := OwnX.val hown; rw [List.nil_append, ← HM7.out] at hv8; subst hv8; clear hown hg hbk))
              have HB8 : Hid (Below w2.heap.size w2 w8) := below_next HB6.out HBC.out
              clear hrd hpd
              go_upto_region 18 with (first | (at_builtin; refine wp_appX rfl _ _ rfl w2.heap.size _ P[q0] L9 (by rfl) HO8.out b6 0 _ _ HTL.out (by rfl) (HRD6.out.below HBC.out) HTL4.out HB8.out.size ?_; intro v10 w10 hown hg hbk; have HO10 : Hid (OwnX w10 w2.heap.size v10 (P[q0] ++ L9)) := hown; have HB10 : Hid (Below w2.heap.size w2 w10) := HB8.out.grown hg HB8.out.size (fun j9 h9 => (World.ownsRow.lt HO8.out j9 h9).1); obtain ⟨a10, c10, hv10, -⟩ := OwnX.val hown; obtain ⟨T10, hT10⟩ : ∃ T10, T10 = (P[q0] ++ L9).length := ⟨_, rfl⟩; rw [← hT10] at hv10; subst hv10; clear hown hg hbk hT10))
              obtain ⟨-, hr10, -⟩ := HCR.out w10 HB10.out
              obtain ⟨w9, hw9⟩ : ∃ X : World, X = w10.alloc (.cells #[.slice a10 T10 c10] tRs) := ⟨_, rfl⟩
              have HB9 : Hid (Below w2.heap.size w2 w9) := (show Below _ _ _ by rw [hw9]; exact below_next HB10.out (al (Below.refl _ _) _))
              have HO9 : Hid (OwnX w9 w2.heap.size (.slice a10 T10 c10) (P[q0] ++ L9)) := (show OwnX _ _ _ _ by rw [hw9]; exact OwnX.below HO10.out (al (Below.refl _ _) _))
              have HCA : Hid _ := HI2.out.rowCall HN.out HPL.out HB9.out q0 (p + 1) (by have := HQ0.out; omega) (by have := HN.out; have := HPP.out; omega) (.slice (some ⟨w10.heap.size, 0, none⟩) 1 1) [.slice a10 T10 c10] (.inr ⟨_, 1, 1, rfl, rfl, one_us (by rw [hw9]; exact heap_alloc_new w10 _)⟩) (by intro x hx; obtain rfl := List.mem_singleton.1 hx; rfl) (by simp)
              go_wp2_with fail
              rw [← hw9]
              clear hw9
              refine Calls.mono HCA.out ?_
              rintro e u5 ⟨v5, rfl, hrow, hb5⟩
              obtain ⟨a9, c9, hv9⟩ := rowS_sl hrow
              obtain ⟨R9, hR9⟩ : ∃ R9, R9 = (repL vs q0 (p + 1) [.slice a10 T10 c10]).length := ⟨_, rfl⟩
              rw [← hR9] at hv9
              obtain ⟨hc9, hf9, h99⟩ := HFN.out w9 u5 [.slice a10 T10 c10] [P[q0] ++ L9] q0 (p + 1) HB9.out rfl (by
                intro t q hq
                match t, hq with
                | 0, hq => cases hq; exact ⟨_, rfl, HO9.out⟩
                | t + 1, hq => simp at hq) (List.pairwise_singleton _ _) hb5 (Nat.le_of_lt hqP) (by have := HQ0.out; omega) v5 hrow HRE.out
              subst hv9
              have HF9 : Hid _ := h99
              clear h99 hrow hb5 hR9 HCA
              go_wp2
              refine bodyPost_ret (results_tmp2 rfl _ _ _) rfl ?_
              obtain ⟨vs9, h1, h2, h3⟩ := HF9.out
              exact ⟨p, i, true, on, _, vs9, HPI.out, rfl, (fun h9 => by cases h9), fun _ => HON.out, h1, h2, h3⟩
            · have HRE : Hid (remP S P p i = repL P p (p + 1) [L9]) := (show _ = _ by
                unfold remP
                rw [HCL9.out, if_neg (by rw [← HTL.out]; exact HT0.out), if_neg HJ.out, if_neg (by rw [← HH9.out, ← HTL.out]; exact hj)])
              have hfz : wc.frozen? ⟨gr, p, none⟩ = false := by
                obtain ⟨gcur, hgc⟩ := rowX_blk HI2.out.row gr rfl
                simp [World.frozen?, (HB6.out.block gr (Array.getElem?_eq_some_iff.1 hgc).1).trans hgc]
              have HF9 : Hid (∃ vs9, RefI (wc.setCell ⟨gr, p, none⟩ (.slice (some ⟨b6, 0, none⟩) T6 c6)) r S (remP S P p i) (.slice (some ⟨gr, 0, none⟩) N cap) vs9 ∧ (∀ k, footR r (.slice (some ⟨gr, 0, none⟩) N cap) vs9 k → footR r (.slice (some ⟨gr, 0, none⟩) N cap) vs k ∨ w.heap.size ≤ k) ∧ Chg (footR r (.slice (some ⟨gr, 0, none⟩) N cap) vs) w (wc.setCell ⟨gr, p, none⟩ (.slice (some ⟨b6, 0, none⟩) T6 c6))) := (show ∃ _, _ by
                obtain ⟨h1, h2, h3⟩ := HI2.out.setRow HN.out HB6.out p HPP.out HO6.out
                refine ⟨_, by rw [HRE.out]; exact h1, fun k hk => (h2 k hk).imp_right (fun h9 => Nat.le_trans HB2.out.size h9), ?_⟩
                exact (Chg.of_below HB2.out).trans (G := footR r (.slice (some ⟨gr, 0, none⟩) N cap) vs) h3 (fun k e => .inl e))
              by_cases hpN : 0 < p
              · obtain ⟨q0, hq0⟩ : ∃ q0, q0 = p - 1 := ⟨_, rfl⟩
                have hqP : q0 < P.length := by have := HPP.out; omega
                have eQ : P.getD q0 [] = P[q0] := by simp [List.getD, hqP]
                have hle : ¬ P[q0].length + T6 ≤ H9 := fun h9 => hj ⟨hpN, by rw [← hq0, eQ]; exact h9⟩
                obtain ⟨b7, c7, -, -, hrc7⟩ := HPG.out q0 hqP
                obtain ⟨M7, hM7⟩ : ∃ M7, M7 = P[q0].length := ⟨_, rfl⟩
                have hM7b : M7 ≤ 100 := by rw [hM7]; exact HLP.out _ (List.getElem_mem hqP)
                rw [← hM7] at hle
                obtain ⟨-, hp7⟩ := hrc7 wc HB6.out
                rw [← hM7] at hp7
                have hTMb : T6 ≤ 100 := by have := HTM.out; omega
                have hpN0 : (0 : Int) < (p : Int) := by omega
                have hqi : (p : Int) - 1 = (q0 : Int) := by omega
                have hqN : (q0 : Int) < (N : Int) := by have := HN.out; omega
                have hq00 : (0 : Int) ≤ (q0 : Int) := by omega
                have hlei : ¬ (M7 : Int) + (T6 : Int) ≤ (H9 : Int) := by omega
                clear hrc7 hM7 eQ hle hq0 hj
                go_wp2
                refine bodyPost_ret (results_tmp2 rfl _ _ _) rfl ?_
                obtain ⟨vs9, h1, h2, h3⟩ := HF9.out
                exact ⟨p, i, .inr ⟨HPI.out, on, rfl, HON.out, _, vs9, h1, h2, h3⟩⟩
              · have hpN0 : ¬ (0 : Int) < (p : Int) := by omega
                clear hj
                go_wp2
                refine bodyPost_ret (results_tmp2 rfl _ _ _) rfl ?_
                obtain ⟨vs9, h1, h2, h3⟩ := HF9.out
                exact ⟨p, i, .inr ⟨HPI.out, on, rfl, HON.out, _, vs9, h1, h2, h3⟩⟩
end
end Go.Proofs.Ytibolgpaolnheac
namespace Go.Proofs.Ytibolgpaolnheac
set_option linter.unusedVariables false
set_option linter.unusedSimpArgs false
open Go.RowKit Go.Maps
/-- entries as numbers -/
def nmE (l : List Ent) : List Nat := l.flatMap (fun x => [x.st.1, x.st.2, x.n])
theorem nmE_snoc (l : List Ent) (x : Ent) : nmE (l ++ [x]) = nmE l ++ [x.st.1, x.st.2, x.n] := by simp [nmE]
theorem nmE_len (l : List Ent) : (nmE l).length = l.length * 3 := by
  induction l with
  | nil => rfl
  | cons x l ih =>
    unfold nmE at *
    rw [List.flatMap_cons, List.length_append, ih, List.length_cons]
    simp
    omega
section
set_option maxRecDepth 20000
set_option maxHeartbeats 6400000
theorem entries_t (a : Option Addr) (ca : Nat) (F : List Ent) (w : World) (hr : RdX w a F) (m : Nat) (hm : m ≤ 64) (hF : F.length ≤ 4398046511104) :
    Calls Try.prog 35 #[.slice a F.length ca, .int .i64 (m : Int)] w fun e w' => ∃ v, e = .returned v ∧ OwnU w' w.heap.size v (nmE (F.take m)) ∧ Below w.heap.size w w' := by
  obtain ⟨N, hN⟩ : ∃ N, N = F.length := ⟨_, rfl⟩
  rw [← hN] at hF ⊢
  have HN : Hid (N = F.length) := hN
  have HR : Hid (RdX w a F) := hr
  clear hr hN
  go_enter Try.func35, Try.ntmps35
  go_wp2_with fail
  go_loopw [5, 6] (fun l i wr => ∃ k : Nat, k ≤ N ∧ k ≤ m ∧ i = .int .i64 (k : Int) ∧ OwnU wr w.heap.size l (nmE (F.take k)) ∧ Below w.heap.size w wr) (fun _ i _ => N - (intOf i).toNat)
  case atStart => exact ⟨0, Nat.zero_le _, Nat.zero_le _, rfl, OwnU.nil _ _, Below.refl _ _⟩
  case round =>
    obtain ⟨k, hk, hkm, rfl, hown, hbel⟩ := hrel
    have HBEL : Hid (Below w.heap.size w wr) := hbel
    have HOW : Hid (OwnU wr w.heap.size u5 (nmE (F.take k))) := hown
    obtain ⟨al9, cl9, hv9, -⟩ := OwnU.val hown
    obtain ⟨T0, hT0⟩ : ∃ T0, T0 = (nmE (F.take k)).length := ⟨_, rfl⟩
    have HLE : Hid ((nmE (F.take k)).length ≤ 4398046511104) := (show _ ≤ _ by rw [nmE_len, List.length_take]; omega)
    rw [← hT0] at hv9
    subst hv9
    clear hown hbel hT0
    by_cases hlt : k < N
    · have hki : (k : Int) < (N : Int) := by omega
      by_cases hlm : k < m
      · have hkmi : (k : Int) < (m : Int) := by omega
        have hkF : k < F.length := by have := HN.out; omega
        obtain ⟨b, o, rfl, hr⟩ := HR.out k hkF
        obtain ⟨t1, t2, tn, htx⟩ : ∃ t1 t2 tn, F[k] = ⟨(t1, t2), tn⟩ := ⟨_, _, _, rfl⟩
        rw [htx] at hr
        have HTK : Hid (nmE (F.take (k + 1)) = nmE (F.take k) ++ [t1, t2, tn]) := (show _ = _ by rw [List.take_succ_eq_append_getElem hkF, nmE_snoc, htx])
        have hl4 : ∀ u, Below w.heap.size w u → (Instr.loadAt tSt (.pointer (some ⟨b, o + k * 3, none⟩))).run Try.prog u = .ok (sv (t1, t2)) u := fun u hu => load_st u _ _ (t1, t2) (range_st (e := ⟨(t1, t2), tn⟩) (rangeAt_below hr hu))
        have hA5 : ∀ u, Below w.heap.size w u → u.cell? ⟨b, o + k * 3 + 2, none⟩ = some (.int .u64 (tn : Int)) := fun u hu => (rangeAt_below hr hu) 2 _ rfl
        have hk0 : (0 : Int) ≤ (k : Int) := by omega
        clear hr htx
        go_wp2_with fail
        refine wp_region_held_drew (S := (fun u => Below w.heap.size w u)) (by kernel_rfl) (by first | exact HBEL.out.drew | assumption) (fun hHeld => ?_)
        refine take_at (i := 0) 18 (v := ?_) rfl rfl (by kernel_rfl) (by kernel_rfl) (by kernel_rfl) (fun _ _ _ h => h) (by rfl) ?_ hHeld ?_
        rotate_left
        · (intro w hSw; (try dsimp only at hSw); go_simp; try with_reducible rfl)
        simp only [Act.put, List.setIfInBounds_toArray, List.set_cons_zero, List.set_cons_succ]
        refine take_at (i := 1) 19 (v := ?_) rfl rfl (by kernel_rfl) (by kernel_rfl) (by kernel_rfl) (fun _ _ _ h => h) (by rfl) ?_ hHeld ?_
        rotate_left
        · (intro w hSw; (try dsimp only at hSw); go_simp; try with_reducible rfl)
        simp only [Act.put, List.setIfInBounds_toArray, List.set_cons_zero, List.set_cons_succ]
        refine take_at (i := 2) 20 (v := ?_) rfl rfl (by kernel_rfl) (by kernel_rfl) (by kernel_rfl) (fun _ _ _ h => h) (by rfl) ?_ hHeld ?_
        rotate_left
        · (intro w hSw; (try dsimp only at hSw); go_simp; try with_reducible rfl)
        simp only [Act.put, List.setIfInBounds_toArray, List.set_cons_zero, List.set_cons_succ]
        refine take_at (i := 3) 21 (v := ?_) rfl rfl (by kernel_rfl) (by kernel_rfl) (by kernel_rfl) (fun _ _ _ h => h) (by rfl) ?_ hHeld ?_
        rotate_left
        · (intro w hSw; (try dsimp only at hSw); go_simp; try with_reducible rfl)
        simp only [Act.put, List.setIfInBounds_toArray, List.set_cons_zero, List.set_cons_succ]
        refine take_at (i := 4) 22 (v := ?_) rfl rfl (by kernel_rfl) (by kernel_rfl) (by kernel_rfl) (fun _ _ _ h => h) (by rfl) ?_ hHeld ?_
        rotate_left
        · (intro w hSw; (try dsimp only at hSw); go_simp; try with_reducible rfl)
        simp only [Act.put, List.setIfInBounds_toArray, List.set_cons_zero, List.set_cons_succ]
        refine take_at (i := 5) 23 (v := sv (t1, t2)) rfl rfl (by kernel_rfl) (by kernel_rfl) (by kernel_rfl) (fun _ _ _ h => h) (by rfl) ?_ hHeld ?_
        · (intro w hSw; refine exec_load (by rfl) ?_; exact hl4 w hSw)
        simp only [Act.put, List.setIfInBounds_toArray, List.set_cons_zero, List.set_cons_succ]
        refine take_at (i := 6) 24 (v := ?_) rfl rfl (by kernel_rfl) (by kernel_rfl) (by kernel_rfl) (fun _ _ _ h => h) (by rfl) ?_ hHeld ?_
        rotate_left
        · (intro w hSw; (try dsimp only at hSw); go_simp; try with_reducible rfl)
        simp only [Act.put, List.setIfInBounds_toArray, List.set_cons_zero, List.set_cons_succ]
        refine take_at (i := 7) 25 (v := ?_) rfl rfl (by kernel_rfl) (by kernel_rfl) (by kernel_rfl) (fun _ _ _ h => h) (by rfl) ?_ hHeld ?_
        rotate_left
        · (intro w hSw; (try dsimp only at hSw); go_simp; try with_reducible rfl)
        simp only [Act.put, List.setIfInBounds_toArray, List.set_cons_zero, List.set_cons_succ]
        refine take_at (i := 8) 26 (v := ?_) rfl rfl (by kernel_rfl) (by kernel_rfl) (by kernel_rfl) (fun _ _ _ h => h) (by rfl) ?_ hHeld ?_
        rotate_left
        · (intro w hSw; (try dsimp only at hSw); go_simp; try with_reducible rfl)
        simp only [Act.put, List.setIfInBounds_toArray, List.set_cons_zero, List.set_cons_succ]
        refine take_at (i := 9) 27 (v := ?_) rfl rfl (by kernel_rfl) (by kernel_rfl) (by kernel_rfl) (fun _ _ _ h => h) (by rfl) ?_ hHeld ?_
        rotate_left
        · (intro w hSw; (try dsimp only at hSw); go_simp; try with_reducible rfl)
        simp only [Act.put, List.setIfInBounds_toArray, List.set_cons_zero, List.set_cons_succ]
        refine take_at (i := 10) 28 (v := ?_) rfl rfl (by kernel_rfl) (by kernel_rfl) (by kernel_rfl) (fun _ _ _ h => h) (by rfl) ?_ hHeld ?_
        rotate_left
        · (intro w hSw; (try dsimp only at hSw); go_simp; try with_reducible rfl)
        simp only [Act.put, List.setIfInBounds_toArray, List.set_cons_zero, List.set_cons_succ]
        refine run_at (i := 11) rfl (by kernel_rfl) (by rfl) (fun K hK => ?_)
        simp only [List.getElem_toArray, List.getElem_cons_zero, List.getElem_cons_succ]
        go_simp
        (go_at_call 24; refine Calls.mono (two_t (B := w.heap.size) _ (nmE (F.take k)) t1 t2 tn _ (OwnU.below HOW.out (Below.refl _ _).drew) HBEL.out.drew.size HLE.out) ?_; rintro e w4 ⟨v4, rfl, hu4, hb⟩; have hb4 : Below w.heap.size w w4 := HBEL.out.drew.trans hb; have HU4 : Hid (OwnU w4 w.heap.size v4 (nmE (F.take k) ++ [t1, t2, tn])) := hu4; obtain ⟨a4, c4, hv4, -⟩ := OwnU.val hu4; obtain ⟨T4, hT4⟩ : ∃ T4, T4 = (nmE (F.take k) ++ [t1, t2, tn]).length := ⟨_, rfl⟩; rw [← hT4] at hv4; subst hv4; clear hb hu4 hT4)
        go_wp2_with fail
        refine hK.out _ _ (by first | exact HBEL.out.drew | assumption) ?_
        clear hK K
        intro hHeld2
        clear hHeld
        have hHeld := hHeld2
        clear hHeld2
        try simp only [Act.put, List.setIfInBounds_toArray, List.set_cons_zero, List.set_cons_succ]
        refine take_at (i := 12) 5 (v := ?_) rfl rfl (by kernel_rfl) (by kernel_rfl) (by kernel_rfl) (fun _ _ _ h => h) (by rfl) ?_ hHeld ?_
        rotate_left
        · (intro w hSw; (try dsimp only at hSw); go_simp; try with_reducible rfl)
        simp only [Act.put, List.setIfInBounds_toArray, List.set_cons_zero, List.set_cons_succ]
        refine wpAnyH_done (by kernel_rfl) ?_ _
        have HB4 : Hid (Below w.heap.size w w4) := hb4
        clear hb4 hl4 hA5
        go_wp2
        go_roundw
        case rel => exact ⟨k + 1, by omega, by omega, by go_num, by rw [HTK.out]; exact HU4.out, HB4.out⟩
        case measure => simp [intOf]; omega
      · obtain rfl : k = m := by omega
        have hkI : ¬ ((k : Int) < (k : Int)) := by omega
        go_wp2
        go_ret
        exact ⟨_, rfl, HOW.out, HBEL.out⟩
    · obtain rfl : k = N := by omega
      have hkI : ¬ ((k : Int) < (k : Int)) := by omega
      have HRES : Hid (F.take k = F.take m) := (show _ = _ by rw [List.take_of_length_le (by have := HN.out; omega), List.take_of_length_le (by have := HN.out; omega)])
      go_wp2
      go_ret
      exact ⟨_, rfl, by rw [← HRES.out]; exact HOW.out, HBEL.out⟩
theorem first_t (a : Option Addr) (ca : Nat) (F : List Ent) (w : World) (hr : RdX w a F) (y : Ent) (hy : F.head? = some y) :
    Calls Try.prog 32 #[.slice a F.length ca] w fun e w' => ∃ v, e = .returned v ∧ OwnU w' w.heap.size v [1, y.st.1, y.st.2, y.n] ∧ Below w.heap.size w w' := by
  have hpos : 0 < F.length := by cases F with | nil => (cases hy) | cons a l => simp
  obtain ⟨⟨t1, t2⟩, tn⟩ := y
  have hF0 : F[0] = ⟨(t1, t2), tn⟩ := by rw [List.head?_eq_getElem?, List.getElem?_eq_getElem hpos] at hy; exact Option.some.inj hy
  obtain ⟨b, o, rfl, hr0⟩ := hr 0 hpos
  rw [hF0, Nat.zero_mul, Nat.add_zero] at hr0
  obtain ⟨N, hN⟩ : ∃ N, N = F.length := ⟨_, rfl⟩
  rw [← hN] at hpos ⊢
  have hl4 : ∀ u, Below w.heap.size w u → (Instr.loadAt tSt (.pointer (some ⟨b, o, none⟩))).run Try.prog u = .ok (sv (t1, t2)) u := fun u hu => load_st u _ _ (t1, t2) (range_st (e := ⟨(t1, t2), tn⟩) (rangeAt_below hr0 hu))
  have hA5 : ∀ u, Below w.heap.size w u → u.cell? ⟨b, o + 2, none⟩ = some (.int .u64 (tn : Int)) := fun u hu => (rangeAt_below hr0 hu) 2 _ rfl
  have hposi : (0 : Int) < (N : Int) := by omega
  have hn0 : ((N : Int) == 0) = false := by simp; omega
  have hn0' : ¬ N = 0 := by omega
  clear hr hr0 hF0 hy hN
  go_enter Try.func32, Try.ntmps32
  go_wp2_with fail
  refine wp_region_held_drew (S := (fun u => Below w.heap.size w u)) (by kernel_rfl) (by first | exact (Below.refl _ _).drew | assumption | exact al (Below.refl _ _).drew _) (fun hHeld => ?_)
  refine take_at (i := 1) 8 (v := ?_) rfl rfl (by kernel_rfl) (by kernel_rfl) (by kernel_rfl) (fun _ _ _ h => h) (by rfl) ?_ hHeld ?_
  rotate_left
  · (intro w hSw; (try dsimp only at hSw); go_simp; try with_reducible rfl)
  simp only [Act.put, List.setIfInBounds_toArray, List.set_cons_zero, List.set_cons_succ]
  refine take_at (i := 2) 9 (v := ?_) rfl rfl (by kernel_rfl) (by kernel_rfl) (by kernel_rfl) (fun _ _ _ h => h) (by rfl) ?_ hHeld ?_
  rotate_left
  · (intro w hSw; (try dsimp only at hSw); go_simp; try with_reducible rfl)
  simp only [Act.put, List.setIfInBounds_toArray, List.set_cons_zero, List.set_cons_succ]
  refine take_at (i := 3) 10 (v := ?_) rfl rfl (by kernel_rfl) (by kernel_rfl) (by kernel_rfl) (fun _ _ _ h => h) (by rfl) ?_ hHeld ?_
  rotate_left
  · (intro w hSw; (try dsimp only at hSw); go_simp; try with_reducible rfl)
  simp only [Act.put, List.setIfInBounds_toArray, List.set_cons_zero, List.set_cons_succ]
  refine take_at (i := 4) 11 (v := sv (t1, t2)) rfl rfl (by kernel_rfl) (by kernel_rfl) (by kernel_rfl) (fun _ _ _ h => h) (by rfl) ?_ hHeld ?_
  · (intro w hSw; refine exec_load (by rfl) ?_; exact hl4 w hSw)
  simp only [Act.put, List.setIfInBounds_toArray, List.set_cons_zero, List.set_cons_succ]
  refine take_at (i := 5) 12 (v := ?_) rfl rfl (by kernel_rfl) (by kernel_rfl) (by kernel_rfl) (fun _ _ _ h => h) (by rfl) ?_ hHeld ?_
  rotate_left
  · (intro w hSw; (try dsimp only at hSw); go_simp; try with_reducible rfl)
  simp only [Act.put, List.setIfInBounds_toArray, List.set_cons_zero, List.set_cons_succ]
  refine take_at (i := 6) 13 (v := ?_) rfl rfl (by kernel_rfl) (by kernel_rfl) (by kernel_rfl) (fun _ _ _ h => h) (by rfl) ?_ hHeld ?_
  rotate_left
  · (intro w hSw; (try dsimp only at hSw); go_simp; try with_reducible rfl)
  simp only [Act.put, List.setIfInBounds_toArray, List.set_cons_zero, List.set_cons_succ]
  refine take_at (i := 7) 14 (v := ?_) rfl rfl (by kernel_rfl) (by kernel_rfl) (by kernel_rfl) (fun _ _ _ h => h) (by rfl) ?_ hHeld ?_
  rotate_left
  · (intro w hSw; (try dsimp only at hSw); go_simp; try with_reducible rfl)
  simp only [Act.put, List.setIfInBounds_toArray, List.set_cons_zero, List.set_cons_succ]
  refine take_at (i := 8) 15 (v := ?_) rfl rfl (by kernel_rfl) (by kernel_rfl) (by kernel_rfl) (fun _ _ _ h => h) (by rfl) ?_ hHeld ?_
  rotate_left
  · (intro w hSw; (try dsimp only at hSw); go_simp; try with_reducible rfl)
  simp only [Act.put, List.setIfInBounds_toArray, List.set_cons_zero, List.set_cons_succ]
  refine run_at (i := 0) rfl (by kernel_rfl) (by rfl) (fun K hK => ?_)
  simp only [List.getElem_toArray, List.getElem_cons_zero, List.getElem_cons_succ]
  go_simp
  go_wp2_with fail
  refine hK.out _ _ (by first | exact (Below.refl _ _).drew | assumption | exact al (Below.refl _ _).drew _) ?_
  clear hK K
  intro hHeld2
  clear hHeld
  have hHeld := hHeld2
  clear hHeld2
  try simp only [Act.put, List.setIfInBounds_toArray, List.set_cons_zero, List.set_cons_succ]
  refine run_at (i := 9) rfl (by kernel_rfl) (by rfl) (fun K hK => ?_)
  simp only [List.getElem_toArray, List.getElem_cons_zero, List.getElem_cons_succ]
  go_simp
  (go_at_call 24; refine Calls.mono (two_t (B := w.heap.size) _ [1] t1 t2 tn _ (OwnU.lit w.drew (Nat.le_refl _) [1] 1 rfl (by decide)) (al (Below.refl _ _).drew _).size (by decide)) ?_; rintro e w4 ⟨v4, rfl, hu4, hb⟩; have hb4 : Below w.heap.size w w4 := (al (Below.refl w.heap.size w).drew _).trans hb; have HU4 : Hid (OwnU w4 w.heap.size v4 [1, t1, t2, tn]) := hu4; obtain ⟨a4, c4, rfl, -⟩ := OwnU.val hu4; clear hb hu4)
  go_wp2_with fail
  refine hK.out _ _ (by first | exact (Below.refl _ _).drew | assumption | exact al (Below.refl _ _).drew _) ?_
  clear hK K
  intro hHeld2
  clear hHeld
  have hHeld := hHeld2
  clear hHeld2
  try simp only [Act.put, List.setIfInBounds_toArray, List.set_cons_zero, List.set_cons_succ]
  refine take_at (i := 10) 2 (v := ?_) rfl rfl (by kernel_rfl) (by kernel_rfl) (by kernel_rfl) (fun _ _ _ h => h) (by rfl) ?_ hHeld ?_
  rotate_left
  · (intro w hSw; (try dsimp only at hSw); go_simp; try with_reducible rfl)
  simp only [Act.put, List.setIfInBounds_toArray, List.set_cons_zero, List.set_cons_succ]
  refine wpAnyH_done (by kernel_rfl) ?_ _
  have HB4 : Hid (Below w.heap.size w w4) := hb4
  clear hb4 hl4 hA5
  go_wp2
  go_ret
  exact ⟨_, rfl, HU4.out, HB4.out⟩
end
end Go.Proofs.Ytibolgpaolnheac
namespace Go.Proofs.Ytibolgpaolnheac
set_option linter.unusedVariables false
set_option linter.unusedSimpArgs false
open Go.RowKit
section
set_option maxRecDepth 20000
set_option maxHeartbeats 3200000
/-- two rows of the same numbers are the same -/
theorem same_t (w : World) {B1 B2 : Nat} {va vb : Value} (xs : List Nat) (h1 : OwnU w B1 va xs) (h2 : OwnU w B2 vb xs) (hl : xs.length ≤ 4398046511104000) :
    Calls Try.prog 12 #[va, vb] w fun e w' => e = .returned (.bool true) ∧ Below w.heap.size w w' := by
  obtain ⟨a, ca, rfl, -, ha⟩ := OwnU.val h1
  obtain ⟨b, cb, rfl, -, hb⟩ := OwnU.val h2
  obtain ⟨N, hN⟩ : ∃ N, N = xs.length := ⟨_, rfl⟩
  have HA : Hid (∀ j (hj : j < xs.length), ∃ g, a = some ⟨g, 0, none⟩ ∧ w.cell? ⟨g, j, none⟩ = some (uv xs[j])) := ha
  have HB : Hid (∀ j (hj : j < xs.length), ∃ g, b = some ⟨g, 0, none⟩ ∧ w.cell? ⟨g, j, none⟩ = some (uv xs[j])) := hb
  have HN : Hid (N = xs.length) := hN
  rw [← hN] at hl ⊢
  clear ha hb h1 h2 hN
  go_enter Try.func12, Try.ntmps12
  go_wp2_with fail
  go_loopw [5] (fun i wr => ∃ k : Nat, k ≤ N ∧ i = .int .i64 (k : Int) ∧ Below w.heap.size w wr) (fun i _ => N - (intOf i).toNat)
  case atStart => exact ⟨0, Nat.zero_le _, rfl, Below.refl _ _⟩
  case round =>
    obtain ⟨k, hk, rfl, hbel⟩ := hrel
    have HBEL : Hid (Below w.heap.size w wr) := hbel
    clear hbel
    by_cases hlt : k < N
    · have hkx : k < xs.length := by have := HN.out; omega
      obtain ⟨g1, rfl, hc1⟩ := HA.out k hkx
      obtain ⟨g2, rfl, hc2⟩ := HB.out k hkx
      obtain ⟨y, hy⟩ : ∃ y, y = xs[k] := ⟨_, rfl⟩
      rw [← hy] at hc1 hc2
      have hA1 : ∀ u, Below w.heap.size w u → u.cell? ⟨g1, k, none⟩ = some (.int .u64 (y : Int)) := fun u hu => (hu.cell (World.block_lt_of_cell? w _ hc1)).trans hc1
      have hA2 : ∀ u, Below w.heap.size w u → u.cell? ⟨g2, k, none⟩ = some (.int .u64 (y : Int)) := fun u hu => (hu.cell (World.block_lt_of_cell? w _ hc2)).trans hc2
      have hki : (k : Int) < (N : Int) := by omega
      have hk0 : (0 : Int) ≤ (k : Int) := by omega
      clear hc1 hc2 hy
      go_wp2_with fail
      refine wp_region_held_drew (S := (fun u => Below w.heap.size w u)) (by kernel_rfl) (by first | exact HBEL.out.drew | assumption) (fun hHeld => ?_)
      refine take_at (i := 0) 17 (v := ?_) rfl rfl (by kernel_rfl) (by kernel_rfl) (by kernel_rfl) (fun _ _ _ h => h) (by rfl) ?_ hHeld ?_
      rotate_left
      · (intro w hSw; (try dsimp only at hSw); go_simp; try with_reducible rfl)
      simp only [Act.put, List.setIfInBounds_toArray, List.set_cons_zero, List.set_cons_succ]
      refine take_at (i := 1) 18 (v := ?_) rfl rfl (by kernel_rfl) (by kernel_rfl) (by kernel_rfl) (fun _ _ _ h => h) (by rfl) ?_ hHeld ?_
      rotate_left
      · (intro w hSw; (try dsimp only at hSw); go_simp; try with_reducible rfl)
      simp only [Act.put, List.setIfInBounds_toArray, List.set_cons_zero, List.set_cons_succ]
      refine take_at (i := 2) 19 (v := ?_) rfl rfl (by kernel_rfl) (by kernel_rfl) (by kernel_rfl) (fun _ _ _ h => h) (by rfl) ?_ hHeld ?_
      rotate_left
      · (intro w hSw; (try dsimp only at hSw); go_simp; try with_reducible rfl)
      simp only [Act.put, List.setIfInBounds_toArray, List.set_cons_zero, List.set_cons_succ]
      refine take_at (i := 3) 20 (v := ?_) rfl rfl (by kernel_rfl) (by kernel_rfl) (by kernel_rfl) (fun _ _ _ h => h) (by rfl) ?_ hHeld ?_
      rotate_left
      · (intro w hSw; (try dsimp only at hSw); go_simp; try with_reducible rfl)
      simp only [Act.put, List.setIfInBounds_toArray, List.set_cons_zero, List.set_cons_succ]
      refine take_at (i := 4) 21 (v := ?_) rfl rfl (by kernel_rfl) (by kernel_rfl) (by kernel_rfl) (fun _ _ _ h => h) (by rfl) ?_ hHeld ?_
      rotate_left
      · (intro w hSw; (try dsimp only at hSw); go_simp; try with_reducible rfl)
      simp only [Act.put, List.setIfInBounds_toArray, List.set_cons_zero, List.set_cons_succ]
      refine take_at (i := 5) 22 (v := ?_) rfl rfl (by kernel_rfl) (by kernel_rfl) (by kernel_rfl) (fun _ _ _ h => h) (by rfl) ?_ hHeld ?_
      rotate_left
      · (intro w hSw; (try dsimp only at hSw); go_simp; try with_reducible rfl)
      simp only [Act.put, List.setIfInBounds_toArray, List.set_cons_zero, List.set_cons_succ]
      refine take_at (i := 6) 23 (v := ?_) rfl rfl (by kernel_rfl) (by kernel_rfl) (by kernel_rfl) (fun _ _ _ h => h) (by rfl) ?_ hHeld ?_
      rotate_left
      · (intro w hSw; (try dsimp only at hSw); go_simp; try with_reducible rfl)
      simp only [Act.put, List.setIfInBounds_toArray, List.set_cons_zero, List.set_cons_succ]
      refine take_at (i := 7) 24 (v := ?_) rfl rfl (by kernel_rfl) (by kernel_rfl) (by kernel_rfl) (fun _ _ _ h => h) (by rfl) ?_ hHeld ?_
      rotate_left
      · (intro w hSw; (try dsimp only at hSw); go_simp; try with_reducible rfl)
      simp only [Act.put, List.setIfInBounds_toArray, List.set_cons_zero, List.set_cons_succ]
      refine take_at (i := 8) 25 (v := .bool false) rfl rfl (by kernel_rfl) (by kernel_rfl) (by kernel_rfl) (fun _ _ _ h => h) (by rfl) ?_ hHeld ?_
      · (intro w hSw; (try dsimp only at hSw); go_simp; try simp)
      simp only [Act.put, List.setIfInBounds_toArray, List.set_cons_zero, List.set_cons_succ]
      refine wpAnyH_done (by kernel_rfl) ?_ _
      have HBD : Hid (Below w.heap.size w wr.drew) := HBEL.out.drew
      go_wp2
      go_roundw
      case rel => exact ⟨k + 1, by omega, by go_num, HBD.out⟩
      case measure => simp [intOf]; omega
    · obtain rfl : k = N := by omega
      have hkI : ¬ ((k : Int) < (k : Int)) := by omega
      go_wp2
      go_ret
      exact ⟨rfl, HBEL.out⟩
end
end Go.Proofs.Ytibolgpaolnheac
