import Derived.Test.YtibolgpaolnheaaQJn
namespace Go.Proofs.Ytibolgpaolnheaa
set_option linter.unusedVariables false
set_option linter.unusedSimpArgs false
open Go.RowKit
section
set_option maxRecDepth 20000
variable {w w' : World} {g S : Nat} {P : List (List Ent)} {v : Value} {vs : List Value}
set_option maxHeartbeats 3200000 in
theorem put_x (h : IdxAt w g S P v vs) (hsp : SP P) (hS : 1 ≤ S ∧ S ≤ 64) (hPl : P.length ≤ 4398046511104) (hlp : ∀ p ∈ P, p.length ≤ 100) (s1 s2 n : Nat) (p i : Nat) (ok : Bool) (hpl : PlaceIs P (s1, s2) p i ok) (hp : p < P.length) (hfit : S < (putL P[p] i ok (mkE (s1, s2) n)).length) :
    Calls Try.prog 13 #[.pointer (some ⟨g, 0, none⟩), sv (s1, s2), .int .u64 (n : Int)] w fun e w' => e = .returned (.bool (!ok)) ∧ (∃ v' vs', IdxAt w' g S (repL P p (p + 1) [(putL P[p] i ok (mkE (s1, s2) n)).take ((S + 1) / 2), (putL P[p] i ok (mkE (s1, s2) n)).drop ((S + 1) / 2)]) v' vs' ∧ (v'.ownBlock = v.ownBlock ∨ ∃ b, v'.ownBlock = some b ∧ w.heap.size ≤ b)) ∧ Chg (foot g v) w w' := by
  obtain ⟨w1, hw1⟩ : ∃ X : World, X = w.alloc (.cells #[.int .u64 (s1 : Int), .int .u64 (s2 : Int)] tSt) := ⟨_, rfl⟩
  have hb1 : Below w.heap.size w w1 := by rw [hw1]; exact al (Below.refl _ _) _
  have h1 := h.below hb1
  have HI1 : Hid (IdxAt w1 g S P v vs) := h1
  obtain ⟨pa, cap, hv, hcap, hnil, hrd, hpg⟩ := h1.rd
  have HPL : Hid _ := place_t (.pointer (some ⟨g, 0, none⟩)) pa P.length cap P (s1, s2) w1 hpg rfl hrd hsp hPl hlp
  have hcg0 : w.cell? ⟨g, 0, none⟩ = some (.int .i64 (S : Int)) := by rw [cell_of_row _ _ _ _ _ _ h.hd]; rfl
  have hgl : g < w.heap.size := (Array.getElem?_eq_some_iff.1 h.hd).1
  have hl3 : w1.rangeAt w.heap.size 0 (sc (s1, s2)) := by rw [hw1]; exact box_range (heap_alloc_new w _)
  have hSi : ¬ (S : Int) = 0 := by omega
  have hSb : ((S : Int) == 0) = false := by simpa using hSi
  have HB1 : Hid (Below w.heap.size w w1) := hb1
  have HP : Hid (PlaceIs P (s1, s2) p i ok) := hpl
  clear h1 hb1 hrd hpg hcap hnil h hpl
  go_enter Try.func13, Try.ntmps13
  go_wp2_with fail
  rw [← hw1]
  refine Calls.mono HPL.out ?_
  rintro e w2 ⟨p', i', ok', rfl, hpl', hb2⟩
  obtain ⟨e1, e2, e3⟩ := hpl'.uniq HP.out
  subst e1 e2 e3
  have HI2 : Hid (IdxAt w2 g S P v vs) := HI1.out.below hb2
  have HB2 : Hid (Below w.heap.size w w2) := below_next HB1.out hb2
  have hl4 : w2.rangeAt w.heap.size 0 (sc (s1, s2)) := rangeAt_below hl3 hb2
  obtain ⟨pa, cap, hv, hcap, hnil, hrd, -⟩ := HI2.out.rd
  obtain ⟨b, o, rfl, a, c, hcp, hkc, hnc, hr⟩ := hrd p' hp
  have hcg1 : w2.cell? ⟨g, 1, none⟩ = some v := by rw [cell_of_row _ _ _ _ _ _ HI2.out.hd]; rfl
  obtain ⟨NP, hNP⟩ : ∃ N, N = P.length := ⟨_, rfl⟩
  rw [hv, ← hNP] at hcg1
  obtain ⟨K0, hK0⟩ : ∃ N, N = P[p'].length := ⟨_, rfl⟩
  rw [← hK0] at hcp hkc
  have hgl2 : g < w2.heap.size := (Array.getElem?_eq_some_iff.1 HI2.out.hd).1
  have hbl2 : b < w2.heap.size := World.block_lt_of_cell? w2 _ hcp
  have hwl2 : w.heap.size < w2.heap.size := World.block_lt_of_cell? w2 _ (by have h9 := hl4 0 _ rfl; exact h9)
  have hN0 : ¬ (NP : Int) = 0 := by omega
  have hNb : ((NP : Int) == 0) = false := by simpa using hN0
  have hpi : (p' : Int) < (NP : Int) := by omega
  have hp0 : (0 : Int) ≤ (p' : Int) := by omega
  have hpN : p' < NP := by omega
  have hiK : i' ≤ K0 ∧ (ok' = true → i' < K0) := by
    rcases HP.out with ⟨h1, -⟩ | ⟨r, h1, h2, h3, h4, h5⟩
    · rw [h1] at hp; exact absurd hp (Nat.not_lt_zero _)
    · have eP : P.getD p' [] = P[p'] := by simp [List.getD, hp]
      rw [eP] at h4 h5
      exact ⟨by rw [hK0]; exact h4.1, fun h9 => by obtain ⟨h8, -⟩ := h5.1 h9; omega⟩
  have hK1 : K0 ≤ 100 := by rw [hK0]; exact hlp _ (List.getElem_mem hp)
  obtain ⟨w3, hw3⟩ : ∃ X : World, X = w2.alloc (.cells #[.int .u64 (s1 : Int), .int .u64 (s2 : Int), .int .u64 (n : Int)] tEn) := ⟨_, rfl⟩
  have hb3 : Below w2.heap.size w2 w3 := by rw [hw3]; exact al (Below.refl _ _) _
  have HE3 : Hid (RdE w3 (some ⟨w2.heap.size, 0, none⟩) [mkE (s1, s2) n]) := rdE_one s1 s2 n (by rw [hw3]; exact heap_alloc_new w2 _)
  have HR3 : Hid (RdE w3 a P[p']) := hr.below hb3
  have HI3 : Hid (IdxAt w3 g S P v vs) := HI2.out.below hb3
  have HB3 : Hid (Below w.heap.size w w3) := below_next HB2.out hb3
  have HK0 : Hid (K0 = P[p'].length) := hK0
  have HV : Hid _ := hv
  obtain ⟨b4, o4, ha⟩ : ∃ b4 o4, a = some ⟨b4, o4, none⟩ := by
    have h9 : 0 < P[p'].length := hsp.1 _ (List.getElem_mem hp)
    obtain ⟨b4, o4, h8, -⟩ := hr 0 h9
    exact ⟨b4, o4, h8⟩
  subst ha
  clear hb2 hb3 hr hrd hnil hcap hl3 hK0 hNP hv hpl' HPL HI1 HB1 hw1
  cases ok'
  case false =>
    skip
    have hbK : i' ≤ K0 := by rcases hiK with ⟨h1, h2⟩; first | (have := h2 rfl; omega) | omega
    skip
    have hi1 : i' ≤ K0 := hiK.1
    have hic : i' ≤ c := by omega
    have hbc : i' ≤ c := by omega
    have hi0i : (0 : Int) ≤ (i' : Int) := by omega
    have hb0i : (0 : Int) ≤ (i' : Int) := by omega
    have hiKi : (i' : Int) ≤ (K0 : Int) := by omega
    have hbKi : (i' : Int) ≤ (K0 : Int) := by omega
    have HBH : Hid (i' = i') := rfl
    clear hiK
    by_cases hbc2 : c = i'
    · subst hbc2
      have HCA : Hid (∀ u, Below w3.heap.size w3 u → u.heap[w3.heap.size]? = some (.cells #[.slice (some ⟨b4, o4, none⟩) c c, .slice (some ⟨w2.heap.size, 0, none⟩) 1 1, .slice (some ⟨b4, o4, none⟩) 0 0] tPg (0, 0)) → Calls Try.prog 36 #[.slice (some ⟨w3.heap.size, 0, none⟩) 3 3] u fun e u' => ∃ v', e = .returned v' ∧ OwnE u' u.heap.size v' (putL P[p'] c false (mkE (s1, s2) n)) ∧ Below u.heap.size u u') := fun u hu hh => by
        have h9 := concatE_t w3.heap.size 0 3 [⟨some ⟨b4, o4, none⟩, c, P[p'].take c⟩, ⟨some ⟨w2.heap.size, 0, none⟩, 1, [mkE (s1, s2) n]⟩, ⟨some ⟨b4, o4, none⟩, 0, P[p'].drop c⟩] u (by simp) (fun j hj => by
          match j, hj with
          | 0, _ => exact ⟨by rw [cell_of_row _ _ _ _ _ _ hh]; simp [PartE.v, List.length_take]; rw [← HK0.out]; omega, (HR3.out.below hu).take _, fun h => by cases h⟩
          | 1, _ => exact ⟨by rw [cell_of_row _ _ _ _ _ _ hh]; rfl, HE3.out.below hu, fun h => by cases h⟩
          | 2, _ => exact ⟨by rw [cell_of_row _ _ _ _ _ _ hh]; simp [PartE.v, List.length_drop]; have := HK0.out; omega, by have e8 : P[p'].drop c = [] := List.drop_eq_nil_of_le (by have := HK0.out; omega); rw [e8]; exact fun j hj => absurd hj (Nat.not_lt_zero _), fun h => by cases h⟩) (by have := HK0.out; simp [catE, List.length_take, List.length_drop]; omega)
        have e9 : catE [⟨some ⟨b4, o4, none⟩, c, P[p'].take c⟩, ⟨some ⟨w2.heap.size, 0, none⟩, 1, [mkE (s1, s2) n]⟩, ⟨some ⟨b4, o4, none⟩, 0, P[p'].drop c⟩] = putL P[p'] c false (mkE (s1, s2) n) := by rw [HBH.out]; simp [catE, putL]
        rw [e9] at h9
        exact h9
      go_wp2_with (first | (refine wpList_load_mid rfl tSt _ rfl w.heap.size 0 rfl (sc (s1, s2)) _ hl4 Try.underlying34 rfl info_st ?_))
      rw [← hw3]
      obtain ⟨L, hL⟩ : ∃ L, L = (putL P[p'] c false (mkE (s1, s2) n)).length := ⟨_, rfl⟩
      have HL : Hid _ := hL
      have HFI : Hid (S < L) := by rw [hL]; exact hfit
      have HL2 : Hid (L ≤ 300) := (show L ≤ 300 by rw [hL]; unfold putL; simp only [List.length_append, List.length_take, List.length_drop, List.length_singleton]; rw [← HK0.out]; omega)
      clear hL hw3
      refine wp_region_noPanic ?_
      refine wp_region_held_drew (S := (fun _ => True)) (by kernel_rfl) (by exact trivial) (fun hHeld => ?_)
      refine take_at (i := 0) 60 (v := ?_) rfl rfl (by kernel_rfl) (by kernel_rfl) (by kernel_rfl) (fun _ _ _ h => h) (by rfl) ?_ hHeld ?_
      rotate_left
      · (intro w hSw; (try dsimp only at hSw); go_simp; try with_reducible rfl)
      simp only [Act.put, List.setIfInBounds_toArray, List.set_cons_zero, List.set_cons_succ]
      refine take_at (i := 1) 61 (v := ?_) rfl rfl (by kernel_rfl) (by kernel_rfl) (by kernel_rfl) (fun _ _ _ h => h) (by rfl) ?_ hHeld ?_
      rotate_left
      · (intro w hSw; (try dsimp only at hSw); go_simp; try with_reducible rfl)
      simp only [Act.put, List.setIfInBounds_toArray, List.set_cons_zero, List.set_cons_succ]
      refine take_at (i := 2) 62 (v := ?_) rfl rfl (by kernel_rfl) (by kernel_rfl) (by kernel_rfl) (fun _ _ _ h => h) (by rfl) ?_ hHeld ?_
      rotate_left
      · (intro w hSw; (try dsimp only at hSw); go_simp; try with_reducible rfl)
      simp only [Act.put, List.setIfInBounds_toArray, List.set_cons_zero, List.set_cons_succ]
      refine take_at (i := 3) 63 (v := ?_) rfl rfl (by kernel_rfl) (by kernel_rfl) (by kernel_rfl) (fun _ _ _ h => h) (by rfl) ?_ hHeld ?_
      rotate_left
      · (intro w hSw; (try dsimp only at hSw); go_simp; try with_reducible rfl)
      simp only [Act.put, List.setIfInBounds_toArray, List.set_cons_zero, List.set_cons_succ]
      refine take_at (i := 4) 64 (v := ?_) rfl rfl (by kernel_rfl) (by kernel_rfl) (by kernel_rfl) (fun _ _ _ h => h) (by rfl) ?_ hHeld ?_
      rotate_left
      · (intro w hSw; (try dsimp only at hSw); go_simp; try with_reducible rfl)
      simp only [Act.put, List.setIfInBounds_toArray, List.set_cons_zero, List.set_cons_succ]
      refine take_at (i := 5) 65 (v := ?_) rfl rfl (by kernel_rfl) (by kernel_rfl) (by kernel_rfl) (fun _ _ _ h => h) (by rfl) ?_ hHeld ?_
      rotate_left
      · (intro w hSw; (try dsimp only at hSw); go_simp; try with_reducible rfl)
      simp only [Act.put, List.setIfInBounds_toArray, List.set_cons_zero, List.set_cons_succ]
      refine take_at (i := 6) 66 (v := ?_) rfl rfl (by kernel_rfl) (by kernel_rfl) (by kernel_rfl) (fun _ _ _ h => h) (by rfl) ?_ hHeld ?_
      rotate_left
      · (intro w hSw; (try dsimp only at hSw); go_simp; try with_reducible rfl)
      simp only [Act.put, List.setIfInBounds_toArray, List.set_cons_zero, List.set_cons_succ]
      refine take_at (i := 7) 67 (v := ?_) rfl rfl (by kernel_rfl) (by kernel_rfl) (by kernel_rfl) (fun _ _ _ h => h) (by rfl) ?_ hHeld ?_
      rotate_left
      · (intro w hSw; (try dsimp only at hSw); go_simp; try with_reducible rfl)
      simp only [Act.put, List.setIfInBounds_toArray, List.set_cons_zero, List.set_cons_succ]
      refine take_at (i := 8) 68 (v := ?_) rfl rfl (by kernel_rfl) (by kernel_rfl) (by kernel_rfl) (fun _ _ _ h => h) (by rfl) ?_ hHeld ?_
      rotate_left
      · (intro w hSw; (try dsimp only at hSw); go_simp; try with_reducible rfl)
      simp only [Act.put, List.setIfInBounds_toArray, List.set_cons_zero, List.set_cons_succ]
      refine run_at (i := 9) rfl (by kernel_rfl) (by rfl) (fun K hK => ?_)
      simp only [List.getElem_toArray, List.getElem_cons_zero, List.getElem_cons_succ]
      go_simp
      go_wp2_with fail
      refine hK.out _ _ (by exact trivial) ?_
      clear hK K
      intro hHeld2
      clear hHeld
      have hHeld := hHeld2
      clear hHeld2
      try simp only [Act.put, List.setIfInBounds_toArray, List.set_cons_zero, List.set_cons_succ]
      refine run_at (i := 10) rfl (by kernel_rfl) (by rfl) (fun K hK => ?_)
      simp only [List.getElem_toArray, List.getElem_cons_zero, List.getElem_cons_succ]
      go_simp
      first | (go_at_call 35; refine Calls.mono HRE.out ?_; rintro e w5 ⟨rfl, hix, hch⟩; have HIX : Hid _ := hix; have HCH : Hid _ := hch; clear hix hch) | (go_at_call 36; refine Calls.mono (HCA.out _ (by first | exact al (Below.refl _ _).drew _ | exact (al (Below.refl _ _) _).drew) (by exact heap_alloc_new w3 _)) ?_; rintro e w4 ⟨v4, rfl, hown4, hb4⟩; have HB4 : Hid (Below w3.heap.size w3 w4) := (by first | exact below_next (al (Below.refl _ _).drew _) hb4 | exact below_next (al (Below.refl _ _) _).drew hb4); obtain ⟨a4, c4, e4, hc4, hn4, hr4⟩ := OwnE.val hown4; rw [← HL.out] at e4 hc4; subst e4; obtain ⟨b9, o9, ha9, -⟩ := hr4 0 (by have := HL.out; have := HFI.out; omega); subst ha9; have HRE : Hid _ := replace_x (HI3.out.below HB4.out) p' (p' + 1) hp rfl b9 o9 L c4 _ HL.out hr4 hc4 HFI.out HL2.out hS hPl _ rfl; clear hown4 hb4 hc4 hn4 hr4)
      go_wp2_with fail
      refine hK.out _ _ (by exact trivial) ?_
      clear hK K
      intro hHeld2
      clear hHeld
      have hHeld := hHeld2
      clear hHeld2
      try simp only [Act.put, List.setIfInBounds_toArray, List.set_cons_zero, List.set_cons_succ]
      refine run_at (i := 11) rfl (by kernel_rfl) (by rfl) (fun K hK => ?_)
      simp only [List.getElem_toArray, List.getElem_cons_zero, List.getElem_cons_succ]
      go_simp
      first | (go_at_call 35; refine Calls.mono HRE.out ?_; rintro e w5 ⟨rfl, hix, hch⟩; have HIX : Hid _ := hix; have HCH : Hid _ := hch; clear hix hch) | (go_at_call 36; refine Calls.mono (HCA.out _ (by first | exact al (Below.refl _ _).drew _ | exact (al (Below.refl _ _) _).drew) (by exact heap_alloc_new w3 _)) ?_; rintro e w4 ⟨v4, rfl, hown4, hb4⟩; have HB4 : Hid (Below w3.heap.size w3 w4) := (by first | exact below_next (al (Below.refl _ _).drew _) hb4 | exact below_next (al (Below.refl _ _) _).drew hb4); obtain ⟨a4, c4, e4, hc4, hn4, hr4⟩ := OwnE.val hown4; rw [← HL.out] at e4 hc4; subst e4; obtain ⟨b9, o9, ha9, -⟩ := hr4 0 (by have := HL.out; have := HFI.out; omega); subst ha9; have HRE : Hid _ := replace_x (HI3.out.below HB4.out) p' (p' + 1) hp rfl b9 o9 L c4 _ HL.out hr4 hc4 HFI.out HL2.out hS hPl _ rfl; clear hown4 hb4 hc4 hn4 hr4)
      go_wp2_with fail
      refine hK.out _ _ (by exact trivial) ?_
      clear hK K
      intro hHeld2
      clear hHeld
      have hHeld := hHeld2
      clear hHeld2
      try simp only [Act.put, List.setIfInBounds_toArray, List.set_cons_zero, List.set_cons_succ]
      refine wpAnyH_done (by kernel_rfl) ?_ _
      refine NoPanic.normal ?_
      go_wp2
      go_ret
      exact ⟨rfl, (by obtain ⟨v9, vs9, h8, h7⟩ := HIX.out; exact ⟨v9, vs9, h8, h7.imp id (fun ⟨b8, h6, h5⟩ => ⟨b8, h6, Nat.le_trans (Nat.le_trans HB3.out.size HB4.out.size) h5⟩)⟩), ((Chg.of_below HB3.out).trans (Chg.of_below (F := foot g v) HB4.out) (fun i hi => .inl hi)).trans HCH.out (fun i hi => .inl hi)⟩
    · have HCA : Hid (∀ u, Below w3.heap.size w3 u → u.heap[w3.heap.size]? = some (.cells #[.slice (some ⟨b4, o4, none⟩) i' c, .slice (some ⟨w2.heap.size, 0, none⟩) 1 1, .slice (some ⟨b4, o4 + i' * 3, none⟩) (K0 - i') (c - i')] tPg (0, 0)) → Calls Try.prog 36 #[.slice (some ⟨w3.heap.size, 0, none⟩) 3 3] u fun e u' => ∃ v', e = .returned v' ∧ OwnE u' u.heap.size v' (putL P[p'] i' false (mkE (s1, s2) n)) ∧ Below u.heap.size u u') := fun u hu hh => by
        have h9 := concatE_t w3.heap.size 0 3 [⟨some ⟨b4, o4, none⟩, c, P[p'].take i'⟩, ⟨some ⟨w2.heap.size, 0, none⟩, 1, [mkE (s1, s2) n]⟩, ⟨some ⟨b4, o4 + i' * 3, none⟩, (c - i'), P[p'].drop i'⟩] u (by simp) (fun j hj => by
          match j, hj with
          | 0, _ => exact ⟨by rw [cell_of_row _ _ _ _ _ _ hh]; simp [PartE.v, List.length_take]; rw [← HK0.out]; omega, (HR3.out.below hu).take _, fun h => by cases h⟩
          | 1, _ => exact ⟨by rw [cell_of_row _ _ _ _ _ _ hh]; rfl, HE3.out.below hu, fun h => by cases h⟩
          | 2, _ => exact ⟨by rw [cell_of_row _ _ _ _ _ _ hh]; simp [PartE.v, List.length_drop, HK0.out], (HR3.out.below hu).drop _, fun h => by cases h⟩) (by have := HK0.out; simp [catE, List.length_take, List.length_drop]; omega)
        have e9 : catE [⟨some ⟨b4, o4, none⟩, c, P[p'].take i'⟩, ⟨some ⟨w2.heap.size, 0, none⟩, 1, [mkE (s1, s2) n]⟩, ⟨some ⟨b4, o4 + i' * 3, none⟩, (c - i'), P[p'].drop i'⟩] = putL P[p'] i' false (mkE (s1, s2) n) := by rw [HBH.out]; simp [catE, putL]
        rw [e9] at h9
        exact h9
      go_wp2_with (first | (refine wpList_load_mid rfl tSt _ rfl w.heap.size 0 rfl (sc (s1, s2)) _ hl4 Try.underlying34 rfl info_st ?_))
      rw [← hw3]
      obtain ⟨L, hL⟩ : ∃ L, L = (putL P[p'] i' false (mkE (s1, s2) n)).length := ⟨_, rfl⟩
      have HL : Hid _ := hL
      have HFI : Hid (S < L) := by rw [hL]; exact hfit
      have HL2 : Hid (L ≤ 300) := (show L ≤ 300 by rw [hL]; unfold putL; simp only [List.length_append, List.length_take, List.length_drop, List.length_singleton]; rw [← HK0.out]; omega)
      clear hL hw3
      refine wp_region_noPanic ?_
      refine wp_region_held_drew (S := (fun _ => True)) (by kernel_rfl) (by exact trivial) (fun hHeld => ?_)
      refine take_at (i := 0) 60 (v := ?_) rfl rfl (by kernel_rfl) (by kernel_rfl) (by kernel_rfl) (fun _ _ _ h => h) (by rfl) ?_ hHeld ?_
      rotate_left
      · (intro w hSw; (try dsimp only at hSw); go_simp; try with_reducible rfl)
      simp only [Act.put, List.setIfInBounds_toArray, List.set_cons_zero, List.set_cons_succ]
      refine take_at (i := 1) 61 (v := ?_) rfl rfl (by kernel_rfl) (by kernel_rfl) (by kernel_rfl) (fun _ _ _ h => h) (by rfl) ?_ hHeld ?_
      rotate_left
      · (intro w hSw; (try dsimp only at hSw); go_simp; try with_reducible rfl)
      simp only [Act.put, List.setIfInBounds_toArray, List.set_cons_zero, List.set_cons_succ]
      refine take_at (i := 2) 62 (v := ?_) rfl rfl (by kernel_rfl) (by kernel_rfl) (by kernel_rfl) (fun _ _ _ h => h) (by rfl) ?_ hHeld ?_
      rotate_left
      · (intro w hSw; (try dsimp only at hSw); go_simp; try with_reducible rfl)
      simp only [Act.put, List.setIfInBounds_toArray, List.set_cons_zero, List.set_cons_succ]
      refine take_at (i := 3) 63 (v := ?_) rfl rfl (by kernel_rfl) (by kernel_rfl) (by kernel_rfl) (fun _ _ _ h => h) (by rfl) ?_ hHeld ?_
      rotate_left
      · (intro w hSw; (try dsimp only at hSw); go_simp; try with_reducible rfl)
      simp only [Act.put, List.setIfInBounds_toArray, List.set_cons_zero, List.set_cons_succ]
      refine take_at (i := 4) 64 (v := ?_) rfl rfl (by kernel_rfl) (by kernel_rfl) (by kernel_rfl) (fun _ _ _ h => h) (by rfl) ?_ hHeld ?_
      rotate_left
      · (intro w hSw; (try dsimp only at hSw); go_simp; try with_reducible rfl)
      simp only [Act.put, List.setIfInBounds_toArray, List.set_cons_zero, List.set_cons_succ]
      refine take_at (i := 5) 65 (v := ?_) rfl rfl (by kernel_rfl) (by kernel_rfl) (by kernel_rfl) (fun _ _ _ h => h) (by rfl) ?_ hHeld ?_
      rotate_left
      · (intro w hSw; (try dsimp only at hSw); go_simp; try with_reducible rfl)
      simp only [Act.put, List.setIfInBounds_toArray, List.set_cons_zero, List.set_cons_succ]
      refine take_at (i := 6) 66 (v := ?_) rfl rfl (by kernel_rfl) (by kernel_rfl) (by kernel_rfl) (fun _ _ _ h => h) (by rfl) ?_ hHeld ?_
      rotate_left
      · (intro w hSw; (try dsimp only at hSw); go_simp; try with_reducible rfl)
      simp only [Act.put, List.setIfInBounds_toArray, List.set_cons_zero, List.set_cons_succ]
      refine take_at (i := 7) 67 (v := ?_) rfl rfl (by kernel_rfl) (by kernel_rfl) (by kernel_rfl) (fun _ _ _ h => h) (by rfl) ?_ hHeld ?_
      rotate_left
      · (intro w hSw; (try dsimp only at hSw); go_simp; try with_reducible rfl)
      simp only [Act.put, List.setIfInBounds_toArray, List.set_cons_zero, List.set_cons_succ]
      refine take_at (i := 8) 68 (v := ?_) rfl rfl (by kernel_rfl) (by kernel_rfl) (by kernel_rfl) (fun _ _ _ h => h) (by rfl) ?_ hHeld ?_
      rotate_left
      · (intro w hSw; (try dsimp only at hSw); go_simp; try with_reducible rfl)
      simp only [Act.put, List.setIfInBounds_toArray, List.set_cons_zero, List.set_cons_succ]
      refine run_at (i := 9) rfl (by kernel_rfl) (by rfl) (fun K hK => ?_)
      simp only [List.getElem_toArray, List.getElem_cons_zero, List.getElem_cons_succ]
      go_simp
      go_wp2_with fail
      refine hK.out _ _ (by exact trivial) ?_
      clear hK K
      intro hHeld2
      clear hHeld
      have hHeld := hHeld2
      clear hHeld2
      try simp only [Act.put, List.setIfInBounds_toArray, List.set_cons_zero, List.set_cons_succ]
      refine run_at (i := 10) rfl (by kernel_rfl) (by rfl) (fun K hK => ?_)
      simp only [List.getElem_toArray, List.getElem_cons_zero, List.getElem_cons_succ]
      go_simp
      first | (go_at_call 35; refine Calls.mono HRE.out ?_; rintro e w5 ⟨rfl, hix, hch⟩; have HIX : Hid _ := hix; have HCH : Hid _ := hch; clear hix hch) | (go_at_call 36; refine Calls.mono (HCA.out _ (by first | exact al (Below.refl _ _).drew _ | exact (al (Below.refl _ _) _).drew) (by exact heap_alloc_new w3 _)) ?_; rintro e w4 ⟨v4, rfl, hown4, hb4⟩; have HB4 : Hid (Below w3.heap.size w3 w4) := (by first | exact below_next (al (Below.refl _ _).drew _) hb4 | exact below_next (al (Below.refl _ _) _).drew hb4); obtain ⟨a4, c4, e4, hc4, hn4, hr4⟩ := OwnE.val hown4; rw [← HL.out] at e4 hc4; subst e4; obtain ⟨b9, o9, ha9, -⟩ := hr4 0 (by have := HL.out; have := HFI.out; omega); subst ha9; have HRE : Hid _ := replace_x (HI3.out.below HB4.out) p' (p' + 1) hp rfl b9 o9 L c4 _ HL.out hr4 hc4 HFI.out HL2.out hS hPl _ rfl; clear hown4 hb4 hc4 hn4 hr4)
      go_wp2_with fail
      refine hK.out _ _ (by exact trivial) ?_
      clear hK K
      intro hHeld2
      clear hHeld
      have hHeld := hHeld2
      clear hHeld2
      try simp only [Act.put, List.setIfInBounds_toArray, List.set_cons_zero, List.set_cons_succ]
      refine run_at (i := 11) rfl (by kernel_rfl) (by rfl) (fun K hK => ?_)
      simp only [List.getElem_toArray, List.getElem_cons_zero, List.getElem_cons_succ]
      go_simp
      first | (go_at_call 35; refine Calls.mono HRE.out ?_; rintro e w5 ⟨rfl, hix, hch⟩; have HIX : Hid _ := hix; have HCH : Hid _ := hch; clear hix hch) | (go_at_call 36; refine Calls.mono (HCA.out _ (by first | exact al (Below.refl _ _).drew _ | exact (al (Below.refl _ _) _).drew) (by exact heap_alloc_new w3 _)) ?_; rintro e w4 ⟨v4, rfl, hown4, hb4⟩; have HB4 : Hid (Below w3.heap.size w3 w4) := (by first | exact below_next (al (Below.refl _ _).drew _) hb4 | exact below_next (al (Below.refl _ _) _).drew hb4); obtain ⟨a4, c4, e4, hc4, hn4, hr4⟩ := OwnE.val hown4; rw [← HL.out] at e4 hc4; subst e4; obtain ⟨b9, o9, ha9, -⟩ := hr4 0 (by have := HL.out; have := HFI.out; omega); subst ha9; have HRE : Hid _ := replace_x (HI3.out.below HB4.out) p' (p' + 1) hp rfl b9 o9 L c4 _ HL.out hr4 hc4 HFI.out HL2.out hS hPl _ rfl; clear hown4 hb4 hc4 hn4 hr4)
      go_wp2_with fail
      refine hK.out _ _ (by exact trivial) ?_
      clear hK K
      intro hHeld2
      clear hHeld
      have hHeld := hHeld2
      clear hHeld2
      try simp only [Act.put, List.setIfInBounds_toArray, List.set_cons_zero, List.set_cons_succ]
      refine wpAnyH_done (by kernel_rfl) ?_ _
      refine NoPanic.normal ?_
      go_wp2
      go_ret
      exact ⟨rfl, (by obtain ⟨v9, vs9, h8, h7⟩ := HIX.out; exact ⟨v9, vs9, h8, h7.imp id (fun ⟨b8, h6, h5⟩ => ⟨b8, h6, Nat.le_trans (Nat.le_trans HB3.out.size HB4.out.size) h5⟩)⟩), ((Chg.of_below HB3.out).trans (Chg.of_below (F := foot g v) HB4.out) (fun i hi => .inl hi)).trans HCH.out (fun i hi => .inl hi)⟩
  case true =>
    obtain ⟨bh, hbh⟩ : ∃ bh : Nat, bh = (i' + 1) := ⟨_, rfl⟩
    have hbK : bh ≤ K0 := by rcases hiK with ⟨h1, h2⟩; first | (have := h2 rfl; omega) | omega
    have hwb : IntKind.i64.wrap ((i' : Int) + 1) = (bh : Int) := by rw [IntKind.wrap_i64]; omega
    have hi1 : i' ≤ K0 := hiK.1
    have hic : i' ≤ c := by omega
    have hbc : bh ≤ c := by omega
    have hi0i : (0 : Int) ≤ (i' : Int) := by omega
    have hb0i : (0 : Int) ≤ (bh : Int) := by omega
    have hiKi : (i' : Int) ≤ (K0 : Int) := by omega
    have hbKi : (bh : Int) ≤ (K0 : Int) := by omega
    have HBH : Hid (bh = (i' + 1)) := hbh
    clear hbh hiK
    by_cases hbc2 : c = bh
    · subst hbc2
      have HCA : Hid (∀ u, Below w3.heap.size w3 u → u.heap[w3.heap.size]? = some (.cells #[.slice (some ⟨b4, o4, none⟩) i' c, .slice (some ⟨w2.heap.size, 0, none⟩) 1 1, .slice (some ⟨b4, o4, none⟩) 0 0] tPg (0, 0)) → Calls Try.prog 36 #[.slice (some ⟨w3.heap.size, 0, none⟩) 3 3] u fun e u' => ∃ v', e = .returned v' ∧ OwnE u' u.heap.size v' (putL P[p'] i' true (mkE (s1, s2) n)) ∧ Below u.heap.size u u') := fun u hu hh => by
        have h9 := concatE_t w3.heap.size 0 3 [⟨some ⟨b4, o4, none⟩, c, P[p'].take i'⟩, ⟨some ⟨w2.heap.size, 0, none⟩, 1, [mkE (s1, s2) n]⟩, ⟨some ⟨b4, o4, none⟩, 0, P[p'].drop c⟩] u (by simp) (fun j hj => by
          match j, hj with
          | 0, _ => exact ⟨by rw [cell_of_row _ _ _ _ _ _ hh]; simp [PartE.v, List.length_take]; rw [← HK0.out]; omega, (HR3.out.below hu).take _, fun h => by cases h⟩
          | 1, _ => exact ⟨by rw [cell_of_row _ _ _ _ _ _ hh]; rfl, HE3.out.below hu, fun h => by cases h⟩
          | 2, _ => exact ⟨by rw [cell_of_row _ _ _ _ _ _ hh]; simp [PartE.v, List.length_drop]; have := HK0.out; omega, by have e8 : P[p'].drop c = [] := List.drop_eq_nil_of_le (by have := HK0.out; omega); rw [e8]; exact fun j hj => absurd hj (Nat.not_lt_zero _), fun h => by cases h⟩) (by have := HK0.out; simp [catE, List.length_take, List.length_drop]; omega)
        have e9 : catE [⟨some ⟨b4, o4, none⟩, c, P[p'].take i'⟩, ⟨some ⟨w2.heap.size, 0, none⟩, 1, [mkE (s1, s2) n]⟩, ⟨some ⟨b4, o4, none⟩, 0, P[p'].drop c⟩] = putL P[p'] i' true (mkE (s1, s2) n) := by rw [HBH.out]; simp [catE, putL]
        rw [e9] at h9
        exact h9
      go_wp2_with (first | (refine wpList_load_mid rfl tSt _ rfl w.heap.size 0 rfl (sc (s1, s2)) _ hl4 Try.underlying34 rfl info_st ?_))
      rw [← hw3]
      obtain ⟨L, hL⟩ : ∃ L, L = (putL P[p'] i' true (mkE (s1, s2) n)).length := ⟨_, rfl⟩
      have HL : Hid _ := hL
      have HFI : Hid (S < L) := by rw [hL]; exact hfit
      have HL2 : Hid (L ≤ 300) := (show L ≤ 300 by rw [hL]; unfold putL; simp only [List.length_append, List.length_take, List.length_drop, List.length_singleton]; rw [← HK0.out]; omega)
      clear hL hw3
      refine wp_region_noPanic ?_
      refine wp_region_held_drew (S := (fun _ => True)) (by kernel_rfl) (by exact trivial) (fun hHeld => ?_)
      refine take_at (i := 0) 60 (v := ?_) rfl rfl (by kernel_rfl) (by kernel_rfl) (by kernel_rfl) (fun _ _ _ h => h) (by rfl) ?_ hHeld ?_
      rotate_left
      · (intro w hSw; (try dsimp only at hSw); go_simp; try with_reducible rfl)
      simp only [Act.put, List.setIfInBounds_toArray, List.set_cons_zero, List.set_cons_succ]
      refine take_at (i := 1) 61 (v := ?_) rfl rfl (by kernel_rfl) (by kernel_rfl) (by kernel_rfl) (fun _ _ _ h => h) (by rfl) ?_ hHeld ?_
      rotate_left
      · (intro w hSw; (try dsimp only at hSw); go_simp; try with_reducible rfl)
      simp only [Act.put, List.setIfInBounds_toArray, List.set_cons_zero, List.set_cons_succ]
      refine take_at (i := 2) 62 (v := ?_) rfl rfl (by kernel_rfl) (by kernel_rfl) (by kernel_rfl) (fun _ _ _ h => h) (by rfl) ?_ hHeld ?_
      rotate_left
      · (intro w hSw; (try dsimp only at hSw); go_simp; try with_reducible rfl)
      simp only [Act.put, List.setIfInBounds_toArray, List.set_cons_zero, List.set_cons_succ]
      refine take_at (i := 3) 63 (v := ?_) rfl rfl (by kernel_rfl) (by kernel_rfl) (by kernel_rfl) (fun _ _ _ h => h) (by rfl) ?_ hHeld ?_
      rotate_left
      · (intro w hSw; (try dsimp only at hSw); go_simp; try with_reducible rfl)
      simp only [Act.put, List.setIfInBounds_toArray, List.set_cons_zero, List.set_cons_succ]
      refine take_at (i := 4) 64 (v := ?_) rfl rfl (by kernel_rfl) (by kernel_rfl) (by kernel_rfl) (fun _ _ _ h => h) (by rfl) ?_ hHeld ?_
      rotate_left
      · (intro w hSw; (try dsimp only at hSw); go_simp; try with_reducible rfl)
      simp only [Act.put, List.setIfInBounds_toArray, List.set_cons_zero, List.set_cons_succ]
      refine take_at (i := 5) 65 (v := ?_) rfl rfl (by kernel_rfl) (by kernel_rfl) (by kernel_rfl) (fun _ _ _ h => h) (by rfl) ?_ hHeld ?_
      rotate_left
      · (intro w hSw; (try dsimp only at hSw); go_simp; try with_reducible rfl)
      simp only [Act.put, List.setIfInBounds_toArray, List.set_cons_zero, List.set_cons_succ]
      refine take_at (i := 6) 66 (v := ?_) rfl rfl (by kernel_rfl) (by kernel_rfl) (by kernel_rfl) (fun _ _ _ h => h) (by rfl) ?_ hHeld ?_
      rotate_left
      · (intro w hSw; (try dsimp only at hSw); go_simp; try with_reducible rfl)
      simp only [Act.put, List.setIfInBounds_toArray, List.set_cons_zero, List.set_cons_succ]
      refine take_at (i := 7) 67 (v := ?_) rfl rfl (by kernel_rfl) (by kernel_rfl) (by kernel_rfl) (fun _ _ _ h => h) (by rfl) ?_ hHeld ?_
      rotate_left
      · (intro w hSw; (try dsimp only at hSw); go_simp; try with_reducible rfl)
      simp only [Act.put, List.setIfInBounds_toArray, List.set_cons_zero, List.set_cons_succ]
      refine take_at (i := 8) 68 (v := ?_) rfl rfl (by kernel_rfl) (by kernel_rfl) (by kernel_rfl) (fun _ _ _ h => h) (by rfl) ?_ hHeld ?_
      rotate_left
      · (intro w hSw; (try dsimp only at hSw); go_simp; try with_reducible rfl)
      simp only [Act.put, List.setIfInBounds_toArray, List.set_cons_zero, List.set_cons_succ]
      refine run_at (i := 9) rfl (by kernel_rfl) (by rfl) (fun K hK => ?_)
      simp only [List.getElem_toArray, List.getElem_cons_zero, List.getElem_cons_succ]
      go_simp
      go_wp2_with fail
      refine hK.out _ _ (by exact trivial) ?_
      clear hK K
      intro hHeld2
      clear hHeld
      have hHeld := hHeld2
      clear hHeld2
      try simp only [Act.put, List.setIfInBounds_toArray, List.set_cons_zero, List.set_cons_succ]
      refine run_at (i := 10) rfl (by kernel_rfl) (by rfl) (fun K hK => ?_)
      simp only [List.getElem_toArray, List.getElem_cons_zero, List.getElem_cons_succ]
      go_simp
      first | (go_at_call 35; refine Calls.mono HRE.out ?_; rintro e w5 ⟨rfl, hix, hch⟩; have HIX : Hid _ := hix; have HCH : Hid _ := hch; clear hix hch) | (go_at_call 36; refine Calls.mono (HCA.out _ (by first | exact al (Below.refl _ _).drew _ | exact (al (Below.refl _ _) _).drew) (by exact heap_alloc_new w3 _)) ?_; rintro e w4 ⟨v4, rfl, hown4, hb4⟩; have HB4 : Hid (Below w3.heap.size w3 w4) := (by first | exact below_next (al (Below.refl _ _).drew _) hb4 | exact below_next (al (Below.refl _ _) _).drew hb4); obtain ⟨a4, c4, e4, hc4, hn4, hr4⟩ := OwnE.val hown4; rw [← HL.out] at e4 hc4; subst e4; obtain ⟨b9, o9, ha9, -⟩ := hr4 0 (by have := HL.out; have := HFI.out; omega); subst ha9; have HRE : Hid _ := replace_x (HI3.out.below HB4.out) p' (p' + 1) hp rfl b9 o9 L c4 _ HL.out hr4 hc4 HFI.out HL2.out hS hPl _ rfl; clear hown4 hb4 hc4 hn4 hr4)
      go_wp2_with fail
      refine hK.out _ _ (by exact trivial) ?_
      clear hK K
      intro hHeld2
      clear hHeld
      have hHeld := hHeld2
      clear hHeld2
      try simp only [Act.put, List.setIfInBounds_toArray, List.set_cons_zero, List.set_cons_succ]
      refine run_at (i := 11) rfl (by kernel_rfl) (by rfl) (fun K hK => ?_)
      simp only [List.getElem_toArray, List.getElem_cons_zero, List.getElem_cons_succ]
      go_simp
      first | (go_at_call 35; refine Calls.mono HRE.out ?_; rintro e w5 ⟨rfl, hix, hch⟩; have HIX : Hid _ := hix; have HCH : Hid _ := hch; clear hix hch) | (go_at_call 36; refine Calls.mono (HCA.out _ (by first | exact al (Below.refl _ _).drew _ | exact (al (Below.refl _ _) _).drew) (by exact heap_alloc_new w3 _)) ?_; rintro e w4 ⟨v4, rfl, hown4, hb4⟩; have HB4 : Hid (Below w3.heap.size w3 w4) := (by first | exact below_next (al (Below.refl _ _).drew _) hb4 | exact below_next (al (Below.refl _ _) _).drew hb4); obtain ⟨a4, c4, e4, hc4, hn4, hr4⟩ := OwnE.val hown4; rw [← HL.out] at e4 hc4; subst e4; obtain ⟨b9, o9, ha9, -⟩ := hr4 0 (by have := HL.out; have := HFI.out; omega); subst ha9; have HRE : Hid _ := replace_x (HI3.out.below HB4.out) p' (p' + 1) hp rfl b9 o9 L c4 _ HL.out hr4 hc4 HFI.out HL2.out hS hPl _ rfl; clear hown4 hb4 hc4 hn4 hr4)
      go_wp2_with fail
      refine hK.out _ _ (by exact trivial) ?_
      clear hK K
      intro hHeld2
      clear hHeld
      have hHeld := hHeld2
      clear hHeld2
      try simp only [Act.put, List.setIfInBounds_toArray, List.set_cons_zero, List.set_cons_succ]
      refine wpAnyH_done (by kernel_rfl) ?_ _
      refine NoPanic.normal ?_
      go_wp2
      go_ret
      exact ⟨rfl, (by obtain ⟨v9, vs9, h8, h7⟩ := HIX.out; exact ⟨v9, vs9, h8, h7.imp id (fun ⟨b8, h6, h5⟩ => ⟨b8, h6, Nat.le_trans (Nat.le_trans HB3.out.size HB4.out.size) h5⟩)⟩), ((Chg.of_below HB3.out).trans (Chg.of_below (F := foot g v) HB4.out) (fun i hi => .inl hi)).trans HCH.out (fun i hi => .inl hi)⟩
    · have HCA : Hid (∀ u, Below w3.heap.size w3 u → u.heap[w3.heap.size]? = some (.cells #[.slice (some ⟨b4, o4, none⟩) i' c, .slice (some ⟨w2.heap.size, 0, none⟩) 1 1, .slice (some ⟨b4, o4 + bh * 3, none⟩) (K0 - bh) (c - bh)] tPg (0, 0)) → Calls Try.prog 36 #[.slice (some ⟨w3.heap.size, 0, none⟩) 3 3] u fun e u' => ∃ v', e = .returned v' ∧ OwnE u' u.heap.size v' (putL P[p'] i' true (mkE (s1, s2) n)) ∧ Below u.heap.size u u') := fun u hu hh => by
        have h9 := concatE_t w3.heap.size 0 3 [⟨some ⟨b4, o4, none⟩, c, P[p'].take i'⟩, ⟨some ⟨w2.heap.size, 0, none⟩, 1, [mkE (s1, s2) n]⟩, ⟨some ⟨b4, o4 + bh * 3, none⟩, (c - bh), P[p'].drop bh⟩] u (by simp) (fun j hj => by
          match j, hj with
          | 0, _ => exact ⟨by rw [cell_of_row _ _ _ _ _ _ hh]; simp [PartE.v, List.length_take]; rw [← HK0.out]; omega, (HR3.out.below hu).take _, fun h => by cases h⟩
          | 1, _ => exact ⟨by rw [cell_of_row _ _ _ _ _ _ hh]; rfl, HE3.out.below hu, fun h => by cases h⟩
          | 2, _ => exact ⟨by rw [cell_of_row _ _ _ _ _ _ hh]; simp [PartE.v, List.length_drop, HK0.out], (HR3.out.below hu).drop _, fun h => by cases h⟩) (by have := HK0.out; simp [catE, List.length_take, List.length_drop]; omega)
        have e9 : catE [⟨some ⟨b4, o4, none⟩, c, P[p'].take i'⟩, ⟨some ⟨w2.heap.size, 0, none⟩, 1, [mkE (s1, s2) n]⟩, ⟨some ⟨b4, o4 + bh * 3, none⟩, (c - bh), P[p'].drop bh⟩] = putL P[p'] i' true (mkE (s1, s2) n) := by rw [HBH.out]; simp [catE, putL]
        rw [e9] at h9
        exact h9
      go_wp2_with (first | (refine wpList_load_mid rfl tSt _ rfl w.heap.size 0 rfl (sc (s1, s2)) _ hl4 Try.underlying34 rfl info_st ?_))
      rw [← hw3]
      obtain ⟨L, hL⟩ : ∃ L, L = (putL P[p'] i' true (mkE (s1, s2) n)).length := ⟨_, rfl⟩
      have HL : Hid _ := hL
      have HFI : Hid (S < L) := by rw [hL]; exact hfit
      have HL2 : Hid (L ≤ 300) := (show L ≤ 300 by rw [hL]; unfold putL; simp only [List.length_append, List.length_take, List.length_drop, List.length_singleton]; rw [← HK0.out]; omega)
      clear hL hw3
      refine wp_region_noPanic ?_
      refine wp_region_held_drew (S := (fun _ => True)) (by kernel_rfl) (by exact trivial) (fun hHeld => ?_)
      refine take_at (i := 0) 60 (v := ?_) rfl rfl (by kernel_rfl) (by kernel_rfl) (by kernel_rfl) (fun _ _ _ h => h) (by rfl) ?_ hHeld ?_
      rotate_left
      · (intro w hSw; (try dsimp only at hSw); go_simp; try with_reducible rfl)
      simp only [Act.put, List.setIfInBounds_toArray, List.set_cons_zero, List.set_cons_succ]
      refine take_at (i := 1) 61 (v := ?_) rfl rfl (by kernel_rfl) (by kernel_rfl) (by kernel_rfl) (fun _ _ _ h => h) (by rfl) ?_ hHeld ?_
      rotate_left
      · (intro w hSw; (try dsimp only at hSw); go_simp; try with_reducible rfl)
      simp only [Act.put, List.setIfInBounds_toArray, List.set_cons_zero, List.set_cons_succ]
      refine take_at (i := 2) 62 (v := ?_) rfl rfl (by kernel_rfl) (by kernel_rfl) (by kernel_rfl) (fun _ _ _ h => h) (by rfl) ?_ hHeld ?_
      rotate_left
      · (intro w hSw; (try dsimp only at hSw); go_simp; try with_reducible rfl)
      simp only [Act.put, List.setIfInBounds_toArray, List.set_cons_zero, List.set_cons_succ]
      refine take_at (i := 3) 63 (v := ?_) rfl rfl (by kernel_rfl) (by kernel_rfl) (by kernel_rfl) (fun _ _ _ h => h) (by rfl) ?_ hHeld ?_
      rotate_left
      · (intro w hSw; (try dsimp only at hSw); go_simp; try with_reducible rfl)
      simp only [Act.put, List.setIfInBounds_toArray, List.set_cons_zero, List.set_cons_succ]
      refine take_at (i := 4) 64 (v := ?_) rfl rfl (by kernel_rfl) (by kernel_rfl) (by kernel_rfl) (fun _ _ _ h => h) (by rfl) ?_ hHeld ?_
      rotate_left
      · (intro w hSw; (try dsimp only at hSw); go_simp; try with_reducible rfl)
      simp only [Act.put, List.setIfInBounds_toArray, List.set_cons_zero, List.set_cons_succ]
      refine take_at (i := 5) 65 (v := ?_) rfl rfl (by kernel_rfl) (by kernel_rfl) (by kernel_rfl) (fun _ _ _ h => h) (by rfl) ?_ hHeld ?_
      rotate_left
      · (intro w hSw; (try dsimp only at hSw); go_simp; try with_reducible rfl)
      simp only [Act.put, List.setIfInBounds_toArray, List.set_cons_zero, List.set_cons_succ]
      refine take_at (i := 6) 66 (v := ?_) rfl rfl (by kernel_rfl) (by kernel_rfl) (by kernel_rfl) (fun _ _ _ h => h) (by rfl) ?_ hHeld ?_
      rotate_left
      · (intro w hSw; (try dsimp only at hSw); go_simp; try with_reducible rfl)
      simp only [Act.put, List.setIfInBounds_toArray, List.set_cons_zero, List.set_cons_succ]
      refine take_at (i := 7) 67 (v := ?_) rfl rfl (by kernel_rfl) (by kernel_rfl) (by kernel_rfl) (fun _ _ _ h => h) (by rfl) ?_ hHeld ?_
      rotate_left
      · (intro w hSw; (try dsimp only at hSw); go_simp; try with_reducible rfl)
      simp only [Act.put, List.setIfInBounds_toArray, List.set_cons_zero, List.set_cons_succ]
      refine take_at (i := 8) 68 (v := ?_) rfl rfl (by kernel_rfl) (by kernel_rfl) (by kernel_rfl) (fun _ _ _ h => h) (by rfl) ?_ hHeld ?_
      rotate_left
      · (intro w hSw; (try dsimp only at hSw); go_simp; try with_reducible rfl)
      simp only [Act.put, List.setIfInBounds_toArray, List.set_cons_zero, List.set_cons_succ]
      refine run_at (i := 9) rfl (by kernel_rfl) (by rfl) (fun K hK => ?_)
      simp only [List.getElem_toArray, List.getElem_cons_zero, List.getElem_cons_succ]
      go_simp
      go_wp2_with fail
      refine hK.out _ _ (by exact trivial) ?_
      clear hK K
      intro hHeld2
      clear hHeld
      have hHeld := hHeld2
      clear hHeld2
      try simp only [Act.put, List.setIfInBounds_toArray, List.set_cons_zero, List.set_cons_succ]
      refine run_at (i := 10) rfl (by kernel_rfl) (by rfl) (fun K hK => ?_)
      simp only [List.getElem_toArray, List.getElem_cons_zero, List.getElem_cons_succ]
      go_simp
      first | (go_at_call 35; refine Calls.mono HRE.out ?_; rintro e w5 ⟨rfl, hix, hch⟩; have HIX : Hid _ := hix; have HCH : Hid _ := hch; clear hix hch) | (go_at_call 36; refine Calls.mono (HCA.out _ (by first | exact al (Below.refl _ _).drew _ | exact (al (Below.refl _ _) _).drew) (by exact heap_alloc_new w3 _)) ?_; rintro e w4 ⟨v4, rfl, hown4, hb4⟩; have HB4 : Hid (Below w3.heap.size w3 w4) := (by first | exact below_next (al (Below.refl _ _).drew _) hb4 | exact below_next (al (Below.refl _ _) _).drew hb4); obtain ⟨a4, c4, e4, hc4, hn4, hr4⟩ := OwnE.val hown4; rw [← HL.out] at e4 hc4; subst e4; obtain ⟨b9, o9, ha9, -⟩ := hr4 0 (by have := HL.out; have := HFI.out; omega); subst ha9; have HRE : Hid _ := replace_x (HI3.out.below HB4.out) p' (p' + 1) hp rfl b9 o9 L c4 _ HL.out hr4 hc4 HFI.out HL2.out hS hPl _ rfl; clear hown4 hb4 hc4 hn4 hr4)
      go_wp2_with fail
      refine hK.out _ _ (by exact trivial) ?_
      clear hK K
      intro hHeld2
      clear hHeld
      have hHeld := hHeld2
      clear hHeld2
      try simp only [Act.put, List.setIfInBounds_toArray, List.set_cons_zero, List.set_cons_succ]
      refine run_at (i := 11) rfl (by kernel_rfl) (by rfl) (fun K hK => ?_)
      simp only [List.getElem_toArray, List.getElem_cons_zero, List.getElem_cons_succ]
      go_simp
      first | (go_at_call 35; refine Calls.mono HRE.out ?_; rintro e w5 ⟨rfl, hix, hch⟩; have HIX : Hid _ := hix; have HCH : Hid _ := hch; clear hix hch) | (go_at_call 36; refine Calls.mono (HCA.out _ (by first | exact al (Below.refl _ _).drew _ | exact (al (Below.refl _ _) _).drew) (by exact heap_alloc_new w3 _)) ?_; rintro e w4 ⟨v4, rfl, hown4, hb4⟩; have HB4 : Hid (Below w3.heap.size w3 w4) := (by first | exact below_next (al (Below.refl _ _).drew _) hb4 | exact below_next (al (Below.refl _ _) _).drew hb4); obtain ⟨a4, c4, e4, hc4, hn4, hr4⟩ := OwnE.val hown4; rw [← HL.out] at e4 hc4; subst e4; obtain ⟨b9, o9, ha9, -⟩ := hr4 0 (by have := HL.out; have := HFI.out; omega); subst ha9; have HRE : Hid _ := replace_x (HI3.out.below HB4.out) p' (p' + 1) hp rfl b9 o9 L c4 _ HL.out hr4 hc4 HFI.out HL2.out hS hPl _ rfl; clear hown4 hb4 hc4 hn4 hr4)
      go_wp2_with fail
      refine hK.out _ _ (by exact trivial) ?_
      clear hK K
      intro hHeld2
      clear hHeld
      have hHeld := hHeld2
      clear hHeld2
      try simp only [Act.put, List.setIfInBounds_toArray, List.set_cons_zero, List.set_cons_succ]
      refine wpAnyH_done (by kernel_rfl) ?_ _
      refine NoPanic.normal ?_
      go_wp2
      go_ret
      exact ⟨rfl, (by obtain ⟨v9, vs9, h8, h7⟩ := HIX.out; exact ⟨v9, vs9, h8, h7.imp id (fun ⟨b8, h6, h5⟩ => ⟨b8, h6, Nat.le_trans (Nat.le_trans HB3.out.size HB4.out.size) h5⟩)⟩), ((Chg.of_below HB3.out).trans (Chg.of_below (F := foot g v) HB4.out) (fun i hi => .inl hi)).trans HCH.out (fun i hi => .inl hi)⟩
end
end Go.Proofs.Ytibolgpaolnheaa
namespace Go.Proofs.Ytibolgpaolnheaa
set_option linter.unusedVariables false
set_option linter.unusedSimpArgs false
open Go.RowKit
variable {w w' : World} {g S : Nat} {P : List (List Ent)} {v : Value} {vs : List Value}
theorem found_ex (p : Nat → Bool) : ∀ n, (∀ a b, a ≤ b → b < n → p a = true → p b = true) → ∃ r, Found n p r
  | 0, _ => ⟨0, Nat.le_refl _, fun k hk => absurd hk (Nat.not_lt_zero _), fun k _ hk => absurd hk (Nat.not_lt_zero _)⟩
  | n + 1, hm => by
    obtain ⟨r, h1, h2, h3⟩ := found_ex p n (fun a b hab hb ha => hm a b hab (by omega) ha)
    by_cases hr : r < n
    · exact ⟨r, by omega, h2, fun k hk hk2 => by
        by_cases hk3 : k < n
        · exact h3 k hk hk3
        · exact hm r k hk hk2 (h3 r (Nat.le_refl _) hr)⟩
    · obtain rfl : r = n := by omega
      cases hp : p r
      · exact ⟨r + 1, Nat.le_refl _, fun k hk => by
          by_cases hk2 : k < r
          · exact h2 k hk2
          · obtain rfl : k = r := by omega
            exact hp, fun k hk hk2 => absurd hk (by omega)⟩
      · exact ⟨r, by omega, h2, fun k hk hk2 => by
          obtain rfl : k = r := by omega
          exact hp⟩
theorem place_ex (hsp : SP P) (s : St) : ∃ p i ok, PlaceIs P s p i ok := by
  by_cases hne : P = []
  · exact ⟨0, 0, false, .inl ⟨hne, rfl, rfl, rfl⟩⟩
  · obtain ⟨r, hr⟩ := found_ex (pr1 P s) P.length (hsp.mono1 s)
    have hpos : 0 < P.length := List.length_pos_iff.2 hne
    have hp : r - 1 < P.length := by have := hr.1; omega
    have eP : P.getD (r - 1) [] = P[r - 1] := by simp [List.getD, hp]
    obtain ⟨i, hi⟩ := found_ex (pr2 P[r - 1] s) P[r - 1].length (mono2 (hsp.page (List.getElem_mem hp)) s)
    by_cases hok : ∃ h : i < P[r - 1].length, P[r - 1][i].st = s
    · exact ⟨r - 1, i, true, .inr ⟨r, hr, rfl, hp, by rw [eP]; exact hi, by rw [eP]; exact ⟨fun _ => hok, fun _ => rfl⟩⟩⟩
    · exact ⟨r - 1, i, false, .inr ⟨r, hr, rfl, hp, by rw [eP]; exact hi, by rw [eP]; exact ⟨fun h => (by cases h), fun h => absurd h hok⟩⟩⟩
/-- where the row lies from now on -/
def Lies (w : World) (v v' : Value) : Prop := v'.ownBlock = v.ownBlock ∨ ∃ b, v'.ownBlock = some b ∧ w.heap.size ≤ b
/-- Put, whatever the index has -/
theorem put_t (h : IdxAt w g S P v vs) (ht : Tid S P) (hS : 1 ≤ S ∧ S ≤ 64) (hPl : P.length ≤ 4398046511104) (s1 s2 n : Nat) :
    Calls Try.prog 13 #[.pointer (some ⟨g, 0, none⟩), sv (s1, s2), .int .u64 (n : Int)] w fun e w' => ∃ p i ok v' vs', PlaceIs P (s1, s2) p i ok ∧ e = .returned (.bool (!ok)) ∧ IdxAt w' g S (putP S P p i ok (mkE (s1, s2) n)) v' vs' ∧ Lies w v v' ∧ Chg (foot g v) w w' := by
  obtain ⟨hsp, hsz⟩ := ht
  obtain ⟨p, i, ok, hpl⟩ := place_ex hsp (s1, s2)
  have hlp : ∀ q ∈ P, q.length ≤ 100 := fun q hq => by have := hsz q hq; omega
  by_cases hne : P = []
  · obtain ⟨rfl, rfl, rfl⟩ := hpl.nil hne
    subst hne
    refine (put_first h hS s1 s2 n).mono ?_
    rintro e w' ⟨rfl, ⟨v', vs', h1, h2⟩, h3⟩
    exact ⟨0, 0, false, v', vs', hpl, rfl, by rw [putP_nil S hS.1]; exact h1, h2, h3⟩
  · have hp := hpl.lt hne
    have eP : P.getD p [] = P[p] := by simp [List.getD, hp]
    by_cases hfit : (putL P[p] i ok (mkE (s1, s2) n)).length ≤ S
    · refine (put_in h hsp hS hPl hlp s1 s2 n p i ok hpl hp hfit).mono ?_
      rintro e w' ⟨rfl, ⟨vs', h1⟩, h3⟩
      refine ⟨p, i, ok, v, vs', hpl, rfl, ?_, .inl rfl, h3⟩
      unfold putP
      rw [eP, if_pos hfit, ← repL_set hp]
      exact h1
    · refine (put_x h hsp hS hPl hlp s1 s2 n p i ok hpl hp (by omega)).mono ?_
      rintro e w' ⟨rfl, ⟨v', vs', h1, h2⟩, h3⟩
      refine ⟨p, i, ok, v', vs', hpl, rfl, ?_, h2, h3⟩
      unfold putP
      rw [eP, if_neg hfit]
      exact h1
end Go.Proofs.Ytibolgpaolnheaa
namespace Go.Proofs.Ytibolgpaolnheaa
set_option linter.unusedVariables false
set_option linter.unusedSimpArgs false
open Go.RowKit
variable {w w' : World} {g S : Nat} {P : List (List Ent)} {v : Value} {vs : List Value}
theorem getD_set_same {x : List Ent} {p : Nat} (hp : p < P.length) : (P.set p x).getD p [] = x := by simp [List.getD, hp]
theorem getD_set_ne {x : List Ent} {p q : Nat} (hpq : p ≠ q) : (P.set p x).getD q [] = P.getD q [] := by simp [List.getD, List.getElem?_set_ne hpq]
theorem repL_set_in {α : Type} {l new : List α} {x : α} {p i j : Nat} (hi : i ≤ p) (hj : p < j) : repL (l.set p x) i j new = repL l i j new := by
  unfold repL
  rw [List.take_set_of_le hi, List.drop_set_of_lt hj]
theorem fits_any (h : IdxAt w g S P v vs) (hS : S ≤ 64) (p : Nat) (hp : p < P.length) (hPl : P.length ≤ 4398046511104) (hlp : ∀ q ∈ P, q.length ≤ 100) : Calls Try.prog 40 #[.pointer (some ⟨g, 0, none⟩), .int .i64 (p : Int)] w fun e w' => ∃ b : Bool, e = .returned (.bool b) ∧ (b = true ↔ p + 1 < P.length ∧ (P.getD p []).length + (P.getD (p + 1) []).length ≤ S / 2) ∧ Below w.heap.size w w' := by
  by_cases h1 : p + 1 < P.length
  · refine (fits_t h hS p (p + 1) rfl h1 hPl hlp).mono ?_
    rintro e w' ⟨rfl, hb⟩
    exact ⟨_, rfl, by rw [decide_eq_true_iff]; exact ⟨fun h9 => ⟨h1, h9⟩, fun h9 => h9.2⟩, hb⟩
  · refine (fits_end h p (p + 1) rfl (by omega) hPl).mono ?_
    rintro e w' ⟨rfl, hb⟩
    exact ⟨false, rfl, ⟨fun h9 => (by cases h9), fun h9 => absurd h9.1 h1⟩, hb⟩
section
set_option maxRecDepth 20000
set_option maxHeartbeats 3200000
theorem remove_no (h : IdxAt w g S P v vs) (hsp : SP P) (hPl : P.length ≤ 4398046511104) (hlp : ∀ p ∈ P, p.length ≤ 100) (s1 s2 : Nat) (p i : Nat) (hpl : PlaceIs P (s1, s2) p i false) :
    Calls Try.prog 15 #[.pointer (some ⟨g, 0, none⟩), sv (s1, s2)] w fun e w' => e = .returned (.tuple #[.int .u64 0, .bool false]) ∧ Below w.heap.size w w' := by
  obtain ⟨w1, hw1⟩ : ∃ X : World, X = w.alloc (.cells #[.int .u64 (s1 : Int), .int .u64 (s2 : Int)] tSt) := ⟨_, rfl⟩
  have hb1 : Below w.heap.size w w1 := by rw [hw1]; exact al (Below.refl _ _) _
  obtain ⟨pa, cap, hv, hcap, hnil, hrd, hpg⟩ := (h.below hb1).rd
  have HPL : Hid _ := place_t (.pointer (some ⟨g, 0, none⟩)) pa P.length cap P (s1, s2) w1 hpg rfl hrd hsp hPl hlp
  have HP : Hid (PlaceIs P (s1, s2) p i false) := hpl
  have HB1 : Hid (Below w.heap.size w w1) := hb1
  clear hb1 hrd hpg hcap hnil h hpl hsp hPl hlp hv
  go_enter Try.func15, Try.ntmps15
  go_wp2_with fail
  rw [← hw1]
  refine Calls.mono HPL.out ?_
  rintro e w2 ⟨p', i', ok', rfl, hpl', hb2⟩
  obtain ⟨e1, e2, e3⟩ := hpl'.uniq HP.out
  subst e1 e2 e3
  have HB2 : Hid (Below w.heap.size w w2) := below_next HB1.out hb2
  clear hb2 hpl' HPL HB1 hw1
  go_wp2
  refine bodyPost_ret (results_tmp2 rfl _ _ _) rfl ?_
  exact ⟨rfl, HB2.out⟩
theorem remove_in (h : IdxAt w g S P v vs) (hsp : SP P) (hS : 1 ≤ S ∧ S ≤ 64) (hPl : P.length ≤ 4398046511104) (hlp : ∀ p ∈ P, p.length ≤ 100) (s1 s2 : Nat) (p i i1 : Nat) (hpl : PlaceIs P (s1, s2) p i true) (hp : p < P.length) (hi : i < P[p].length) (hi1 : i1 = i + 1) :
    Calls Try.prog 15 #[.pointer (some ⟨g, 0, none⟩), sv (s1, s2)] w fun e w' => e = .returned (.tuple #[.int .u64 (P[p][i].n : Int), .bool true]) ∧ (∃ v' vs', IdxAt w' g S (remP S P p i) v' vs' ∧ v'.ownBlock = v.ownBlock) ∧ Chg (foot g v) w w' := by
  obtain ⟨w1, hw1⟩ : ∃ X : World, X = w.alloc (.cells #[.int .u64 (s1 : Int), .int .u64 (s2 : Int)] tSt) := ⟨_, rfl⟩
  have hb1 : Below w.heap.size w w1 := by rw [hw1]; exact al (Below.refl _ _) _
  have HI1 : Hid (IdxAt w1 g S P v vs) := h.below hb1
  obtain ⟨pa, cap0, hv, hcap, hnil, hrd, hpg⟩ := (h.below hb1).rd
  have HPL : Hid _ := place_t (.pointer (some ⟨g, 0, none⟩)) pa P.length cap0 P (s1, s2) w1 hpg rfl hrd hsp hPl hlp
  have HP : Hid (PlaceIs P (s1, s2) p i true) := hpl
  have HB1 : Hid (Below w.heap.size w w1) := hb1
  clear hb1 hrd hpg hcap hnil hpl hv
  go_enter Try.func15, Try.ntmps15
  go_wp2_with fail
  rw [← hw1]
  refine Calls.mono HPL.out ?_
  rintro e w2 ⟨p', i', ok', rfl, hpl', hb2⟩
  obtain ⟨e1, e2, e3⟩ := hpl'.uniq HP.out
  subst e1 e2 e3
  have HB2 : Hid (Below w.heap.size w w2) := below_next HB1.out hb2
  have HI2 : Hid (IdxAt w2 g S P v vs) := HI1.out.below hb2
  clear hb2 hpl' HPL HB1 hw1 HI1 h
  rcases HI2.out.row.2 with ⟨e, h0⟩ | ⟨rb, cap, cur, e, hB, hg, hn1, hm, r⟩
  · omega
  subst e
  obtain ⟨N, hN⟩ : ∃ N, N = P.length := ⟨_, rfl⟩
  have hcg1 : w2.cell? ⟨g, 1, none⟩ = some (.slice (some ⟨rb, 0, none⟩) N cap) := by rw [hN, cell_of_row _ _ _ _ _ _ HI2.out.hd]; rfl
  obtain ⟨a, c, e1, hkc, hnc, hr⟩ := HI2.out.pg p' hp
  have hcp : w2.cell? ⟨rb, p', none⟩ = some (.slice a P[p'].length c) := by rw [World.ownsRow.cellAt HI2.out.row p' (by omega), e1]
  obtain ⟨b4, o4, ha, -⟩ := hr i' hi
  subst ha
  obtain ⟨K0, hK0⟩ : ∃ N, N = P[p'].length := ⟨_, rfl⟩
  rw [← hK0] at hcp hkc
  have hK1 : K0 ≤ 100 := by rw [hK0]; exact hlp _ (List.getElem_mem hp)
  have hiK : i' < K0 := by omega
  have hi0 : (0 : Int) ≤ (i' : Int) := by omega
  have hi10 : (0 : Int) ≤ (i1 : Int) := by omega
  have hiKI : (i' : Int) ≤ (K0 : Int) := by omega
  have hiKIl : (i' : Int) < (K0 : Int) := by omega
  have hi1K : (i1 : Int) ≤ (K0 : Int) := by omega
  have hi1Kn : i1 ≤ K0 := by omega
  have hic : i' ≤ c := by omega
  have hi1c : i1 ≤ c := by omega
  have hw1 : IntKind.i64.wrap ((i' : Int) + 1) = (i1 : Int) := by rw [IntKind.wrap_i64]; omega
  have hpN : (p' : Int) < (N : Int) := by omega
  have hpNn : p' < N := by omega
  have hp0 : (0 : Int) ≤ (p' : Int) := by omega
  obtain ⟨A, M, CC, hcut⟩ : ∃ (A : Addr) (M CC : Nat), (c = i1 ∧ A = ⟨b4, o4, none⟩ ∧ M = 0 ∧ CC = 0) ∨ (¬ c = i1 ∧ A = ⟨b4, o4 + i1 * 3, none⟩ ∧ M = K0 - i1 ∧ CC = c - i1) := by
    by_cases hc : c = i1
    · exact ⟨_, _, _, .inl ⟨hc, rfl, rfl, rfl⟩⟩
    · exact ⟨_, _, _, .inr ⟨hc, rfl, rfl, rfl⟩⟩
  have HCUT : Hid _ := hcut
  obtain ⟨LL, hLL⟩ : ∃ LL, LL = (cutL P[p'] i').length := ⟨_, rfl⟩
  have HR : Hid (RdE w2 (some ⟨b4, o4, none⟩) P[p']) := hr
  have HCA : Hid (∀ u, Below w2.heap.size w2 u → u.heap[w2.heap.size]? = some (.cells #[.slice (some ⟨b4, o4, none⟩) i' c, .slice (some A) M CC] tPg (0, 0)) → Calls Try.prog 36 #[.slice (some ⟨w2.heap.size, 0, none⟩) 2 2] u fun e u' => ∃ v', e = .returned v' ∧ OwnE u' u.heap.size v' (cutL P[p'] i') ∧ Below u.heap.size u u') := fun u hu hh => by
    have hM : M = (P[p'].drop i1).length := by rw [List.length_drop, ← hK0]; rcases hcut with ⟨h1, -, h2, -⟩ | ⟨-, -, h2, -⟩ <;> omega
    have h9 := concatE_t w2.heap.size 0 2 [⟨some ⟨b4, o4, none⟩, c, P[p'].take i'⟩, ⟨some A, CC, P[p'].drop i1⟩] u (by simp) (fun j hj => by
      match j, hj with
      | 0, _ => exact ⟨by rw [cell_of_row _ _ _ _ _ _ hh]; simp [PartE.v, List.length_take]; omega, (RdE.below HR.out hu).take _, fun h => by cases h⟩
      | 1, _ => exact ⟨by rw [cell_of_row _ _ _ _ _ _ hh, hM]; rfl, (by
          rcases hcut with ⟨h1, rfl, h2, -⟩ | ⟨-, rfl, h2, -⟩
          · show RdE u _ (P[p'].drop i1)
            rw [List.drop_eq_nil_of_le (by omega)]
            exact fun j hj => absurd hj (Nat.not_lt_zero _)
          · exact (RdE.below HR.out hu).drop _), fun h => by cases h⟩) (by simp [catE, List.length_take, List.length_drop]; omega)
    have e9 : catE [⟨some ⟨b4, o4, none⟩, c, P[p'].take i'⟩, ⟨some A, CC, P[p'].drop i1⟩] = cutL P[p'] i' := by simp [catE, cutL, hi1]
    rw [e9] at h9
    exact h9
  have hgl : g < w2.heap.size := (Array.getElem?_eq_some_iff.1 HI2.out.hd).1
  have hrl : rb < w2.heap.size := World.block_lt_of_cell? w2 _ hcp
  have hne : rb ≠ g := fun e => HI2.out.ne (by rw [e]; rfl)
  have HS3 : Hid (∀ o, (w2.drew.alloc o).cell? ⟨g, 1, none⟩ = some (.slice (some ⟨rb, 0, none⟩) N cap)) := fun o => ((al (Below.refl _ _).drew o).cell hgl).trans hcg1
  have HN : Hid (N = P.length) := hN
  have HK0 : Hid (K0 = P[p'].length) := hK0
  have HI1E : Hid (i1 = i' + 1) := hi1
  have HLL : Hid (LL = (cutL P[p'] i').length) := hLL
  have HLB : Hid (LL + 1 = K0) := (show LL + 1 = K0 by rw [hLL, hK0]; exact cutL_len hi)
  have HE1 : Hid _ := e1
  clear hcut hr hN hK0 hi1 hLL e1 hB hg hn1 hm r hnc
  go_wp2_with fail
  refine wp_region_noPanic ?_
  refine wp_region_held_drew (S := (fun u => u.cell? ⟨g, 1, none⟩ = some (.slice (some ⟨rb, 0, none⟩) N cap))) (by kernel_rfl) (by first | exact hcg1 | assumption | exact HS3.out _) (fun hHeld => ?_)
  refine take_at (i := 0) 27 (v := ?_) rfl rfl (by kernel_rfl) (by kernel_rfl) (by kernel_rfl) (fun _ _ _ h => h) (by rfl) ?_ hHeld ?_
  rotate_left
  · (intro w hSw; (try dsimp only at hSw); go_simp; try with_reducible rfl)
  simp only [Act.put, List.setIfInBounds_toArray, List.set_cons_zero, List.set_cons_succ]
  refine take_at (i := 1) 28 (v := ?_) rfl rfl (by kernel_rfl) (by kernel_rfl) (by kernel_rfl) (fun _ _ _ h => h) (by rfl) ?_ hHeld ?_
  rotate_left
  · (intro w hSw; (try dsimp only at hSw); go_simp; try with_reducible rfl)
  simp only [Act.put, List.setIfInBounds_toArray, List.set_cons_zero, List.set_cons_succ]
  refine take_at (i := 2) 29 (v := ?_) rfl rfl (by kernel_rfl) (by kernel_rfl) (by kernel_rfl) (fun _ _ _ h => h) (by rfl) ?_ hHeld ?_
  rotate_left
  · (intro w hSw; (try dsimp only at hSw); go_simp; try with_reducible rfl)
  simp only [Act.put, List.setIfInBounds_toArray, List.set_cons_zero, List.set_cons_succ]
  refine take_at (i := 3) 30 (v := ?_) rfl rfl (by kernel_rfl) (by kernel_rfl) (by kernel_rfl) (fun _ _ _ h => h) (by rfl) ?_ hHeld ?_
  rotate_left
  · (intro w hSw; (try dsimp only at hSw); go_simp; try with_reducible rfl)
  simp only [Act.put, List.setIfInBounds_toArray, List.set_cons_zero, List.set_cons_succ]
  refine take_at (i := 4) 31 (v := ?_) rfl rfl (by kernel_rfl) (by kernel_rfl) (by kernel_rfl) (fun _ _ _ h => h) (by rfl) ?_ hHeld ?_
  rotate_left
  · (intro w hSw; (try dsimp only at hSw); go_simp; try with_reducible rfl)
  simp only [Act.put, List.setIfInBounds_toArray, List.set_cons_zero, List.set_cons_succ]
  refine take_at (i := 5) 32 (v := ?_) rfl rfl (by kernel_rfl) (by kernel_rfl) (by kernel_rfl) (fun _ _ _ h => h) (by rfl) ?_ hHeld ?_
  rotate_left
  · (intro w hSw; (try dsimp only at hSw); go_simp; try with_reducible rfl)
  simp only [Act.put, List.setIfInBounds_toArray, List.set_cons_zero, List.set_cons_succ]
  refine take_at (i := 6) 33 (v := ?_) rfl rfl (by kernel_rfl) (by kernel_rfl) (by kernel_rfl) (fun _ _ _ h => h) (by rfl) ?_ hHeld ?_
  rotate_left
  · (intro w hSw; (try dsimp only at hSw); go_simp; try with_reducible rfl)
  simp only [Act.put, List.setIfInBounds_toArray, List.set_cons_zero, List.set_cons_succ]
  refine take_at (i := 7) 34 (v := ?_) rfl rfl (by kernel_rfl) (by kernel_rfl) (by kernel_rfl) (fun _ _ _ h => h) (by rfl) ?_ hHeld ?_
  rotate_left
  · (intro w hSw; (try dsimp only at hSw); go_simp; try with_reducible rfl)
  simp only [Act.put, List.setIfInBounds_toArray, List.set_cons_zero, List.set_cons_succ]
  refine take_at (i := 8) 35 (v := ?_) rfl rfl (by kernel_rfl) (by kernel_rfl) (by kernel_rfl) (fun _ _ _ h => h) (by rfl) ?_ hHeld ?_
  rotate_left
  · (intro w hSw; (try dsimp only at hSw); go_simp; try with_reducible rfl)
  simp only [Act.put, List.setIfInBounds_toArray, List.set_cons_zero, List.set_cons_succ]
  refine take_at (i := 9) 36 (v := ?_) rfl rfl (by kernel_rfl) (by kernel_rfl) (by kernel_rfl) (fun _ _ _ h => h) (by rfl) ?_ hHeld ?_
  rotate_left
  · (intro w hSw; (try dsimp only at hSw); go_simp; try with_reducible rfl)
  simp only [Act.put, List.setIfInBounds_toArray, List.set_cons_zero, List.set_cons_succ]
  refine take_at (i := 10) 37 (v := ?_) rfl rfl (by kernel_rfl) (by kernel_rfl) (by kernel_rfl) (fun _ _ _ h => h) (by rfl) ?_ hHeld ?_
  rotate_left
  · (intro w hSw; (try dsimp only at hSw); go_simp; try with_reducible rfl)
  simp only [Act.put, List.setIfInBounds_toArray, List.set_cons_zero, List.set_cons_succ]
  refine take_at (i := 11) 38 (v := (.slice (some A) M CC)) rfl rfl (by kernel_rfl) (by kernel_rfl) (by kernel_rfl) (fun _ _ _ h => h) (by rfl) ?_ hHeld ?_
  · (intro w hSw; rcases HCUT.out with ⟨h1, rfl, rfl, rfl⟩ | ⟨h1, rfl, rfl, rfl⟩ <;> first | (subst h1; go_simp; done) | (go_simp; done) | (subst h1; go_simp; with_reducible rfl) | (go_simp; with_reducible rfl))
  simp only [Act.put, List.setIfInBounds_toArray, List.set_cons_zero, List.set_cons_succ]
  refine run_at (i := 12) rfl (by kernel_rfl) (by rfl) (fun K hK => ?_)
  simp only [List.getElem_toArray, List.getElem_cons_zero, List.getElem_cons_succ]
  go_simp
  go_wp2_with fail
  refine hK.out _ _ (by first | exact hcg1 | assumption | exact HS3.out _) ?_
  clear hK K
  intro hHeld2
  clear hHeld
  have hHeld := hHeld2
  clear hHeld2
  try simp only [Act.put, List.setIfInBounds_toArray, List.set_cons_zero, List.set_cons_succ]
  refine run_at (i := 13) rfl (by kernel_rfl) (by rfl) (fun K hK => ?_)
  simp only [List.getElem_toArray, List.getElem_cons_zero, List.getElem_cons_succ]
  go_simp
  (go_at_call 36; refine Calls.mono (HCA.out _ (by first | exact al (Below.refl _ _).drew _ | exact (al (Below.refl _ _) _).drew) (by exact heap_alloc_new w2 _)) ?_; rintro e w4 ⟨v4, rfl, hown4, hb4⟩; have HB4 : Hid (Below w2.heap.size w2 w4) := (by first | exact below_next (al (Below.refl _ _).drew _) hb4 | exact below_next (al (Below.refl _ _) _).drew hb4); obtain ⟨a5, c5, e5, hc5, hn5, hr5⟩ := OwnE.val hown4; rw [← HLL.out] at e5 hc5; subst e5; have hcg4 : w4.cell? ⟨g, 1, none⟩ = some (.slice (some ⟨rb, 0, none⟩) N cap) := (HB4.out.cell hgl).trans hcg1; have hcp4 : w4.cell? ⟨rb, p', none⟩ = some (.slice (some ⟨b4, o4, none⟩) K0 c) := (HB4.out.cell hrl).trans hcp; have hfp4 : w4.frozen? ⟨rb, p', none⟩ = false := (by obtain ⟨cur4, h9⟩ := (HI2.out.below HB4.out).rowBlk rb rfl; simp [World.frozen?, h9]); obtain ⟨w5, hw5⟩ : ∃ X : World, X = w4.setCell ⟨rb, p', none⟩ (.slice a5 LL c5) := ⟨_, rfl⟩; have h5 := (HI2.out.below HB4.out).setPage rb cap rfl p' hp a5 c5 (cutL P[p'] i') hr5 (by rw [← HLL.out]; exact hc5) hn5; rw [← HLL.out, ← hw5] at h5; have HI5 : Hid _ := h5.1; have HC5 : Hid _ := h5.2; have hcg5 : w5.cell? ⟨g, 1, none⟩ = some (.slice (some ⟨rb, 0, none⟩) N cap) := (by rw [cell_of_row _ _ _ _ _ _ HI5.out.hd, HN.out]; rfl); have hS5 : (w4.setCell ⟨rb, p', none⟩ (.slice a5 LL c5)).cell? ⟨g, 1, none⟩ = some (.slice (some ⟨rb, 0, none⟩) N cap) := (by rw [← hw5]; exact hcg5); clear hown4 hb4 hc5 hn5 hr5 h5)
  go_wp2_with fail
  refine hK.out _ _ (by first | exact hcg1 | assumption | exact HS3.out _) ?_
  clear hK K
  intro hHeld2
  clear hHeld
  have hHeld := hHeld2
  clear hHeld2
  try simp only [Act.put, List.setIfInBounds_toArray, List.set_cons_zero, List.set_cons_succ]
  refine take_at (i := 14) 41 (v := ?_) rfl rfl (by kernel_rfl) (by kernel_rfl) (by kernel_rfl) (fun _ _ _ h => h) (by rfl) ?_ hHeld ?_
  rotate_left
  · (intro w hSw; (try dsimp only at hSw); go_simp; try with_reducible rfl)
  simp only [Act.put, List.setIfInBounds_toArray, List.set_cons_zero, List.set_cons_succ]
  refine run_at (i := 15) rfl (by kernel_rfl) (by rfl) (fun K hK => ?_)
  simp only [List.getElem_toArray, List.getElem_cons_zero, List.getElem_cons_succ]
  go_simp
  go_wp2_with fail
  refine hK.out _ _ (by first | exact hcg1 | assumption | exact HS3.out _) ?_
  clear hK K
  intro hHeld2
  clear hHeld
  have hHeld := hHeld2
  clear hHeld2
  try simp only [Act.put, List.setIfInBounds_toArray, List.set_cons_zero, List.set_cons_succ]
  refine wpAnyH_done (by kernel_rfl) ?_ _
  refine NoPanic.normal ?_
  rw [← hw5]
  obtain ⟨nv, hnv⟩ : ∃ nv, nv = P[p'][i'].n := ⟨_, rfl⟩
  have HNV : Hid (nv = P[p'][i'].n) := hnv
  have HR5 : Hid (RdE w5 (some ⟨b4, o4, none⟩) P[p']) := ((RdE.below HR.out HB4.out).kept HC5.out (fun b e => (HI2.out.below HB4.out).noF b e))
  have hcp5 : w5.cell? ⟨rb, p', none⟩ = some (.slice a5 LL c5) := by rw [hw5]; exact World.cell?_setCell_same' _ _ _ (by rw [hcp4]; rfl)
  have hval : ∀ u, RdE u (some ⟨b4, o4, none⟩) P[p'] → u.cell? ⟨b4, o4 + i' * 3 + 2, none⟩ = some (.int .u64 (nv : Int)) := fun u hu => by
    obtain ⟨b, o, e9, h9, -⟩ := hu i' hi
    cases e9
    rw [hnv]
    exact h9 2 _ rfl
  have HVAL : Hid _ := hval
  have hb4g : ¬ g = b4 := fun e => by
    obtain ⟨b, o, e9, -, cu, fr, h9⟩ := HR5.out i' hi
    cases e9
    rw [← e, HI5.out.hd] at h9
    injection h9 with h9
    injection h9 with h7 h8
    exact absurd h8 (by decide)
  have hb4g2 : ¬ b4 = g := fun e => hb4g e.symm
  have HL5 : Hid ((P.set p' (cutL P[p'] i')).length = P.length) := List.length_set
  have HLP5 : Hid (∀ q ∈ P.set p' (cutL P[p'] i'), q.length ≤ 100) := fun q hq => by
    rcases List.mem_or_eq_of_mem_set hq with h9 | h9
    · exact hlp q h9
    · rw [h9, ← HLL.out]; have := HLB.out; omega
  have HC25 : Hid (Chg (foot g (.slice (some ⟨rb, 0, none⟩) P.length cap)) w w5) := ((Chg.of_below HB2.out).trans (Chg.of_below (F := foot g (.slice (some ⟨rb, 0, none⟩) P.length cap)) HB4.out) (fun i hi => .inl hi)).trans HC5.out (fun i hi => .inl hi)
  have HI5N : Hid (IdxAt w5 g S (P.set p' (cutL P[p'] i')) (.slice (some ⟨rb, 0, none⟩) P.length cap) (vs.set p' (.slice a5 LL c5))) := HI5.out
  have eP : P.getD p' [] = P[p'] := by simp [List.getD, hp]
  have HREM : Hid (remP S P p' i' = if LL = 0 then repL P p' (p' + 1) [] else if p' + 1 < P.length ∧ LL + (P.getD (p' + 1) []).length ≤ S / 2 then repL P p' (p' + 2) [cutL P[p'] i' ++ P.getD (p' + 1) []] else if 0 < p' ∧ (P.getD (p' - 1) []).length + LL ≤ S / 2 then repL P (p' - 1) (p' + 1) [P.getD (p' - 1) [] ++ cutL P[p'] i'] else repL P p' (p' + 1) [cutL P[p'] i']) := (show _ = _ by unfold remP; rw [eP, ← HLL.out])
  have hgl5 : g < w5.heap.size := (Array.getElem?_eq_some_iff.1 HI5.out.hd).1
  clear hcg4 hcp4 hfp4 hS5 hval hnv hw5 HCA HCUT hcp hcg1 HI5 HB4 HC5 HI2 HR HS3 eP hlp hHeld
  by_cases hL0 : LL = 0
  · subst hL0
    obtain ⟨p1, hp1⟩ : ∃ p1, p1 = p' + 1 := ⟨_, rfl⟩
    have hwp : IntKind.i64.wrap ((p' : Int) + 1) = (p1 : Int) := by rw [IntKind.wrap_i64]; have := HN.out; omega
    have HP1 : Hid (p1 = p' + 1) := hp1
    obtain ⟨M1, hM1⟩ : ∃ M1, M1 + 1 = N := ⟨N - 1, by omega⟩
    have HM1 : Hid (M1 + 1 = N) := hM1
    clear hp1 hM1
    go_wp2_with fail
    refine Calls.mono (delete_t (w := w5) (g := rb) (n := N) (cap := cap) (vs := vs.set p' (.slice a5 0 c5)) (by have h9 := HI5N.out.row; rw [HL5.out] at h9; rw [HN.out]; exact h9) HI5N.out.one p' p1 M1 HP1.out hpNn HM1.out (by rw [HN.out]; exact hPl)) ?_
    rintro e w6 ⟨rfl, hown6, hgr6⟩
    have hd6 : w6.heap[g]? = some (.cells #[.int .i64 (S : Int), .slice (some ⟨rb, 0, none⟩) P.length cap] tIx (0, 0)) := (hgr6.block g hgl5 (fun e => HI5N.out.ne e.symm)).trans HI5N.out.hd
    have hc6 : w6.cell? ⟨g, 1, none⟩ = some (.slice (some ⟨rb, 0, none⟩) N cap) := by rw [cell_of_row _ _ _ _ _ _ hd6, HN.out]; rfl
    have hf6 : w6.frozen? ⟨g, 1, none⟩ = false := by simp [World.frozen?, hd6]
    have hv6 := HVAL.out w6 (HR5.out.kept (Chg.of_grown (F := foot g (.slice (some ⟨rb, 0, none⟩) P.length cap)) hgr6 (fun b e => .inr e)) (fun b e => HI5N.out.noF b e))
    have HO6 : Hid _ := hown6
    have HG6 : Hid _ := hgr6
    clear hown6 hgr6 hd6
    go_wp2
    refine bodyPost_ret (results_tmp2 rfl _ _ _) rfl ?_
    have hln : (repL (P.set p' (cutL P[p'] i')) p' p1 []).length = M1 := by rw [repL_len (by rw [HL5.out]; omega), HL5.out]; have := HN.out; have := HP1.out; have := HM1.out; simp; omega
    have h9 := HI5N.out.repRow HG6.out p' p1 (by rw [HL5.out]; omega) [] [] rfl (fun t q e => by simp at e) (by rw [hln]; exact HO6.out)
    rw [repL_set_in (Nat.le_refl _) (by have := HP1.out; omega)] at h9
    have h8 : ∃ vs9, IdxAt (w6.setCell ⟨g, 1, none⟩ (.slice (some ⟨rb, 0, none⟩) M1 cap)) g S (remP S P p' i') (.slice (some ⟨rb, 0, none⟩) M1 cap) vs9 := by
      have e9 : remP S P p' i' = repL P p' p1 [] := by rw [HREM.out, HP1.out]; first | exact if_pos rfl | exact if_pos trivial
      rw [e9]
      exact ⟨_, h9.1⟩
    obtain ⟨vs9, h8⟩ := h8
    exact ⟨by rw [← HNV.out]; rfl, ⟨_, vs9, h8, rfl⟩, HC25.out.trans h9.2 (fun i hi => .inl hi)⟩
  · have hL0i : ¬ (LL : Int) = 0 := by omega
    have hL0b : ((LL : Int) == 0) = false := by simpa using hL0i
    go_wp2_with fail
    refine Calls.mono (fits_any HI5N.out hS.2 p' (by rw [HL5.out]; exact hp) (by rw [HL5.out]; exact hPl) HLP5.out) ?_
    rintro e w6 ⟨b1, rfl, hb1, hb6⟩
    have HB1 : Hid (b1 = true ↔ p' + 1 < P.length ∧ LL + (P.getD (p' + 1) []).length ≤ S / 2) := (show _ ↔ _ by rw [hb1, HL5.out, getD_set_same hp, getD_set_ne (by omega), ← HLL.out])
    have HI6 : Hid (IdxAt w6 g S (P.set p' (cutL P[p'] i')) (.slice (some ⟨rb, 0, none⟩) P.length cap) (vs.set p' (.slice a5 LL c5))) := HI5N.out.below hb6
    have HR6 : Hid (RdE w6 (some ⟨b4, o4, none⟩) P[p']) := RdE.below HR5.out hb6
    have HC6 : Hid (Chg (foot g (.slice (some ⟨rb, 0, none⟩) P.length cap)) w w6) := HC25.out.trans (Chg.of_below (F := foot g (.slice (some ⟨rb, 0, none⟩) P.length cap)) hb6) (fun i hi => .inl hi)
    clear hb1 hb6
    cases b1
    case true =>
      go_wp2_with fail
      refine Calls.mono (joinNext_t HI6.out p' (p' + 1) (p' + 2) rfl rfl (by rw [HL5.out]; exact (HB1.out.1 (by first | rfl | trivial)).1) (by rw [HL5.out]; exact hPl) HLP5.out) ?_
      rintro e w7 ⟨rfl, ⟨v7, vs7, hi7, ho7⟩, hch7⟩
      have hv7 := HVAL.out w7 (RdE.kept HR6.out hch7 (fun b e => HI6.out.noF b e))
      have HI7 : Hid _ := hi7
      have HO7 : Hid _ := ho7
      have HC7 : Hid _ := hch7
      clear hi7 hch7 ho7
      go_wp2
      refine bodyPost_ret (results_tmp2 rfl _ _ _) rfl ?_
      refine ⟨by rw [← HNV.out]; rfl, ⟨v7, vs7, ?_, HO7.out⟩, HC6.out.trans HC7.out (fun i hi => .inl hi)⟩
      have h9 := HI7.out
      rw [repL_set_in (Nat.le_refl _) (by omega), getD_set_same hp, getD_set_ne (by omega)] at h9
      rw [HREM.out, if_neg hL0, if_pos (HB1.out.1 (by first | rfl | trivial))]
      exact h9
    case false =>
      have HNB : Hid (¬ (p' + 1 < P.length ∧ LL + (P.getD (p' + 1) []).length ≤ S / 2)) := fun h9 => by have := HB1.out.2 h9; cases this
      by_cases hp00 : p' = 0
      · subst hp00
        go_wp2_with fail
        refine Calls.mono (fits_neg HI6.out) ?_
        rintro e w7 ⟨rfl, hb7⟩
        have hv7 := HVAL.out w7 (RdE.below HR6.out hb7)
        have HB7 : Hid _ := hb7
        clear hb7
        go_wp2
        refine bodyPost_ret (results_tmp2 rfl _ _ _) rfl ?_
        refine ⟨by rw [← HNV.out]; rfl, ⟨.slice (some ⟨rb, 0, none⟩) P.length cap, vs.set 0 (.slice a5 LL c5), ?_, rfl⟩, HC6.out.trans (Chg.of_below (F := foot g (.slice (some ⟨rb, 0, none⟩) P.length cap)) HB7.out) (fun i hi => .inl hi)⟩
        rw [HREM.out, if_neg hL0, if_neg HNB.out, if_neg (fun h9 => absurd h9.1 (Nat.lt_irrefl _)), ← repL_set hp]
        exact HI6.out.below HB7.out
      · obtain ⟨p0, hp0e⟩ : ∃ p0, p0 + 1 = p' := ⟨p' - 1, by omega⟩
        have hwq : IntKind.i64.wrap ((p' : Int) - 1) = (p0 : Int) := by rw [IntKind.wrap_i64]; have := HN.out; omega
        have HP0 : Hid (p0 + 1 = p') := hp0e
        clear hp0e
        go_wp2_with fail
        refine Calls.mono (fits_any HI6.out hS.2 p0 (by rw [HL5.out]; have := HP0.out; omega) (by rw [HL5.out]; exact hPl) HLP5.out) ?_
        rintro e w7 ⟨b2, rfl, hb2, hb7⟩
        have HB2 : Hid (b2 = true ↔ (P.getD p0 []).length + LL ≤ S / 2) := (show _ ↔ _ by
          have hh := HP0.out
          rw [hb2, HL5.out, hh, getD_set_same hp, getD_set_ne (by omega), ← HLL.out]
          exact ⟨fun h9 => h9.2, fun h9 => ⟨hp, h9⟩⟩)
        have HI7 : Hid (IdxAt w7 g S (P.set p' (cutL P[p'] i')) (.slice (some ⟨rb, 0, none⟩) P.length cap) (vs.set p' (.slice a5 LL c5))) := HI6.out.below hb7
        have HR7 : Hid (RdE w7 (some ⟨b4, o4, none⟩) P[p']) := RdE.below HR6.out hb7
        have HC7 : Hid (Chg (foot g (.slice (some ⟨rb, 0, none⟩) P.length cap)) w w7) := HC6.out.trans (Chg.of_below (F := foot g (.slice (some ⟨rb, 0, none⟩) P.length cap)) hb7) (fun i hi => .inl hi)
        clear hb2 hb7
        cases b2
        case true =>
          go_wp2_with fail
          refine Calls.mono (joinNext_t HI7.out p0 (p0 + 1) (p0 + 2) rfl rfl (by rw [HL5.out, HP0.out]; exact hp) (by rw [HL5.out]; exact hPl) HLP5.out) ?_
          rintro e w8 ⟨rfl, ⟨v8, vs8, hi8, ho8⟩, hch8⟩
          have hv8 := HVAL.out w8 (RdE.kept HR7.out hch8 (fun b e => HI7.out.noF b e))
          have HI8 : Hid _ := hi8
          have HO8 : Hid _ := ho8
          have HC8 : Hid _ := hch8
          clear hi8 hch8 ho8
          go_wp2
          refine bodyPost_ret (results_tmp2 rfl _ _ _) rfl ?_
          refine ⟨by rw [← HNV.out]; rfl, ⟨v8, vs8, ?_, HO8.out⟩, HC7.out.trans HC8.out (fun i hi => .inl hi)⟩
          have h9 := HI8.out
          have hh := HP0.out
          rw [repL_set_in (by omega) (by omega), hh, getD_set_same hp, getD_set_ne (by omega), show p0 + 2 = p' + 1 by omega] at h9
          rw [HREM.out, if_neg hL0, if_neg HNB.out, show p' - 1 = p0 by omega, if_pos ⟨by omega, HB2.out.1 (by first | rfl | trivial)⟩]
          exact h9
        case false =>
          have hv7 := HVAL.out w7 HR7.out
          go_wp2
          refine bodyPost_ret (results_tmp2 rfl _ _ _) rfl ?_
          refine ⟨by rw [← HNV.out]; rfl, ⟨.slice (some ⟨rb, 0, none⟩) P.length cap, vs.set p' (.slice a5 LL c5), ?_, rfl⟩, HC7.out⟩
          have hh := HP0.out
          rw [HREM.out, if_neg hL0, if_neg HNB.out, show p' - 1 = p0 by omega, if_neg (fun h9 => by have := HB2.out.2 h9.2; cases this), ← repL_set hp]
          exact HI7.out
/-- Remove, whatever the index has -/
theorem remove_t (h : IdxAt w g S P v vs) (ht : Tid S P) (hS : 1 ≤ S ∧ S ≤ 64) (hPl : P.length ≤ 4398046511104) (s1 s2 : Nat) :
    Calls Try.prog 15 #[.pointer (some ⟨g, 0, none⟩), sv (s1, s2)] w fun e w' => ∃ p i ok n v' vs', PlaceIs P (s1, s2) p i ok ∧ e = .returned (.tuple #[.int .u64 (n : Int), .bool ok]) ∧ (ok = false → n = 0) ∧ (ok = true → ∃ h : i < (P.getD p []).length, n = (P.getD p [])[i].n) ∧ IdxAt w' g S (if ok then remP S P p i else P) v' vs' ∧ v'.ownBlock = v.ownBlock ∧ Chg (foot g v) w w' := by
  obtain ⟨hsp, hsz⟩ := ht
  obtain ⟨p, i, ok, hpl⟩ := place_ex hsp (s1, s2)
  have hlp : ∀ q ∈ P, q.length ≤ 100 := fun q hq => by have := hsz q hq; omega
  cases ok
  · refine (remove_no h hsp hPl hlp s1 s2 p i hpl).mono ?_
    rintro e w' ⟨rfl, hb⟩
    exact ⟨p, i, false, 0, v, vs, hpl, rfl, fun _ => rfl, (fun h9 => by cases h9), h.below hb, rfl, Chg.of_below hb⟩
  · have hne : P ≠ [] := fun e => by have := hpl.nil e; simp at this
    have hp := hpl.lt hne
    obtain ⟨h1, h2, -⟩ := hpl.cut hsp hp
    have hi := h2 rfl
    have eP : P.getD p [] = P[p] := by simp [List.getD, hp]
    refine (remove_in h hsp hS hPl hlp s1 s2 p i (i + 1) hpl hp hi rfl).mono ?_
    rintro e w' ⟨rfl, ⟨v', vs', h3, h4⟩, h5⟩
    exact ⟨p, i, true, _, v', vs', hpl, rfl, (fun h9 => by cases h9), fun _ => ⟨by rw [eP]; exact hi, by simp only [eP]⟩, h3, h4, h5⟩
end
end Go.Proofs.Ytibolgpaolnheaa
