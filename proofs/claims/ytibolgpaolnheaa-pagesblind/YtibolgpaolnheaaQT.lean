import Derived.Test.YtibolgpaolnheaaQR
namespace Go.Proofs.Ytibolgpaolnheaa
set_option linter.unusedVariables false
set_option linter.unusedSimpArgs false
open Go.RowKit
theorem RdE.take {w : World} {a : Option Addr} {xs : List Ent} (h : RdE w a xs) (k : Nat) : RdE w a (xs.take k) := fun j hj => by
  have h1 : j < xs.length := by have := hj; rw [List.length_take] at this; omega
  obtain ⟨b, o, h2, h3, h4⟩ := h j h1
  exact ⟨b, o, h2, by rw [List.getElem_take]; exact h3, h4⟩
theorem RdE.drop {w : World} {b o : Nat} {xs : List Ent} (h : RdE w (some ⟨b, o, none⟩) xs) (k : Nat) : RdE w (some ⟨b, o + k * 3, none⟩) (xs.drop k) := fun j hj => by
  have h1 : k + j < xs.length := by have := hj; rw [List.length_drop] at this; omega
  obtain ⟨b', o', h2, h3, h4⟩ := h (k + j) h1
  cases h2
  refine ⟨b, o + k * 3, rfl, ?_, h4⟩
  rw [List.getElem_drop, show o + k * 3 + j * 3 = o + (k + j) * 3 by omega]
  exact h3
/-- a page with an entry more, or with another one in the place of its own -/
def putL (xs : List Ent) (i : Nat) (ok : Bool) (e : Ent) : List Ent := xs.take i ++ [e] ++ xs.drop (if ok then i + 1 else i)
abbrev mkE (s : St) (n : Nat) : Ent := ⟨s, n⟩
theorem rdE_one {w : World} {N : Nat} (s1 s2 n : Nat) (h : w.heap[N]? = some (.cells #[.int .u64 (s1 : Int), .int .u64 (s2 : Int), .int .u64 (n : Int)] tEn (0, 0))) : RdE w (some ⟨N, 0, none⟩) [mkE (s1, s2) n] := fun j hj => by
  have : j = 0 := by simpa using hj
  subst this
  exact ⟨N, 0, rfl, by rw [Nat.zero_mul, Nat.add_zero]; exact box_range h, _, _, h⟩
section
set_option maxRecDepth 20000
variable {w w' : World} {g S : Nat} {P : List (List Ent)} {v : Value} {vs : List Value}
set_option maxHeartbeats 3200000 in
theorem put_in (h : IdxAt w g S P v vs) (hsp : SP P) (hS : 1 ≤ S ∧ S ≤ 64) (hPl : P.length ≤ 4398046511104) (hlp : ∀ p ∈ P, p.length ≤ 100) (s1 s2 n : Nat) (p i : Nat) (ok : Bool) (hpl : PlaceIs P (s1, s2) p i ok) (hp : p < P.length) (hfit : (putL P[p] i ok (mkE (s1, s2) n)).length ≤ S) :
    Calls Try.prog 13 #[.pointer (some ⟨g, 0, none⟩), sv (s1, s2), .int .u64 (n : Int)] w fun e w' => e = .returned (.bool (!ok)) ∧ (∃ vs', IdxAt w' g S (P.set p (putL P[p] i ok (mkE (s1, s2) n))) v vs') ∧ Chg (foot g v) w w' := by
  obtain ⟨w1, hw1⟩ : ∃ X : World, X = w.alloc (.cells #[.int .u64 (s1 : Int), .int .u64 (s2 : Int)] tSt) := ⟨_, rfl⟩
  have hb1 : Below w.heap.size w w1 := by rw [hw1]; exact al (Below.refl _ _) _
  have h1 := h.below hb1
  have HI1 : Hid (IdxAt w1 g S P v vs) := h1
  obtain ⟨pa, cap, hv, hcap, hnil, hrd, hpg⟩ := h1.rd
  have HPL : Hid _ := place_t (.pointer (some ⟨g, 0, none⟩)) pa P.length cap P (s1, s2) w1 hpg rfl hrd hsp hPl hlp
  have hcg0 : w.cell? ⟨g, 0, none⟩ = some (.int .i64 (S : Int)) := by rw [cell_of_row _ _ _ _ _ _ h.hd]; rfl
  have hgl : g < w.heap.size := (Array.getElem?_eq_some_iff.1 h.hd).1
  have hl3 : w1.rangeAt w.heap.size 0 (sc (s1, s2)) := by rw [hw1]; exact box_range (heap_alloc_new w _)
  have hSi : ¬ (S : Int) = 0 := by omega
  have hSb : ((S : Int) == 0) = false := by simpa using hSi
  have HB1 : Hid (Below w.heap.size w w1) := hb1
  have HP : Hid (PlaceIs P (s1, s2) p i ok) := hpl
  clear h1 hb1 hrd hpg hcap hnil h hpl
  go_enter Try.func13, Try.ntmps13
  go_wp2_with fail
  rw [← hw1]
  refine Calls.mono HPL.out ?_
  rintro e w2 ⟨p', i', ok', rfl, hpl', hb2⟩
  obtain ⟨e1, e2, e3⟩ := hpl'.uniq HP.out
  subst e1 e2 e3
  have HI2 : Hid (IdxAt w2 g S P v vs) := HI1.out.below hb2
  have HB2 : Hid (Below w.heap.size w w2) := below_next HB1.out hb2
  have hl4 : w2.rangeAt w.heap.size 0 (sc (s1, s2)) := rangeAt_below hl3 hb2
  obtain ⟨pa, cap, hv, hcap, hnil, hrd, -⟩ := HI2.out.rd
  obtain ⟨b, o, rfl, a, c, hcp, hkc, hnc, hr⟩ := hrd p' hp
  have hcg1 : w2.cell? ⟨g, 1, none⟩ = some v := by rw [cell_of_row _ _ _ _ _ _ HI2.out.hd]; rfl
  obtain ⟨NP, hNP⟩ : ∃ N, N = P.length := ⟨_, rfl⟩
  rw [hv, ← hNP] at hcg1
  obtain ⟨K0, hK0⟩ : ∃ N, N = P[p'].length := ⟨_, rfl⟩
  rw [← hK0] at hcp hkc
  have hgl2 : g < w2.heap.size := (Array.getElem?_eq_some_iff.1 HI2.out.hd).1
  have hbl2 : b < w2.heap.size := World.block_lt_of_cell? w2 _ hcp
  have hwl2 : w.heap.size < w2.heap.size := World.block_lt_of_cell? w2 _ (by have h9 := hl4 0 _ rfl; exact h9)
  have hN0 : ¬ (NP : Int) = 0 := by omega
  have hNb : ((NP : Int) == 0) = false := by simpa using hN0
  have hpi : (p' : Int) < (NP : Int) := by omega
  have hp0 : (0 : Int) ≤ (p' : Int) := by omega
  have hpN : p' < NP := by omega
  have hiK : i' ≤ K0 ∧ (ok' = true → i' < K0) := by
    rcases HP.out with ⟨h1, -⟩ | ⟨r, h1, h2, h3, h4, h5⟩
    · rw [h1] at hp; exact absurd hp (Nat.not_lt_zero _)
    · have eP : P.getD p' [] = P[p'] := by simp [List.getD, hp]
      rw [eP] at h4 h5
      exact ⟨by rw [hK0]; exact h4.1, fun h9 => by obtain ⟨h8, -⟩ := h5.1 h9; omega⟩
  have hK1 : K0 ≤ 100 := by rw [hK0]; exact hlp _ (List.getElem_mem hp)
  obtain ⟨w3, hw3⟩ : ∃ X : World, X = w2.alloc (.cells #[.int .u64 (s1 : Int), .int .u64 (s2 : Int), .int .u64 (n : Int)] tEn) := ⟨_, rfl⟩
  have hb3 : Below w2.heap.size w2 w3 := by rw [hw3]; exact al (Below.refl _ _) _
  have HE3 : Hid (RdE w3 (some ⟨w2.heap.size, 0, none⟩) [mkE (s1, s2) n]) := rdE_one s1 s2 n (by rw [hw3]; exact heap_alloc_new w2 _)
  have HR3 : Hid (RdE w3 a P[p']) := hr.below hb3
  have HI3 : Hid (IdxAt w3 g S P v vs) := HI2.out.below hb3
  have HB3 : Hid (Below w.heap.size w w3) := below_next HB2.out hb3
  have HK0 : Hid (K0 = P[p'].length) := hK0
  have HV : Hid _ := hv
  obtain ⟨b4, o4, ha⟩ : ∃ b4 o4, a = some ⟨b4, o4, none⟩ := by
    have h9 : 0 < P[p'].length := hsp.1 _ (List.getElem_mem hp)
    obtain ⟨b4, o4, h8, -⟩ := hr 0 h9
    exact ⟨b4, o4, h8⟩
  subst ha
  clear hb2 hb3 hr hrd hnil hcap hl3 hK0 hNP hv hpl' HPL HI1 HB1 hw1
  cases ok'
  case false =>
    skip
    have hbK : i' ≤ K0 := by rcases hiK with ⟨h1, h2⟩; first | (have := h2 rfl; omega) | omega
    skip
    have hi1 : i' ≤ K0 := hiK.1
    have hic : i' ≤ c := by omega
    have hbc : i' ≤ c := by omega
    have hi0i : (0 : Int) ≤ (i' : Int) := by omega
    have hb0i : (0 : Int) ≤ (i' : Int) := by omega
    have hiKi : (i' : Int) ≤ (K0 : Int) := by omega
    have hbKi : (i' : Int) ≤ (K0 : Int) := by omega
    have HBH : Hid (i' = i') := rfl
    clear hiK
    by_cases hbc2 : c = i'
    · subst hbc2
      have HCA : Hid (∀ u, Below w3.heap.size w3 u → u.heap[w3.heap.size]? = some (.cells #[.slice (some ⟨b4, o4, none⟩) c c, .slice (some ⟨w2.heap.size, 0, none⟩) 1 1, .slice (some ⟨b4, o4, none⟩) 0 0] tPg (0, 0)) → Calls Try.prog 36 #[.slice (some ⟨w3.heap.size, 0, none⟩) 3 3] u fun e u' => ∃ v', e = .returned v' ∧ OwnE u' u.heap.size v' (putL P[p'] c false (mkE (s1, s2) n)) ∧ Below u.heap.size u u') := fun u hu hh => by
        have h9 := concatE_t w3.heap.size 0 3 [⟨some ⟨b4, o4, none⟩, c, P[p'].take c⟩, ⟨some ⟨w2.heap.size, 0, none⟩, 1, [mkE (s1, s2) n]⟩, ⟨some ⟨b4, o4, none⟩, 0, P[p'].drop c⟩] u (by simp) (fun j hj => by
          match j, hj with
          | 0, _ => exact ⟨by rw [cell_of_row _ _ _ _ _ _ hh]; simp [PartE.v, List.length_take]; rw [← HK0.out]; omega, (HR3.out.below hu).take _, fun h => by cases h⟩
          | 1, _ => exact ⟨by rw [cell_of_row _ _ _ _ _ _ hh]; rfl, HE3.out.below hu, fun h => by cases h⟩
          | 2, _ => exact ⟨by rw [cell_of_row _ _ _ _ _ _ hh]; simp [PartE.v, List.length_drop]; have := HK0.out; omega, by have e8 : P[p'].drop c = [] := List.drop_eq_nil_of_le (by have := HK0.out; omega); rw [e8]; exact fun j hj => absurd hj (Nat.not_lt_zero _), fun h => by cases h⟩) (by have := HK0.out; simp [catE, List.length_take, List.length_drop]; omega)
        have e9 : catE [⟨some ⟨b4, o4, none⟩, c, P[p'].take c⟩, ⟨some ⟨w2.heap.size, 0, none⟩, 1, [mkE (s1, s2) n]⟩, ⟨some ⟨b4, o4, none⟩, 0, P[p'].drop c⟩] = putL P[p'] c false (mkE (s1, s2) n) := by rw [HBH.out]; simp [catE, putL]
        rw [e9] at h9
        exact h9
      go_wp2_with (first | (refine wpList_load_mid rfl tSt _ rfl w.heap.size 0 rfl (sc (s1, s2)) _ hl4 Try.underlying34 rfl info_st ?_))
      rw [← hw3]
      obtain ⟨L, hL⟩ : ∃ L, L = (putL P[p'] c false (mkE (s1, s2) n)).length := ⟨_, rfl⟩
      have HL : Hid _ := hL
      have HFI : Hid (L ≤ S) := by rw [hL]; exact hfit
      clear hL hw3
      refine wp_region_noPanic ?_
      refine wp_region_held_drew (S := (fun _ => True)) (by kernel_rfl) (by exact trivial) (fun hHeld => ?_)
      refine take_at (i := 0) 60 (v := ?_) rfl rfl (by kernel_rfl) (by kernel_rfl) (by kernel_rfl) (fun _ _ _ h => h) (by rfl) ?_ hHeld ?_
      rotate_left
      · (intro w hSw; (try dsimp only at hSw); go_simp; try with_reducible rfl)
      simp only [Act.put, List.setIfInBounds_toArray, List.set_cons_zero, List.set_cons_succ]
      refine take_at (i := 1) 61 (v := ?_) rfl rfl (by kernel_rfl) (by kernel_rfl) (by kernel_rfl) (fun _ _ _ h => h) (by rfl) ?_ hHeld ?_
      rotate_left
      · (intro w hSw; (try dsimp only at hSw); go_simp; try with_reducible rfl)
      simp only [Act.put, List.setIfInBounds_toArray, List.set_cons_zero, List.set_cons_succ]
      refine take_at (i := 2) 62 (v := ?_) rfl rfl (by kernel_rfl) (by kernel_rfl) (by kernel_rfl) (fun _ _ _ h => h) (by rfl) ?_ hHeld ?_
      rotate_left
      · (intro w hSw; (try dsimp only at hSw); go_simp; try with_reducible rfl)
      simp only [Act.put, List.setIfInBounds_toArray, List.set_cons_zero, List.set_cons_succ]
      refine take_at (i := 3) 63 (v := ?_) rfl rfl (by kernel_rfl) (by kernel_rfl) (by kernel_rfl) (fun _ _ _ h => h) (by rfl) ?_ hHeld ?_
      rotate_left
      · (intro w hSw; (try dsimp only at hSw); go_simp; try with_reducible rfl)
      simp only [Act.put, List.setIfInBounds_toArray, List.set_cons_zero, List.set_cons_succ]
      refine take_at (i := 4) 64 (v := ?_) rfl rfl (by kernel_rfl) (by kernel_rfl) (by kernel_rfl) (fun _ _ _ h => h) (by rfl) ?_ hHeld ?_
      rotate_left
      · (intro w hSw; (try dsimp only at hSw); go_simp; try with_reducible rfl)
      simp only [Act.put, List.setIfInBounds_toArray, List.set_cons_zero, List.set_cons_succ]
      refine take_at (i := 5) 65 (v := ?_) rfl rfl (by kernel_rfl) (by kernel_rfl) (by kernel_rfl) (fun _ _ _ h => h) (by rfl) ?_ hHeld ?_
      rotate_left
      · (intro w hSw; (try dsimp only at hSw); go_simp; try with_reducible rfl)
      simp only [Act.put, List.setIfInBounds_toArray, List.set_cons_zero, List.set_cons_succ]
      refine take_at (i := 6) 66 (v := ?_) rfl rfl (by kernel_rfl) (by kernel_rfl) (by kernel_rfl) (fun _ _ _ h => h) (by rfl) ?_ hHeld ?_
      rotate_left
      · (intro w hSw; (try dsimp only at hSw); go_simp; try with_reducible rfl)
      simp only [Act.put, List.setIfInBounds_toArray, List.set_cons_zero, List.set_cons_succ]
      refine take_at (i := 7) 67 (v := ?_) rfl rfl (by kernel_rfl) (by kernel_rfl) (by kernel_rfl) (fun _ _ _ h => h) (by rfl) ?_ hHeld ?_
      rotate_left
      · (intro w hSw; (try dsimp only at hSw); go_simp; try with_reducible rfl)
      simp only [Act.put, List.setIfInBounds_toArray, List.set_cons_zero, List.set_cons_succ]
      refine take_at (i := 8) 68 (v := ?_) rfl rfl (by kernel_rfl) (by kernel_rfl) (by kernel_rfl) (fun _ _ _ h => h) (by rfl) ?_ hHeld ?_
      rotate_left
      · (intro w hSw; (try dsimp only at hSw); go_simp; try with_reducible rfl)
      simp only [Act.put, List.setIfInBounds_toArray, List.set_cons_zero, List.set_cons_succ]
      refine run_at (i := 9) rfl (by kernel_rfl) (by rfl) (fun K hK => ?_)
      simp only [List.getElem_toArray, List.getElem_cons_zero, List.getElem_cons_succ]
      go_simp
      go_wp2_with fail
      refine hK.out _ _ (by exact trivial) ?_
      clear hK K
      intro hHeld2
      clear hHeld
      have hHeld := hHeld2
      clear hHeld2
      try simp only [Act.put, List.setIfInBounds_toArray, List.set_cons_zero, List.set_cons_succ]
      refine run_at (i := 10) rfl (by kernel_rfl) (by rfl) (fun K hK => ?_)
      simp only [List.getElem_toArray, List.getElem_cons_zero, List.getElem_cons_succ]
      go_simp
      first | (go_at_call 35; refine Calls.mono HRE.out ?_; rintro e w5 ⟨rfl, hix, hch⟩; have HIX : Hid _ := hix; have HCH : Hid _ := hch; clear hix hch) | (go_at_call 36; refine Calls.mono (HCA.out _ (by first | exact al (Below.refl _ _).drew _ | exact (al (Below.refl _ _) _).drew) (by exact heap_alloc_new w3 _)) ?_; rintro e w4 ⟨v4, rfl, hown4, hb4⟩; have HB4 : Hid (Below w3.heap.size w3 w4) := (by first | exact below_next (al (Below.refl _ _).drew _) hb4 | exact below_next (al (Below.refl _ _) _).drew hb4); obtain ⟨a4, c4, e4, hc4, hn4, hr4⟩ := OwnE.val hown4; rw [← HL.out] at e4 hc4; subst e4; have HRE : Hid _ := replace_s (HI3.out.below HB4.out) p' hp a4 L c4 _ HL.out hr4 hc4 hn4 HFI.out hS.2; clear hown4 hb4 hc4 hn4 hr4)
      go_wp2_with fail
      refine hK.out _ _ (by exact trivial) ?_
      clear hK K
      intro hHeld2
      clear hHeld
      have hHeld := hHeld2
      clear hHeld2
      try simp only [Act.put, List.setIfInBounds_toArray, List.set_cons_zero, List.set_cons_succ]
      refine run_at (i := 11) rfl (by kernel_rfl) (by rfl) (fun K hK => ?_)
      simp only [List.getElem_toArray, List.getElem_cons_zero, List.getElem_cons_succ]
      go_simp
      first | (go_at_call 35; refine Calls.mono HRE.out ?_; rintro e w5 ⟨rfl, hix, hch⟩; have HIX : Hid _ := hix; have HCH : Hid _ := hch; clear hix hch) | (go_at_call 36; refine Calls.mono (HCA.out _ (by first | exact al (Below.refl _ _).drew _ | exact (al (Below.refl _ _) _).drew) (by exact heap_alloc_new w3 _)) ?_; rintro e w4 ⟨v4, rfl, hown4, hb4⟩; have HB4 : Hid (Below w3.heap.size w3 w4) := (by first | exact below_next (al (Below.refl _ _).drew _) hb4 | exact below_next (al (Below.refl _ _) _).drew hb4); obtain ⟨a4, c4, e4, hc4, hn4, hr4⟩ := OwnE.val hown4; rw [← HL.out] at e4 hc4; subst e4; have HRE : Hid _ := replace_s (HI3.out.below HB4.out) p' hp a4 L c4 _ HL.out hr4 hc4 hn4 HFI.out hS.2; clear hown4 hb4 hc4 hn4 hr4)
      go_wp2_with fail
      refine hK.out _ _ (by exact trivial) ?_
      clear hK K
      intro hHeld2
      clear hHeld
      have hHeld := hHeld2
      clear hHeld2
      try simp only [Act.put, List.setIfInBounds_toArray, List.set_cons_zero, List.set_cons_succ]
      refine wpAnyH_done (by kernel_rfl) ?_ _
      refine NoPanic.normal ?_
      go_wp2
      go_ret
      exact ⟨rfl, HIX.out, ((Chg.of_below HB3.out).trans (Chg.of_below (F := foot g v) HB4.out) (fun i hi => .inl hi)).trans HCH.out (fun i hi => .inl hi)⟩
    · have HCA : Hid (∀ u, Below w3.heap.size w3 u → u.heap[w3.heap.size]? = some (.cells #[.slice (some ⟨b4, o4, none⟩) i' c, .slice (some ⟨w2.heap.size, 0, none⟩) 1 1, .slice (some ⟨b4, o4 + i' * 3, none⟩) (K0 - i') (c - i')] tPg (0, 0)) → Calls Try.prog 36 #[.slice (some ⟨w3.heap.size, 0, none⟩) 3 3] u fun e u' => ∃ v', e = .returned v' ∧ OwnE u' u.heap.size v' (putL P[p'] i' false (mkE (s1, s2) n)) ∧ Below u.heap.size u u') := fun u hu hh => by
        have h9 := concatE_t w3.heap.size 0 3 [⟨some ⟨b4, o4, none⟩, c, P[p'].take i'⟩, ⟨some ⟨w2.heap.size, 0, none⟩, 1, [mkE (s1, s2) n]⟩, ⟨some ⟨b4, o4 + i' * 3, none⟩, (c - i'), P[p'].drop i'⟩] u (by simp) (fun j hj => by
          match j, hj with
          | 0, _ => exact ⟨by rw [cell_of_row _ _ _ _ _ _ hh]; simp [PartE.v, List.length_take]; rw [← HK0.out]; omega, (HR3.out.below hu).take _, fun h => by cases h⟩
          | 1, _ => exact ⟨by rw [cell_of_row _ _ _ _ _ _ hh]; rfl, HE3.out.below hu, fun h => by cases h⟩
          | 2, _ => exact ⟨by rw [cell_of_row _ _ _ _ _ _ hh]; simp [PartE.v, List.length_drop, HK0.out], (HR3.out.below hu).drop _, fun h => by cases h⟩) (by have := HK0.out; simp [catE, List.length_take, List.length_drop]; omega)
        have e9 : catE [⟨some ⟨b4, o4, none⟩, c, P[p'].take i'⟩, ⟨some ⟨w2.heap.size, 0, none⟩, 1, [mkE (s1, s2) n]⟩, ⟨some ⟨b4, o4 + i' * 3, none⟩, (c - i'), P[p'].drop i'⟩] = putL P[p'] i' false (mkE (s1, s2) n) := by rw [HBH.out]; simp [catE, putL]
        rw [e9] at h9
        exact h9
      go_wp2_with (first | (refine wpList_load_mid rfl tSt _ rfl w.heap.size 0 rfl (sc (s1, s2)) _ hl4 Try.underlying34 rfl info_st ?_))
      rw [← hw3]
      obtain ⟨L, hL⟩ : ∃ L, L = (putL P[p'] i' false (mkE (s1, s2) n)).length := ⟨_, rfl⟩
      have HL : Hid _ := hL
      have HFI : Hid (L ≤ S) := by rw [hL]; exact hfit
      clear hL hw3
      refine wp_region_noPanic ?_
      refine wp_region_held_drew (S := (fun _ => True)) (by kernel_rfl) (by exact trivial) (fun hHeld => ?_)
      refine take_at (i := 0) 60 (v := ?_) rfl rfl (by kernel_rfl) (by kernel_rfl) (by kernel_rfl) (fun _ _ _ h => h) (by rfl) ?_ hHeld ?_
      rotate_left
      · (intro w hSw; (try dsimp only at hSw); go_simp; try with_reducible rfl)
      simp only [Act.put, List.setIfInBounds_toArray, List.set_cons_zero, List.set_cons_succ]
      refine take_at (i := 1) 61 (v := ?_) rfl rfl (by kernel_rfl) (by kernel_rfl) (by kernel_rfl) (fun _ _ _ h => h) (by rfl) ?_ hHeld ?_
      rotate_left
      · (intro w hSw; (try dsimp only at hSw); go_simp; try with_reducible rfl)
      simp only [Act.put, List.setIfInBounds_toArray, List.set_cons_zero, List.set_cons_succ]
      refine take_at (i := 2) 62 (v := ?_) rfl rfl (by kernel_rfl) (by kernel_rfl) (by kernel_rfl) (fun _ _ _ h => h) (by rfl) ?_ hHeld ?_
      rotate_left
      · (intro w hSw; (try dsimp only at hSw); go_simp; try with_reducible rfl)
      simp only [Act.put, List.setIfInBounds_toArray, List.set_cons_zero, List.set_cons_succ]
      refine take_at (i := 3) 63 (v := ?_) rfl rfl (by kernel_rfl) (by kernel_rfl) (by kernel_rfl) (fun _ _ _ h => h) (by rfl) ?_ hHeld ?_
      rotate_left
      · (intro w hSw; (try dsimp only at hSw); go_simp; try with_reducible rfl)
      simp only [Act.put, List.setIfInBounds_toArray, List.set_cons_zero, List.set_cons_succ]
      refine take_at (i := 4) 64 (v := ?_) rfl rfl (by kernel_rfl) (by kernel_rfl) (by kernel_rfl) (fun _ _ _ h => h) (by rfl) ?_ hHeld ?_
      rotate_left
      · (intro w hSw; (try dsimp only at hSw); go_simp; try with_reducible rfl)
      simp only [Act.put, List.setIfInBounds_toArray, List.set_cons_zero, List.set_cons_succ]
      refine take_at (i := 5) 65 (v := ?_) rfl rfl (by kernel_rfl) (by kernel_rfl) (by kernel_rfl) (fun _ _ _ h => h) (by rfl) ?_ hHeld ?_
      rotate_left
      · (intro w hSw; (try dsimp only at hSw); go_simp; try with_reducible rfl)
      simp only [Act.put, List.setIfInBounds_toArray, List.set_cons_zero, List.set_cons_succ]
      refine take_at (i := 6) 66 (v := ?_) rfl rfl (by kernel_rfl) (by kernel_rfl) (by kernel_rfl) (fun _ _ _ h => h) (by rfl) ?_ hHeld ?_
      rotate_left
      · (intro w hSw; (try dsimp only at hSw); go_simp; try with_reducible rfl)
      simp only [Act.put, List.setIfInBounds_toArray, List.set_cons_zero, List.set_cons_succ]
      refine take_at (i := 7) 67 (v := ?_) rfl rfl (by kernel_rfl) (by kernel_rfl) (by kernel_rfl) (fun _ _ _ h => h) (by rfl) ?_ hHeld ?_
      rotate_left
      · (intro w hSw; (try dsimp only at hSw); go_simp; try with_reducible rfl)
      simp only [Act.put, List.setIfInBounds_toArray, List.set_cons_zero, List.set_cons_succ]
      refine take_at (i := 8) 68 (v := ?_) rfl rfl (by kernel_rfl) (by kernel_rfl) (by kernel_rfl) (fun _ _ _ h => h) (by rfl) ?_ hHeld ?_
      rotate_left
      · (intro w hSw; (try dsimp only at hSw); go_simp; try with_reducible rfl)
      simp only [Act.put, List.setIfInBounds_toArray, List.set_cons_zero, List.set_cons_succ]
      refine run_at (i := 9) rfl (by kernel_rfl) (by rfl) (fun K hK => ?_)
      simp only [List.getElem_toArray, List.getElem_cons_zero, List.getElem_cons_succ]
      go_simp
      go_wp2_with fail
      refine hK.out _ _ (by exact trivial) ?_
      clear hK K
      intro hHeld2
      clear hHeld
      have hHeld := hHeld2
      clear hHeld2
      try simp only [Act.put, List.setIfInBounds_toArray, List.set_cons_zero, List.set_cons_succ]
      refine run_at (i := 10) rfl (by kernel_rfl) (by rfl) (fun K hK => ?_)
      simp only [List.getElem_toArray, List.getElem_cons_zero, List.getElem_cons_succ]
      go_simp
      first | (go_at_call 35; refine Calls.mono HRE.out ?_; rintro e w5 ⟨rfl, hix, hch⟩; have HIX : Hid _ := hix; have HCH : Hid _ := hch; clear hix hch) | (go_at_call 36; refine Calls.mono (HCA.out _ (by first | exact al (Below.refl _ _).drew _ | exact (al (Below.refl _ _) _).drew) (by exact heap_alloc_new w3 _)) ?_; rintro e w4 ⟨v4, rfl, hown4, hb4⟩; have HB4 : Hid (Below w3.heap.size w3 w4) := (by first | exact below_next (al (Below.refl _ _).drew _) hb4 | exact below_next (al (Below.refl _ _) _).drew hb4); obtain ⟨a4, c4, e4, hc4, hn4, hr4⟩ := OwnE.val hown4; rw [← HL.out] at e4 hc4; subst e4; have HRE : Hid _ := replace_s (HI3.out.below HB4.out) p' hp a4 L c4 _ HL.out hr4 hc4 hn4 HFI.out hS.2; clear hown4 hb4 hc4 hn4 hr4)
      go_wp2_with fail
      refine hK.out _ _ (by exact trivial) ?_
      clear hK K
      intro hHeld2
      clear hHeld
      have hHeld := hHeld2
      clear hHeld2
      try simp only [Act.put, List.setIfInBounds_toArray, List.set_cons_zero, List.set_cons_succ]
      refine run_at (i := 11) rfl (by kernel_rfl) (by rfl) (fun K hK => ?_)
      simp only [List.getElem_toArray, List.getElem_cons_zero, List.getElem_cons_succ]
      go_simp
      first | (go_at_call 35; refine Calls.mono HRE.out ?_; rintro e w5 ⟨rfl, hix, hch⟩; have HIX : Hid _ := hix; have HCH : Hid _ := hch; clear hix hch) | (go_at_call 36; refine Calls.mono (HCA.out _ (by first | exact al (Below.refl _ _).drew _ | exact (al (Below.refl _ _) _).drew) (by exact heap_alloc_new w3 _)) ?_; rintro e w4 ⟨v4, rfl, hown4, hb4⟩; have HB4 : Hid (Below w3.heap.size w3 w4) := (by first | exact below_next (al (Below.refl _ _).drew _) hb4 | exact below_next (al (Below.refl _ _) _).drew hb4); obtain ⟨a4, c4, e4, hc4, hn4, hr4⟩ := OwnE.val hown4; rw [← HL.out] at e4 hc4; subst e4; have HRE : Hid _ := replace_s (HI3.out.below HB4.out) p' hp a4 L c4 _ HL.out hr4 hc4 hn4 HFI.out hS.2; clear hown4 hb4 hc4 hn4 hr4)
      go_wp2_with fail
      refine hK.out _ _ (by exact trivial) ?_
      clear hK K
      intro hHeld2
      clear hHeld
      have hHeld := hHeld2
      clear hHeld2
      try simp only [Act.put, List.setIfInBounds_toArray, List.set_cons_zero, List.set_cons_succ]
      refine wpAnyH_done (by kernel_rfl) ?_ _
      refine NoPanic.normal ?_
      go_wp2
      go_ret
      exact ⟨rfl, HIX.out, ((Chg.of_below HB3.out).trans (Chg.of_below (F := foot g v) HB4.out) (fun i hi => .inl hi)).trans HCH.out (fun i hi => .inl hi)⟩
  case true =>
    obtain ⟨bh, hbh⟩ : ∃ bh : Nat, bh = (i' + 1) := ⟨_, rfl⟩
    have hbK : bh ≤ K0 := by rcases hiK with ⟨h1, h2⟩; first | (have := h2 rfl; omega) | omega
    have hwb : IntKind.i64.wrap ((i' : Int) + 1) = (bh : Int) := by rw [IntKind.wrap_i64]; omega
    have hi1 : i' ≤ K0 := hiK.1
    have hic : i' ≤ c := by omega
    have hbc : bh ≤ c := by omega
    have hi0i : (0 : Int) ≤ (i' : Int) := by omega
    have hb0i : (0 : Int) ≤ (bh : Int) := by omega
    have hiKi : (i' : Int) ≤ (K0 : Int) := by omega
    have hbKi : (bh : Int) ≤ (K0 : Int) := by omega
    have HBH : Hid (bh = (i' + 1)) := hbh
    clear hbh hiK
    by_cases hbc2 : c = bh
    · subst hbc2
      have HCA : Hid (∀ u, Below w3.heap.size w3 u → u.heap[w3.heap.size]? = some (.cells #[.slice (some ⟨b4, o4, none⟩) i' c, .slice (some ⟨w2.heap.size, 0, none⟩) 1 1, .slice (some ⟨b4, o4, none⟩) 0 0] tPg (0, 0)) → Calls Try.prog 36 #[.slice (some ⟨w3.heap.size, 0, none⟩) 3 3] u fun e u' => ∃ v', e = .returned v' ∧ OwnE u' u.heap.size v' (putL P[p'] i' true (mkE (s1, s2) n)) ∧ Below u.heap.size u u') := fun u hu hh => by
        have h9 := concatE_t w3.heap.size 0 3 [⟨some ⟨b4, o4, none⟩, c, P[p'].take i'⟩, ⟨some ⟨w2.heap.size, 0, none⟩, 1, [mkE (s1, s2) n]⟩, ⟨some ⟨b4, o4, none⟩, 0, P[p'].drop c⟩] u (by simp) (fun j hj => by
          match j, hj with
          | 0, _ => exact ⟨by rw [cell_of_row _ _ _ _ _ _ hh]; simp [PartE.v, List.length_take]; rw [← HK0.out]; omega, (HR3.out.below hu).take _, fun h => by cases h⟩
          | 1, _ => exact ⟨by rw [cell_of_row _ _ _ _ _ _ hh]; rfl, HE3.out.below hu, fun h => by cases h⟩
          | 2, _ => exact ⟨by rw [cell_of_row _ _ _ _ _ _ hh]; simp [PartE.v, List.length_drop]; have := HK0.out; omega, by have e8 : P[p'].drop c = [] := List.drop_eq_nil_of_le (by have := HK0.out; omega); rw [e8]; exact fun j hj => absurd hj (Nat.not_lt_zero _), fun h => by cases h⟩) (by have := HK0.out; simp [catE, List.length_take, List.length_drop]; omega)
        have e9 : catE [⟨some ⟨b4, o4, none⟩, c, P[p'].take i'⟩, ⟨some ⟨w2.heap.size, 0, none⟩, 1, [mkE (s1, s2) n]⟩, ⟨some ⟨b4, o4, none⟩, 0, P[p'].drop c⟩] = putL P[p'] i' true (mkE (s1, s2) n) := by rw [HBH.out]; simp [catE, putL]
        rw [e9] at h9
        exact h9
      go_wp2_with (first | (refine wpList_load_mid rfl tSt _ rfl w.heap.size 0 rfl (sc (s1, s2)) _ hl4 Try.underlying34 rfl info_st ?_))
      rw [← hw3]
      obtain ⟨L, hL⟩ : ∃ L, L = (putL P[p'] i' true (mkE (s1, s2) n)).length := ⟨_, rfl⟩
      have HL : Hid _ := hL
      have HFI : Hid (L ≤ S) := by rw [hL]; exact hfit
      clear hL hw3
      refine wp_region_noPanic ?_
      refine wp_region_held_drew (S := (fun _ => True)) (by kernel_rfl) (by exact trivial) (fun hHeld => ?_)
      refine take_at (i := 0) 60 (v := ?_) rfl rfl (by kernel_rfl) (by kernel_rfl) (by kernel_rfl) (fun _ _ _ h => h) (by rfl) ?_ hHeld ?_
      rotate_left
      · (intro w hSw; (try dsimp only at hSw); go_simp; try with_reducible rfl)
      simp only [Act.put, List.setIfInBounds_toArray, List.set_cons_zero, List.set_cons_succ]
      refine take_at (i := 1) 61 (v := ?_) rfl rfl (by kernel_rfl) (by kernel_rfl) (by kernel_rfl) (fun _ _ _ h => h) (by rfl) ?_ hHeld ?_
      rotate_left
      · (intro w hSw; (try dsimp only at hSw); go_simp; try with_reducible rfl)
      simp only [Act.put, List.setIfInBounds_toArray, List.set_cons_zero, List.set_cons_succ]
      refine take_at (i := 2) 62 (v := ?_) rfl rfl (by kernel_rfl) (by kernel_rfl) (by kernel_rfl) (fun _ _ _ h => h) (by rfl) ?_ hHeld ?_
      rotate_left
      · (intro w hSw; (try dsimp only at hSw); go_simp; try with_reducible rfl)
      simp only [Act.put, List.setIfInBounds_toArray, List.set_cons_zero, List.set_cons_succ]
      refine take_at (i := 3) 63 (v := ?_) rfl rfl (by kernel_rfl) (by kernel_rfl) (by kernel_rfl) (fun _ _ _ h => h) (by rfl) ?_ hHeld ?_
      rotate_left
      · (intro w hSw; (try dsimp only at hSw); go_simp; try with_reducible rfl)
      simp only [Act.put, List.setIfInBounds_toArray, List.set_cons_zero, List.set_cons_succ]
      refine take_at (i := 4) 64 (v := ?_) rfl rfl (by kernel_rfl) (by kernel_rfl) (by kernel_rfl) (fun _ _ _ h => h) (by rfl) ?_ hHeld ?_
      rotate_left
      · (intro w hSw; (try dsimp only at hSw); go_simp; try with_reducible rfl)
      simp only [Act.put, List.setIfInBounds_toArray, List.set_cons_zero, List.set_cons_succ]
      refine take_at (i := 5) 65 (v := ?_) rfl rfl (by kernel_rfl) (by kernel_rfl) (by kernel_rfl) (fun _ _ _ h => h) (by rfl) ?_ hHeld ?_
      rotate_left
      · (intro w hSw; (try dsimp only at hSw); go_simp; try with_reducible rfl)
      simp only [Act.put, List.setIfInBounds_toArray, List.set_cons_zero, List.set_cons_succ]
      refine take_at (i := 6) 66 (v := ?_) rfl rfl (by kernel_rfl) (by kernel_rfl) (by kernel_rfl) (fun _ _ _ h => h) (by rfl) ?_ hHeld ?_
      rotate_left
      · (intro w hSw; (try dsimp only at hSw); go_simp; try with_reducible rfl)
      simp only [Act.put, List.setIfInBounds_toArray, List.set_cons_zero, List.set_cons_succ]
      refine take_at (i := 7) 67 (v := ?_) rfl rfl (by kernel_rfl) (by kernel_rfl) (by kernel_rfl) (fun _ _ _ h => h) (by rfl) ?_ hHeld ?_
      rotate_left
      · (intro w hSw; (try dsimp only at hSw); go_simp; try with_reducible rfl)
      simp only [Act.put, List.setIfInBounds_toArray, List.set_cons_zero, List.set_cons_succ]
      refine take_at (i := 8) 68 (v := ?_) rfl rfl (by kernel_rfl) (by kernel_rfl) (by kernel_rfl) (fun _ _ _ h => h) (by rfl) ?_ hHeld ?_
      rotate_left
      · (intro w hSw; (try dsimp only at hSw); go_simp; try with_reducible rfl)
      simp only [Act.put, List.setIfInBounds_toArray, List.set_cons_zero, List.set_cons_succ]
      refine run_at (i := 9) rfl (by kernel_rfl) (by rfl) (fun K hK => ?_)
      simp only [List.getElem_toArray, List.getElem_cons_zero, List.getElem_cons_succ]
      go_simp
      go_wp2_with fail
      refine hK.out _ _ (by exact trivial) ?_
      clear hK K
      intro hHeld2
      clear hHeld
      have hHeld := hHeld2
      clear hHeld2
      try simp only [Act.put, List.setIfInBounds_toArray, List.set_cons_zero, List.set_cons_succ]
      refine run_at (i := 10) rfl (by kernel_rfl) (by rfl) (fun K hK => ?_)
      simp only [List.getElem_toArray, List.getElem_cons_zero, List.getElem_cons_succ]
      go_simp
      first | (go_at_call 35; refine Calls.mono HRE.out ?_; rintro e w5 ⟨rfl, hix, hch⟩; have HIX : Hid _ := hix; have HCH : Hid _ := hch; clear hix hch) | (go_at_call 36; refine Calls.mono (HCA.out _ (by first | exact al (Below.refl _ _).drew _ | exact (al (Below.refl _ _) _).drew) (by exact heap_alloc_new w3 _)) ?_; rintro e w4 ⟨v4, rfl, hown4, hb4⟩; have HB4 : Hid (Below w3.heap.size w3 w4) := (by first | exact below_next (al (Below.refl _ _).drew _) hb4 | exact below_next (al (Below.refl _ _) _).drew hb4); obtain ⟨a4, c4, e4, hc4, hn4, hr4⟩ := OwnE.val hown4; rw [← HL.out] at e4 hc4; subst e4; have HRE : Hid _ := replace_s (HI3.out.below HB4.out) p' hp a4 L c4 _ HL.out hr4 hc4 hn4 HFI.out hS.2; clear hown4 hb4 hc4 hn4 hr4)
      go_wp2_with fail
      refine hK.out _ _ (by exact trivial) ?_
      clear hK K
      intro hHeld2
      clear hHeld
      have hHeld := hHeld2
      clear hHeld2
      try simp only [Act.put, List.setIfInBounds_toArray, List.set_cons_zero, List.set_cons_succ]
      refine run_at (i := 11) rfl (by kernel_rfl) (by rfl) (fun K hK => ?_)
      simp only [List.getElem_toArray, List.getElem_cons_zero, List.getElem_cons_succ]
      go_simp
      first | (go_at_call 35; refine Calls.mono HRE.out ?_; rintro e w5 ⟨rfl, hix, hch⟩; have HIX : Hid _ := hix; have HCH : Hid _ := hch; clear hix hch) | (go_at_call 36; refine Calls.mono (HCA.out _ (by first | exact al (Below.refl _ _).drew _ | exact (al (Below.refl _ _) _).drew) (by exact heap_alloc_new w3 _)) ?_; rintro e w4 ⟨v4, rfl, hown4, hb4⟩; have HB4 : Hid (Below w3.heap.size w3 w4) := (by first | exact below_next (al (Below.refl _ _).drew _) hb4 | exact below_next (al (Below.refl _ _) _).drew hb4); obtain ⟨a4, c4, e4, hc4, hn4, hr4⟩ := OwnE.val hown4; rw [← HL.out] at e4 hc4; subst e4; have HRE : Hid _ := replace_s (HI3.out.below HB4.out) p' hp a4 L c4 _ HL.out hr4 hc4 hn4 HFI.out hS.2; clear hown4 hb4 hc4 hn4 hr4)
      go_wp2_with fail
      refine hK.out _ _ (by exact trivial) ?_
      clear hK K
      intro hHeld2
      clear hHeld
      have hHeld := hHeld2
      clear hHeld2
      try simp only [Act.put, List.setIfInBounds_toArray, List.set_cons_zero, List.set_cons_succ]
      refine wpAnyH_done (by kernel_rfl) ?_ _
      refine NoPanic.normal ?_
      go_wp2
      go_ret
      exact ⟨rfl, HIX.out, ((Chg.of_below HB3.out).trans (Chg.of_below (F := foot g v) HB4.out) (fun i hi => .inl hi)).trans HCH.out (fun i hi => .inl hi)⟩
    · have HCA : Hid (∀ u, Below w3.heap.size w3 u → u.heap[w3.heap.size]? = some (.cells #[.slice (some ⟨b4, o4, none⟩) i' c, .slice (some ⟨w2.heap.size, 0, none⟩) 1 1, .slice (some ⟨b4, o4 + bh * 3, none⟩) (K0 - bh) (c - bh)] tPg (0, 0)) → Calls Try.prog 36 #[.slice (some ⟨w3.heap.size, 0, none⟩) 3 3] u fun e u' => ∃ v', e = .returned v' ∧ OwnE u' u.heap.size v' (putL P[p'] i' true (mkE (s1, s2) n)) ∧ Below u.heap.size u u') := fun u hu hh => by
        have h9 := concatE_t w3.heap.size 0 3 [⟨some ⟨b4, o4, none⟩, c, P[p'].take i'⟩, ⟨some ⟨w2.heap.size, 0, none⟩, 1, [mkE (s1, s2) n]⟩, ⟨some ⟨b4, o4 + bh * 3, none⟩, (c - bh), P[p'].drop bh⟩] u (by simp) (fun j hj => by
          match j, hj with
          | 0, _ => exact ⟨by rw [cell_of_row _ _ _ _ _ _ hh]; simp [PartE.v, List.length_take]; rw [← HK0.out]; omega, (HR3.out.below hu).take _, fun h => by cases h⟩
          | 1, _ => exact ⟨by rw [cell_of_row _ _ _ _ _ _ hh]; rfl, HE3.out.below hu, fun h => by cases h⟩
          | 2, _ => exact ⟨by rw [cell_of_row _ _ _ _ _ _ hh]; simp [PartE.v, List.length_drop, HK0.out], (HR3.out.below hu).drop _, fun h => by cases h⟩) (by have := HK0.out; simp [catE, List.length_take, List.length_drop]; omega)
        have e9 : catE [⟨some ⟨b4, o4, none⟩, c, P[p'].take i'⟩, ⟨some ⟨w2.heap.size, 0, none⟩, 1, [mkE (s1, s2) n]⟩, ⟨some ⟨b4, o4 + bh * 3, none⟩, (c - bh), P[p'].drop bh⟩] = putL P[p'] i' true (mkE (s1, s2) n) := by rw [HBH.out]; simp [catE, putL]
        rw [e9] at h9
        exact h9
      go_wp2_with (first | (refine wpList_load_mid rfl tSt _ rfl w.heap.size 0 rfl (sc (s1, s2)) _ hl4 Try.underlying34 rfl info_st ?_))
      rw [← hw3]
      obtain ⟨L, hL⟩ : ∃ L, L = (putL P[p'] i' true (mkE (s1, s2) n)).length := ⟨_, rfl⟩
      have HL : Hid _ := hL
      have HFI : Hid (L ≤ S) := by rw [hL]; exact hfit
      clear hL hw3
      refine wp_region_noPanic ?_
      refine wp_region_held_drew (S := (fun _ => True)) (by kernel_rfl) (by exact trivial) (fun hHeld => ?_)
      refine take_at (i := 0) 60 (v := ?_) rfl rfl (by kernel_rfl) (by kernel_rfl) (by kernel_rfl) (fun _ _ _ h => h) (by rfl) ?_ hHeld ?_
      rotate_left
      · (intro w hSw; (try dsimp only at hSw); go_simp; try with_reducible rfl)
      simp only [Act.put, List.setIfInBounds_toArray, List.set_cons_zero, List.set_cons_succ]
      refine take_at (i := 1) 61 (v := ?_) rfl rfl (by kernel_rfl) (by kernel_rfl) (by kernel_rfl) (fun _ _ _ h => h) (by rfl) ?_ hHeld ?_
      rotate_left
      · (intro w hSw; (try dsimp only at hSw); go_simp; try with_reducible rfl)
      simp only [Act.put, List.setIfInBounds_toArray, List.set_cons_zero, List.set_cons_succ]
      refine take_at (i := 2) 62 (v := ?_) rfl rfl (by kernel_rfl) (by kernel_rfl) (by kernel_rfl) (fun _ _ _ h => h) (by rfl) ?_ hHeld ?_
      rotate_left
      · (intro w hSw; (try dsimp only at hSw); go_simp; try with_reducible rfl)
      simp only [Act.put, List.setIfInBounds_toArray, List.set_cons_zero, List.set_cons_succ]
      refine take_at (i := 3) 63 (v := ?_) rfl rfl (by kernel_rfl) (by kernel_rfl) (by kernel_rfl) (fun _ _ _ h => h) (by rfl) ?_ hHeld ?_
      rotate_left
      · (intro w hSw; (try dsimp only at hSw); go_simp; try with_reducible rfl)
      simp only [Act.put, List.setIfInBounds_toArray, List.set_cons_zero, List.set_cons_succ]
      refine take_at (i := 4) 64 (v := ?_) rfl rfl (by kernel_rfl) (by kernel_rfl) (by kernel_rfl) (fun _ _ _ h => h) (by rfl) ?_ hHeld ?_
      rotate_left
      · (intro w hSw; (try dsimp only at hSw); go_simp; try with_reducible rfl)
      simp only [Act.put, List.setIfInBounds_toArray, List.set_cons_zero, List.set_cons_succ]
      refine take_at (i := 5) 65 (v := ?_) rfl rfl (by kernel_rfl) (by kernel_rfl) (by kernel_rfl) (fun _ _ _ h => h) (by rfl) ?_ hHeld ?_
      rotate_left
      · (intro w hSw; (try dsimp only at hSw); go_simp; try with_reducible rfl)
      simp only [Act.put, List.setIfInBounds_toArray, List.set_cons_zero, List.set_cons_succ]
      refine take_at (i := 6) 66 (v := ?_) rfl rfl (by kernel_rfl) (by kernel_rfl) (by kernel_rfl) (fun _ _ _ h => h) (by rfl) ?_ hHeld ?_
      rotate_left
      · (intro w hSw; (try dsimp only at hSw); go_simp; try with_reducible rfl)
      simp only [Act.put, List.setIfInBounds_toArray, List.set_cons_zero, List.set_cons_succ]
      refine take_at (i := 7) 67 (v := ?_) rfl rfl (by kernel_rfl) (by kernel_rfl) (by kernel_rfl) (fun _ _ _ h => h) (by rfl) ?_ hHeld ?_
      rotate_left
      · (intro w hSw; (try dsimp only at hSw); go_simp; try with_reducible rfl)
      simp only [Act.put, List.setIfInBounds_toArray, List.set_cons_zero, List.set_cons_succ]
      refine take_at (i := 8) 68 (v := ?_) rfl rfl (by kernel_rfl) (by kernel_rfl) (by kernel_rfl) (fun _ _ _ h => h) (by rfl) ?_ hHeld ?_
      rotate_left
      · (intro w hSw; (try dsimp only at hSw); go_simp; try with_reducible rfl)
      simp only [Act.put, List.setIfInBounds_toArray, List.set_cons_zero, List.set_cons_succ]
      refine run_at (i := 9) rfl (by kernel_rfl) (by rfl) (fun K hK => ?_)
      simp only [List.getElem_toArray, List.getElem_cons_zero, List.getElem_cons_succ]
      go_simp
      go_wp2_with fail
      refine hK.out _ _ (by exact trivial) ?_
      clear hK K
      intro hHeld2
      clear hHeld
      have hHeld := hHeld2
      clear hHeld2
      try simp only [Act.put, List.setIfInBounds_toArray, List.set_cons_zero, List.set_cons_succ]
      refine run_at (i := 10) rfl (by kernel_rfl) (by rfl) (fun K hK => ?_)
      simp only [List.getElem_toArray, List.getElem_cons_zero, List.getElem_cons_succ]
      go_simp
      first | (go_at_call 35; refine Calls.mono HRE.out ?_; rintro e w5 ⟨rfl, hix, hch⟩; have HIX : Hid _ := hix; have HCH : Hid _ := hch; clear hix hch) | (go_at_call 36; refine Calls.mono (HCA.out _ (by first | exact al (Below.refl _ _).drew _ | exact (al (Below.refl _ _) _).drew) (by exact heap_alloc_new w3 _)) ?_; rintro e w4 ⟨v4, rfl, hown4, hb4⟩; have HB4 : Hid (Below w3.heap.size w3 w4) := (by first | exact below_next (al (Below.refl _ _).drew _) hb4 | exact below_next (al (Below.refl _ _) _).drew hb4); obtain ⟨a4, c4, e4, hc4, hn4, hr4⟩ := OwnE.val hown4; rw [← HL.out] at e4 hc4; subst e4; have HRE : Hid _ := replace_s (HI3.out.below HB4.out) p' hp a4 L c4 _ HL.out hr4 hc4 hn4 HFI.out hS.2; clear hown4 hb4 hc4 hn4 hr4)
      go_wp2_with fail
      refine hK.out _ _ (by exact trivial) ?_
      clear hK K
      intro hHeld2
      clear hHeld
      have hHeld := hHeld2
      clear hHeld2
      try simp only [Act.put, List.setIfInBounds_toArray, List.set_cons_zero, List.set_cons_succ]
      refine run_at (i := 11) rfl (by kernel_rfl) (by rfl) (fun K hK => ?_)
      simp only [List.getElem_toArray, List.getElem_cons_zero, List.getElem_cons_succ]
      go_simp
      first | (go_at_call 35; refine Calls.mono HRE.out ?_; rintro e w5 ⟨rfl, hix, hch⟩; have HIX : Hid _ := hix; have HCH : Hid _ := hch; clear hix hch) | (go_at_call 36; refine Calls.mono (HCA.out _ (by first | exact al (Below.refl _ _).drew _ | exact (al (Below.refl _ _) _).drew) (by exact heap_alloc_new w3 _)) ?_; rintro e w4 ⟨v4, rfl, hown4, hb4⟩; have HB4 : Hid (Below w3.heap.size w3 w4) := (by first | exact below_next (al (Below.refl _ _).drew _) hb4 | exact below_next (al (Below.refl _ _) _).drew hb4); obtain ⟨a4, c4, e4, hc4, hn4, hr4⟩ := OwnE.val hown4; rw [← HL.out] at e4 hc4; subst e4; have HRE : Hid _ := replace_s (HI3.out.below HB4.out) p' hp a4 L c4 _ HL.out hr4 hc4 hn4 HFI.out hS.2; clear hown4 hb4 hc4 hn4 hr4)
      go_wp2_with fail
      refine hK.out _ _ (by exact trivial) ?_
      clear hK K
      intro hHeld2
      clear hHeld
      have hHeld := hHeld2
      clear hHeld2
      try simp only [Act.put, List.setIfInBounds_toArray, List.set_cons_zero, List.set_cons_succ]
      refine wpAnyH_done (by kernel_rfl) ?_ _
      refine NoPanic.normal ?_
      go_wp2
      go_ret
      exact ⟨rfl, HIX.out, ((Chg.of_below HB3.out).trans (Chg.of_below (F := foot g v) HB4.out) (fun i hi => .inl hi)).trans HCH.out (fun i hi => .inl hi)⟩
end
end Go.Proofs.Ytibolgpaolnheaa
namespace Go.Proofs.Ytibolgpaolnheaa
set_option linter.unusedVariables false
set_option linter.unusedSimpArgs false
open Go.RowKit
section
set_option maxRecDepth 20000
theorem num_t (e : Int) (w : World) : Calls Try.prog 10 #[.int .i64 e] w fun er w' => er = .returned (.int .i64 e) ∧ w' = w := by
  go_enter Try.func10, Try.ntmps10
  go_wp2
  go_ret
  exact ⟨rfl, rfl⟩
theorem newU_t (S : Nat) (hS : 4 ≤ S ∧ S ≤ 64) (w : World) : Calls Try.prog 12 #[.int .i64 (S : Int)] w fun er w' => er = .returned (.tuple #[.pointer (some ⟨w.heap.size, 0, none⟩), .int .i64 0]) ∧ IdxAt w' w.heap.size S [] (.slice none 0 0) [] ∧ Below w.heap.size w w' := by
  have h1 : ¬ (S : Int) < 4 := by omega
  have h2 : ¬ (64 : Int) < (S : Int) := by omega
  have h3 : (S : Int) ≤ 64 := by omega
  go_enter Try.func12, Try.ntmps12
  go_wp2
  refine bodyPost_ret (results_tmp2 rfl _ _ _) rfl ?_
  exact ⟨rfl, ⟨heap_alloc_new w _, World.ownsRow_nil _ _ _ _, fun j hj => absurd hj (Nat.not_lt_zero _)⟩, al (Below.refl _ _) _⟩
theorem newS_ok (S : Nat) (hS : 4 ≤ S ∧ S ≤ 64) (w : World) : Calls Try.prog 9 #[.int .i64 (S : Int)] w fun er w' => er = .returned (.tuple #[.pointer (some ⟨w.heap.size, 0, none⟩), .int .i64 0]) ∧ Below w.heap.size w w' := by
  have h1 : ¬ (S : Int) < 4 := by omega
  have h2 : ¬ (64 : Int) < (S : Int) := by omega
  have h3 : (S : Int) ≤ 64 := by omega
  go_enter Try.func9, Try.ntmps9
  go_wp2
  refine bodyPost_ret (results_tmp2 rfl _ _ _) rfl ?_
  exact ⟨rfl, al (Below.refl _ _) _⟩
theorem newS_no (S : Nat) (hS : S < 4 ∨ 64 < S) (w : World) : Calls Try.prog 9 #[.int .i64 (S : Int)] w fun er w' => er = .returned (.tuple #[.pointer none, .int .i64 1]) ∧ w' = w := by
  by_cases h1 : (S : Int) < 4
  · go_enter Try.func9, Try.ntmps9
    go_wp2
    refine bodyPost_ret (results_tmp2 rfl _ _ _) rfl ?_
    exact ⟨rfl, rfl⟩
  · have h2 : (64 : Int) < (S : Int) := by omega
    go_enter Try.func9, Try.ntmps9
    go_wp2
    refine bodyPost_ret (results_tmp2 rfl _ _ _) rfl ?_
    exact ⟨rfl, rfl⟩
theorem up_t (x : Value) (h1 : x.oneCell' = true) (g : Option Addr) (hx : x = .pointer g) (s1 s2 : Nat) (w : World) : Calls Try.prog 28 #[x, sv (s1, s2)] w fun er w' => er = .returned (.func (.func 52) #[] #[.pointer (some ⟨w.heap.size, 0, none⟩), .pointer (some ⟨w.heap.size + 1, 0, none⟩)]) ∧ w' = (w.alloc (.cells #[x] 29)).alloc (.cells #[.int .u64 (s1 : Int), .int .u64 (s2 : Int)] tSt) := by
  subst hx
  go_enter Try.func28, Try.ntmps28
  go_wp2
  go_ret
  exact ⟨rfl, rfl⟩
theorem down_t (x : Value) (h1 : x.oneCell' = true) (g : Option Addr) (hx : x = .pointer g) (s1 s2 : Nat) (w : World) : Calls Try.prog 29 #[x, sv (s1, s2)] w fun er w' => er = .returned (.func (.func 56) #[] #[.pointer (some ⟨w.heap.size, 0, none⟩), .pointer (some ⟨w.heap.size + 1, 0, none⟩)]) ∧ w' = (w.alloc (.cells #[x] 29)).alloc (.cells #[.int .u64 (s1 : Int), .int .u64 (s2 : Int)] tSt) := by
  subst hx
  go_enter Try.func29, Try.ntmps29
  go_wp2
  go_ret
  exact ⟨rfl, rfl⟩
theorem sum_take {P : List (List Ent)} {k : Nat} (h : k < P.length) : (P.take (k + 1)).flatten.length = (P.take k).flatten.length + P[k].length := by
  rw [List.take_succ_eq_append_getElem h, List.flatten_append, List.length_append]; simp
theorem sum_le {P : List (List Ent)} (hlp : ∀ p ∈ P, p.length ≤ 100) : ∀ k, (P.take k).flatten.length ≤ 100 * k := fun k => by
  induction k with
  | zero => simp
  | succ k ih =>
    by_cases h : k < P.length
    · rw [sum_take h]
      have := hlp _ (List.getElem_mem h)
      omega
    · rw [List.take_of_length_le (by omega)] at ih ⊢
      omega
theorem len_t (x : Value) (pa : Option Addr) (n cap : Nat) (P : List (List Ent)) (w : World) (hx : PgV w x pa n cap) (hn : n = P.length) (hp : RdP w pa P) (hl : n ≤ 4398046511104) (hlp : ∀ p ∈ P, p.length ≤ 100) :
    Calls Try.prog 23 #[x] w fun e w' => e = .returned (.int .i64 (P.flatten.length : Int)) ∧ w' = w := by
  have HA : Hid _ := all_t x pa n cap w hx
  obtain ⟨TL, hTL⟩ : ∃ TL, TL = P.flatten.length := ⟨_, rfl⟩
  rw [← hTL]
  have HTL : Hid (TL = (P.take n).flatten.length) := (show TL = (P.take n).flatten.length by rw [hTL, hn, List.take_length])
  have HN : Hid (n = P.length) := hn
  have HLP : Hid _ := sum_le hlp
  have HL1 : Hid _ := hlp
  clear hx hn hlp hTL
  go_enter Try.func23, Try.ntmps23
  go_wp2_with fail
  refine Calls.mono HA.out ?_
  rintro e z ⟨rfl, hz⟩
  have hz := hz.symm
  subst hz
  go_wp2
  go_loop [3, 9] (fun s i => ∃ k : Nat, k ≤ n ∧ i = .int .i64 (k : Int) ∧ s = .int .i64 ((P.take k).flatten.length : Nat)) (fun _ i => n - (intOf i).toNat)
  case atStart => exact ⟨0, Nat.zero_le _, rfl, rfl⟩
  case round =>
    obtain ⟨k, hk, rfl, rfl⟩ := hrel
    by_cases hlt : k < n
    · have hkP : k < P.length := by have := HN.out; omega
      obtain ⟨b, o, rfl, a, c, hcp, hkc, hnc, -⟩ := hp k hkP
      obtain ⟨K0, hK0⟩ : ∃ K0, K0 = P[k].length := ⟨_, rfl⟩
      rw [← hK0] at hcp
      obtain ⟨T0, hT0⟩ : ∃ T0, T0 = (P.take k).flatten.length := ⟨_, rfl⟩
      rw [← hT0]
      have HS : Hid ((P.take (k + 1)).flatten.length = T0 + K0) := (show (P.take (k + 1)).flatten.length = T0 + K0 by rw [sum_take hkP, hT0, hK0])
      have hb1 : T0 + K0 ≤ 439804651110400 := by have h9 := HLP.out (k + 1); have h8 := HS.out; omega
      have hki : (k : Int) < (n : Int) := by omega
      have hk0 : (0 : Int) ≤ (k : Int) := by omega
      clear hp hK0 hT0
      go_wp2
      go_round
      case rel => exact ⟨k + 1, by omega, by go_num, by rw [HS.out]; go_num⟩
      case measure => simp [intOf]; omega
    · obtain rfl : k = n := by omega
      rw [← HTL.out]
      clear hp
      go_wp2
      go_ret
      exact ⟨rfl, rfl⟩
end
end Go.Proofs.Ytibolgpaolnheaa
namespace Go.Proofs.Ytibolgpaolnheaa
set_option linter.unusedVariables false
set_option linter.unusedSimpArgs false
open Go.RowKit
theorem info_int : (Try.prog.info? 3).map (fun i => (i.zero, i.size, i.bytes)) = some (some (.int .i64 0), 1, 8) := by kernel_rfl
abbrev cnt (P : List (List Ent)) : List Value := P.map fun p => .int .i64 (p.length : Int)
section
set_option maxRecDepth 20000
set_option maxHeartbeats 3200000
theorem get_t (x : Value) (pa : Option Addr) (n cap : Nat) (P : List (List Ent)) (s1 s2 : Nat) (w : World) (hx : PgV w x pa n cap) (hn : n = P.length) (hp : RdP w pa P) (hsp : SP P) (hl : n ≤ 4398046511104) (hlp : ∀ p ∈ P, p.length ≤ 100) :
    Calls Try.prog 17 #[x, sv (s1, s2)] w fun e w' => ∃ (p i : Nat) (ok : Bool) (v : Nat), e = .returned (.tuple #[.int .u64 (v : Int), .bool ok]) ∧ PlaceIs P (s1, s2) p i ok ∧ (ok = false → v = 0) ∧ (ok = true → ∃ h : i < (P.getD p []).length, v = (P.getD p [])[i].n) ∧ Below w.heap.size w w' := by
  obtain ⟨w1, hw1⟩ : ∃ X : World, X = w.alloc (.cells #[.int .u64 (s1 : Int), .int .u64 (s2 : Int)] tSt) := ⟨_, rfl⟩
  have hb1 : Below w.heap.size w w1 := by rw [hw1]; exact al (Below.refl _ _) _
  have HPL : Hid _ := place_t x pa n cap P (s1, s2) w1 (hx.below hb1) hn (hp.below hb1) hsp hl hlp
  have HX : Hid (PgV w x pa n cap) := hx
  have HB1 : Hid _ := hb1
  have HN : Hid _ := hn
  have HP : Hid (RdP w pa P) := hp
  clear hx hp hsp hlp hn hb1
  go_enter Try.func17, Try.ntmps17
  go_wp2_with fail
  rw [← hw1]
  refine Calls.mono HPL.out ?_
  rintro e w2 ⟨p, i, ok, rfl, hpl, hb2⟩
  have HB2 : Hid (Below w.heap.size w w2) := below_next HB1.out hb2
  have HPI : Hid (PlaceIs P (s1, s2) p i ok) := hpl
  cases ok
  · clear hpl hb2 hw1
    go_wp2
    refine bodyPost_ret (results_tmp2 rfl _ _ _) rfl ?_
    exact ⟨p, i, false, 0, rfl, HPI.out, fun _ => rfl, (fun h => by cases h), HB2.out⟩
  · obtain ⟨hpP, hiP, -⟩ : ∃ (hpP : p < P.length) (hiP : i < P[p].length), True := by
      rcases hpl with ⟨-, -, -, h⟩ | ⟨r, -, -, h3, -, h5⟩
      · cases h
      · obtain ⟨h6, -⟩ := h5.1 rfl
        rw [show P.getD p [] = P[p] by simp [List.getD, h3]] at h6
        exact ⟨h3, h6, trivial⟩
    have eP : P.getD p [] = P[p] := by simp [List.getD, hpP]
    obtain ⟨b, o, hpa, a, c, hcp, hkc, hnc, hre⟩ := (RdP.below HP.out HB2.out) p hpP
    subst hpa
    obtain ⟨b2, o2, ha, hr2, -⟩ := hre i hiP
    subst ha
    obtain ⟨g, hxg, hcg⟩ : ∃ g, x = .pointer (some ⟨g, 0, none⟩) ∧ w2.cell? ⟨g, 1, none⟩ = some (.slice (some ⟨b, o, none⟩) n cap) := by
      rcases PgV.below HX.out HB2.out with ⟨-, h, -⟩ | h
      · cases h
      · exact h
    subst hxg
    obtain ⟨K0, hK0⟩ : ∃ K0, K0 = P[p].length := ⟨_, rfl⟩
    rw [← hK0] at hcp
    obtain ⟨vn, hvn⟩ : ∃ vn, vn = P[p][i].n := ⟨_, rfl⟩
    have hq2 := hr2 2 _ rfl
    simp only [ev, Ent.v] at hq2
    rw [← hvn] at hq2
    have hpi : (p : Int) < (n : Int) := by have := HN.out; omega
    have hp0 : (0 : Int) ≤ (p : Int) := by omega
    have hii : (i : Int) < (K0 : Int) := by omega
    have hi0 : (0 : Int) ≤ (i : Int) := by omega
    have HVN : Hid (vn = P[p][i].n) := hvn
    clear hpl hb2 hw1 hr2 hre hkc hnc hK0 hvn
    go_wp2
    refine bodyPost_ret (results_tmp2 rfl _ _ _) rfl ?_
    exact ⟨p, i, true, vn, rfl, HPI.out, (fun h => by cases h), fun _ => ⟨by rw [eP]; exact hiP, by rw [HVN.out]; congr 1; simp only [eP]⟩, HB2.out⟩
theorem pages_t (x : Value) (pa : Option Addr) (n cap : Nat) (P : List (List Ent)) (w : World) (hx : PgV w x pa n cap) (hn : n = P.length) (hp : RdP w pa P) (hl : n ≤ 4398046511104) :
    Calls Try.prog 21 #[x] w fun e w' => ∃ v, e = .returned v ∧ w'.ownsRow w.heap.size 3 1 v n (cnt P) ∧ Below w.heap.size w w' := by
  have HA : Hid _ := all_t x pa n cap w hx
  have HN : Hid (n = P.length) := hn
  have HP : Hid (RdP w pa P) := hp
  obtain ⟨i0, hi, hz0, hz1, hz2⟩ := info_parts info_int
  clear hx hn hp
  go_enter Try.func21, Try.ntmps21
  go_wp2_with fail
  refine Calls.mono HA.out ?_
  rintro e z ⟨rfl, hz⟩
  have hz := hz.symm
  subst hz
  go_wp2
  go_loopw [3, 9] (fun v i wr => ∃ k : Nat, k ≤ n ∧ i = .int .i64 (k : Int) ∧ wr.ownsRow w.heap.size 3 1 v k (cnt (P.take k)) ∧ Below w.heap.size w wr) (fun _ i _ => n - (intOf i).toNat)
  case atStart => exact ⟨0, Nat.zero_le _, rfl, World.ownsRow_nil _ _ _ _, Below.refl _ _⟩
  case round =>
    obtain ⟨k, hk, rfl, hown, hbw⟩ := hrel
    have HBW : Hid (Below w.heap.size w wr) := hbw
    by_cases hlt : k < n
    · have hkP : k < P.length := by have := HN.out; omega
      obtain ⟨b, o, hpa, a, c, hcp, hkc, hnc, -⟩ := (RdP.below HP.out hbw) k hkP
      subst hpa
      obtain ⟨K0, hK0⟩ : ∃ K0, K0 = P[k].length := ⟨_, rfl⟩
      rw [← hK0] at hcp
      have HE : Hid (cnt (P.take (k + 1)) = cnt (P.take k) ++ [.int .i64 (K0 : Int)]) := (show cnt (P.take (k + 1)) = cnt (P.take k) ++ [.int .i64 (K0 : Int)] by rw [List.take_succ_eq_append_getElem hkP, hK0]; unfold cnt; rw [List.map_append]; rfl)
      obtain ⟨X, hX⟩ : ∃ X : World, X = wr.alloc (.cells #[.int .i64 (K0 : Int)] 3) := ⟨_, rfl⟩
      have hbX : Below wr.heap.size wr X := by rw [hX]; exact al (Below.refl _ _) _
      have HXG : Hid (X.heap[wr.heap.size]? = some (.cells #[.int .i64 (K0 : Int)] 3 (0, 0))) := (show X.heap[wr.heap.size]? = some (.cells #[.int .i64 (K0 : Int)] 3 (0, 0)) by rw [hX]; exact heap_alloc_new wr _)
      obtain ⟨V, hV⟩ : ∃ V, V = u3 := ⟨_, rfl⟩
      have HOX : Hid (X.ownsRow w.heap.size 3 1 u3 k (cnt (P.take k))) := (show X.ownsRow w.heap.size 3 1 u3 k (cnt (P.take k)) from ⟨hown.1, by
        rcases hown.2 with h0 | ⟨g', cap', cur, e, hB, hg', r⟩
        · exact .inl h0
        · exact .inr ⟨g', cap', cur, e, hB, (hbX.block g' (Array.getElem?_eq_some_iff.1 hg').1).trans hg', r⟩⟩)
      have HBX : Hid (Below w.heap.size w X) := below_next hbw hbX
      have hki : (k : Int) < (n : Int) := by omega
      have hk0 : (0 : Int) ≤ (k : Int) := by omega
      clear hK0 hbX hown hbw hkc hnc hV
      go_wp2_with (at_builtin; rw [← hX]; refine wpList_append_own_at _ rfl _ _ 46 rfl w.heap.size 3 i0 (.int .i64 0) 1 8 Try.underlying46 hi hz0 hz1 hz2 rfl (by decide) _ _ _ rfl HOX.out ⟨wr.heap.size, 0, none⟩ 1 1 [.int .i64 (K0 : Int)] rfl rfl (World.news_of_block HXG.out) (by intro u hu; simp at hu; subst hu; rfl) (by simp only [maxLen]; omega) (by omega) HBX.out.size ?_; intro v' w1 hown' hgrow _ _; have HO1 : Hid _ := hown'; have HG1 : Hid _ := hgrow; clear hown' hgrow)
      go_roundw
      case rel => exact ⟨k + 1, by omega, by go_num, by rw [HE.out]; exact HO1.out, HBX.out.grown HG1.out HBX.out.size (fun j hj => (World.ownsRow.lt HOX.out j hj).1)⟩
      case measure => simp [intOf]; omega
    · obtain rfl : k = n := by omega
      have HOW : Hid _ := hown
      clear hown
      go_wp2
      go_ret
      have h9 := HOW.out
      rw [HN.out, List.take_length] at h9
      rw [HN.out]
      exact ⟨_, rfl, h9, HBW.out⟩
end
end Go.Proofs.Ytibolgpaolnheaa
