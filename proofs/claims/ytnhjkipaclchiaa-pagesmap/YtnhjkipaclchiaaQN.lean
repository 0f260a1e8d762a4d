import Derived.Test.YtnhjkipaclchiaaQR
namespace Go.Proofs.Ytnhjkipaclchiaa
set_option linter.unusedVariables false
set_option linter.unusedSimpArgs false
open Go.RowKit
theorem RdE.take {w : World} {a : Option Addr} {xs : List Ent} (h : RdE w a xs) (k : Nat) : RdE w a (xs.take k) := fun j hj => by
  have h1 : j < xs.length := by have := hj; rw [List.length_take] at this; omega
  obtain ⟨b, o, h2, h3, h4⟩ := h j h1
  exact ⟨b, o, h2, by rw [List.getElem_take]; exact h3, h4⟩
theorem RdE.drop {w : World} {b o : Nat} {xs : List Ent} (h : RdE w (some ⟨b, o, none⟩) xs) (k : Nat) : RdE w (some ⟨b, o + k * 3, none⟩) (xs.drop k) := fun j hj => by
  have h1 : k + j < xs.length := by have := hj; rw [List.length_drop] at this; omega
  obtain ⟨b', o', h2, h3, h4⟩ := h (k + j) h1
  cases h2
  refine ⟨b, o + k * 3, rfl, ?_, h4⟩
  rw [List.getElem_drop, show o + k * 3 + j * 3 = o + (k + j) * 3 by omega]
  exact h3
/-- a page with an entry more, or with another one in the place of its own -/
def putL (xs : List Ent) (i : Nat) (ok : Bool) (e : Ent) : List Ent := xs.take i ++ [e] ++ xs.drop (if ok then i + 1 else i)
abbrev mkE (s : St) (n : Nat) : Ent := ⟨s, n⟩
theorem rdE_one {w : World} {N : Nat} (s1 s2 n : Nat) (h : w.heap[N]? = some (.cells #[.int .u64 (s1 : Int), .int .u64 (s2 : Int), .int .u64 (n : Int)] tEn (0, 0))) : RdE w (some ⟨N, 0, none⟩) [mkE (s1, s2) n] := fun j hj => by
  have : j = 0 := by simpa using hj
  subst this
  exact ⟨N, 0, rfl, by rw [Nat.zero_mul, Nat.add_zero]; exact box_range h, _, _, h⟩
section
set_option maxRecDepth 20000
variable {w w' : World} {g S : Nat} {P : List (List Ent)} {v : Value} {vs : List Value}
set_option maxHeartbeats 3200000 in
theorem put_in (h : IdxAt w g S P v vs) (hsp : SP P) (hS : 1 ≤ S ∧ S ≤ 64) (hPl : P.length ≤ 4398046511104) (hlp : ∀ p ∈ P, p.length ≤ 100) (s1 s2 n : Nat) (p i : Nat) (ok : Bool) (hpl : PlaceIs P (s1, s2) p i ok) (hp : p < P.length) (hfit : (putL P[p] i ok (mkE (s1, s2) n)).length ≤ S) :
    Calls Try.prog 13 #[.pointer (some ⟨g, 0, none⟩), sv (s1, s2), .int .u64 (n : Int)] w fun e w' => e = .returned (.bool (!ok)) ∧ (∃ vs', IdxAt w' g S (P.set p (putL P[p] i ok (mkE (s1, s2) n))) v vs') ∧ Chg (foot g v) w w' := by
  obtain ⟨w1, hw1⟩ : ∃ X : World, X = w.alloc (.cells #[.int .u64 (s1 : Int), .int .u64 (s2 : Int)] tSt) := ⟨_, rfl⟩
  have hb1 : Below w.heap.size w w1 := by rw [hw1]; exact al (Below.refl _ _) _
  have h1 := h.below hb1
  have HI1 : Hid (IdxAt w1 g S P v vs) := h1
  obtain ⟨pa, cap, hv, hcap, hnil, hrd, hpg⟩ := h1.rd
  have HPL : Hid _ := place_t (.pointer (some ⟨g, 0, none⟩)) pa P.length cap P (s1, s2) w1 hpg rfl hrd hsp hPl hlp
  have hcg0 : w.cell? ⟨g, 0, none⟩ = some (.int .i64 (S : Int)) := by rw [cell_of_row _ _ _ _ _ _ h.hd]; rfl
  have hgl : g < w.heap.size := (Array.getElem?_eq_some_iff.1 h.hd).1
  have hl3 : w1.rangeAt w.heap.size 0 (sc (s1, s2)) := by rw [hw1]; exact box_range (heap_alloc_new w _)
  have hSi : ¬ (S : Int) = 0 := by omega
  have hSb : ((S : Int) == 0) = false := by simpa using hSi
  have HB1 : Hid (Below w.heap.size w w1) := hb1
  have HP : Hid (PlaceIs P (s1, s2) p i ok) := hpl
  clear h1 hb1 hrd hpg hcap hnil h hpl
  go_enter Try.func13, Try.ntmps13
  go_wp2_with fail
  rw [← hw1]
  refine Calls.mono HPL.out ?_
  rintro e w2 ⟨p', i', ok', rfl, hpl', hb2⟩
  obtain ⟨e1, e2, e3⟩ := hpl'.uniq HP.out
  subst e1 e2 e3
  have HI2 : Hid (IdxAt w2 g S P v vs) := HI1.out.below hb2
  have HB2 : Hid (Below w.heap.size w w2) := below_next HB1.out hb2
  have hl4 : w2.rangeAt w.heap.size 0 (sc (s1, s2)) := rangeAt_below hl3 hb2
  obtain ⟨pa, cap, hv, hcap, hnil, hrd, -⟩ := HI2.out.rd
  obtain ⟨b, o, rfl, a, c, hcp, hkc, hnc, hr⟩ := hrd p' hp
  have hcg1 : w2.cell? ⟨g, 1, none⟩ = some v := by rw [cell_of_row _ _ _ _ _ _ HI2.out.hd]; rfl
  obtain ⟨NP, hNP⟩ : ∃ N, N = P.length := ⟨_, rfl⟩
  rw [hv, ← hNP] at hcg1
  obtain ⟨K0, hK0⟩ : ∃ N, N = P[p'].length := ⟨_, rfl⟩
  rw [← hK0] at hcp hkc
  have hgl2 : g < w2.heap.size := (Array.getElem?_eq_some_iff.1 HI2.out.hd).1
  have hbl2 : b < w2.heap.size := World.block_lt_of_cell? w2 _ hcp
  have hwl2 : w.heap.size < w2.heap.size := World.block_lt_of_cell? w2 _ (by have h9 := hl4 0 _ rfl; exact h9)
  have hN0 : ¬ (NP : Int) = 0 := by omega
  have hNb : ((NP : Int) == 0) = false := by simpa using hN0
  have hpi : (p' : Int) < (NP : Int) := by omega
  have hp0 : (0 : Int) ≤ (p' : Int) := by omega
  have hpN : p' < NP := by omega
  have hiK : i' ≤ K0 ∧ (ok' = true → i' < K0) := by
    rcases HP.out with ⟨h1, -⟩ | ⟨r, h1, h2, h3, h4, h5⟩
    · rw [h1] at hp; exact absurd hp (Nat.not_lt_zero _)
    · have eP : P.getD p' [] = P[p'] := by simp [List.getD, hp]
      rw [eP] at h4 h5
      exact ⟨by rw [hK0]; exact h4.1, fun h9 => by obtain ⟨h8, -⟩ := h5.1 h9; omega⟩
  have hK1 : K0 ≤ 100 := by rw [hK0]; exact hlp _ (List.getElem_mem hp)
  obtain ⟨w3, hw3⟩ : ∃ X : World, X = w2.alloc (.cells #[.int .u64 (s1 : Int), .int .u64 (s2 : Int), .int .u64 (n : Int)] tEn) := ⟨_, rfl⟩
  have hb3 : Below w2.heap.size w2 w3 := by rw [hw3]; exact al (Below.refl _ _) _
  have HE3 : Hid (RdE w3 (some ⟨w2.heap.size, 0, none⟩) [mkE (s1, s2) n]) := rdE_one s1 s2 n (by rw [hw3]; exact heap_alloc_new w2 _)
  have HR3 : Hid (RdE w3 a P[p']) := hr.below hb3
  have HI3 : Hid (IdxAt w3 g S P v vs) := HI2.out.below hb3
  have HB3 : Hid (Below w.heap.size w w3) := below_next HB2.out hb3
  have HK0 : Hid (K0 = P[p'].length) := hK0
  have HV : Hid _ := hv
  obtain ⟨b4, o4, ha⟩ : ∃ b4 o4, a = some ⟨b4, o4, none⟩ := by
    have h9 : 0 < P[p'].length := hsp.1 _ (List.getElem_mem hp)
    obtain ⟨b4, o4, h8, -⟩ := hr 0 h9
    exact ⟨b4, o4, h8⟩
  subst ha
  clear hb2 hb3 hr hrd hnil hcap hl3 hK0 hNP hv hpl' HPL HI1 HB1 hw1
  cases ok'
  case false =>
    skip
    have hbK : i' ≤ K0 := by rcases hiK with ⟨h1, h2⟩; first | (have := h2 rfl; omega) | omega
    skip
    have hi1 : i' ≤ K0 := hiK.1
    have hic : i' ≤ c := by omega
    have hbc : i' ≤ c := by omega
    have hi0i : (0 : Int) ≤ (i' : Int) := by omega
    have hb0i : (0 : Int) ≤ (i' : Int) := by omega
    have hiKi : (i' : Int) ≤ (K0 : Int) := by omega
    have hbKi : (i' : Int) ≤ (K0 : Int) := by omega
    have HBH : Hid (i' = i') := rfl
    clear hiK
    by_cases hbc2 : c = i'
    · subst hbc2
      have HCA : Hid (∀ u, Below w3.heap.size w3 u → u.heap[w3.heap.size]? = some (.cells #[.slice (some ⟨b4, o4, none⟩) c c, .slice (some ⟨w2.heap.size, 0, none⟩) 1 1, .slice (some ⟨b4, o4, none⟩) 0 0] tPg (0, 0)) → Calls Try.prog 36 #[.slice (some ⟨w3.heap.size, 0, none⟩) 3 3] u fun e u' => ∃ v', e = .returned v' ∧ OwnE u' u.heap.size v' (putL P[p'] c false (mkE (s1, s2) n)) ∧ Below u.heap.size u u') := fun u hu hh => by
        have h9 := concatE_t w3.heap.size 0 3 [⟨some ⟨b4, o4, none⟩, c, P[p'].take c⟩, ⟨some ⟨w2.heap.size, 0, none⟩, 1, [mkE (s1, s2) n]⟩, ⟨some ⟨b4, o4, none⟩, 0, P[p'].drop c⟩] u (by simp) (fun j hj => by
          match j, hj with
          | 0, _ => exact ⟨by rw [cell_of_row _ _ _ _ _ _ hh]; simp [PartE.v, List.length_take]; rw [← HK0.out]; omega, (HR3.out.below hu).take _, fun h => by cases h⟩
          | 1, _ => exact ⟨by rw [cell_of_row _ _ _ _ _ _ hh]; rfl, HE3.out.below hu, fun h => by cases h⟩
          | 2, _ => exact ⟨by rw [cell_of_row _ _ _ _ _ _ hh]; simp [PartE.v, List.length_drop]; have := HK0.out; omega, by have e8 : P[p'].drop c = [] := List.drop_eq_nil_of_le (by have := HK0.out; omega); rw [e8]; exact fun j hj => absurd hj (Nat.not_lt_zero _), fun h => by cases h⟩) (by have := HK0.out; simp [catE, List.length_take, List.length_drop]; omega)
        have e9 : catE [⟨some ⟨b4, o4, none⟩, c, P[p'].take c⟩, ⟨some ⟨w2.heap.size, 0, none⟩, 1, [mkE (s1, s2) n]⟩, ⟨some ⟨b4, o4, none⟩, 0, P[p'].drop c⟩] = putL P[p'] c false (mkE (s1, s2) n) := by rw [HBH.out]; simp [catE, putL]
        rw [e9] at h9
        exact h9
      go_wp2_with (first | (refine wpList_load_mid rfl tSt _ rfl w.heap.size 0 rfl (sc (s1, s2)) _ hl4 Try.underlying34 rfl info_st ?_))
      rw [← hw3]
      obtain ⟨L, hL⟩ : ∃ L, L = (putL P[p'] c false (mkE (s1, s2) n)).length := ⟨_, rfl⟩
      have HL : Hid _ := hL
      have HFI : Hid (L ≤ S) := by rw [hL]; exact hfit
      clear hL hw3
      refine wp_region_noPanic ?_
      refine wp_region_held_drew (S := (fun _ => True)) (by kernel_rfl) (by exact trivial) (fun hHeld => ?_)
      refine take_at (i := 0) 60 (v := ?_) rfl rfl (by kernel_rfl) (by kernel_rfl) (by kernel_rfl) (fun _ _ _ h => h) (by rfl) ?_ hHeld ?_
      rotate_left
      · (intro w hSw; (try dsimp only at hSw); go_simp; try with_reducible rfl)
      simp only [Act.put, List.setIfInBounds_toArray, List.set_cons_zero, List.set_cons_succ]
      refine take_at (i := 1) 61 (v := ?_) rfl rfl (by kernel_rfl) (by kernel_rfl) (by kernel_rfl) (fun _ _ _ h => h) (by rfl) ?_ hHeld ?_
      rotate_left
      · (intro w hSw; (try dsimp only at hSw); go_simp; try with_reducible rfl)
      simp only [Act.put, List.setIfInBounds_toArray, List.set_cons_zero, List.set_cons_succ]
      refine take_at (i := 2) 62 (v := ?_) rfl rfl (by kernel_rfl) (by kernel_rfl) (by kernel_rfl) (fun _ _ _ h => h) (by rfl) ?_ hHeld ?_
      rotate_left
      · (intro w hSw; (try dsimp only at hSw); go_simp; try with_reducible rfl)
      simp only [Act.put, List.setIfInBounds_toArray, List.set_cons_zero, List.set_cons_succ]
      refine take_at (i := 3) 63 (v := ?_) rfl rfl (by kernel_rfl) (by kernel_rfl) (by kernel_rfl) (fun _ _ _ h => h) (by rfl) ?_ hHeld ?_
      rotate_left
      · (intro w hSw; (try dsimp only at hSw); go_simp; try with_reducible rfl)
      simp only [Act.put, List.setIfInBounds_toArray, List.set_cons_zero, List.set_cons_succ]
      refine take_at (i := 4) 64 (v := ?_) rfl rfl (by kernel_rfl) (by kernel_rfl) (by kernel_rfl) (fun _ _ _ h => h) (by rfl) ?_ hHeld ?_
      rotate_left
      · (intro w hSw; (try dsimp only at hSw); go_simp; try with_reducible rfl)
      simp only [Act.put, List.setIfInBounds_toArray, List.set_cons_zero, List.set_cons_succ]
      refine take_at (i := 5) 65 (v := ?_) rfl rfl (by kernel_rfl) (by kernel_rfl) (by kernel_rfl) (fun _ _ _ h => h) (by rfl) ?_ hHeld ?_
      rotate_left
      · (intro w hSw; (try dsimp only at hSw); go_simp; try with_reducible rfl)
      simp only [Act.put, List.setIfInBounds_toArray, List.set_cons_zero, List.set_cons_succ]
      refine take_at (i := 6) 66 (v := ?_) rfl rfl (by kernel_rfl) (by kernel_rfl) (by kernel_rfl) (fun _ _ _ h => h) (by rfl) ?_ hHeld ?_
      rotate_left
      · (intro w hSw; (try dsimp only at hSw); go_simp; try with_reducible rfl)
      simp only [Act.put, List.setIfInBounds_toArray, List.set_cons_zero, List.set_cons_succ]
      refine take_at (i := 7) 67 (v := ?_) rfl rfl (by kernel_rfl) (by kernel_rfl) (by kernel_rfl) (fun _ _ _ h => h) (by rfl) ?_ hHeld ?_
      rotate_left
      · (intro w hSw; (try dsimp only at hSw); go_simp; try with_reducible rfl)
      simp only [Act.put, List.setIfInBounds_toArray, List.set_cons_zero, List.set_cons_succ]
      refine take_at (i := 8) 68 (v := ?_) rfl rfl (by kernel_rfl) (by kernel_rfl) (by kernel_rfl) (fun _ _ _ h => h) (by rfl) ?_ hHeld ?_
      rotate_left
      · (intro w hSw; (try dsimp only at hSw); go_simp; try with_reducible rfl)
      simp only [Act.put, List.setIfInBounds_toArray, List.set_cons_zero, List.set_cons_succ]
      refine run_at (i := 9) rfl (by kernel_rfl) (by rfl) (fun K hK => ?_)
      simp only [List.getElem_toArray, List.getElem_cons_zero, List.getElem_cons_succ]
      go_simp
      go_wp2_with fail
      refine hK.out _ _ (by exact trivial) ?_
      clear hK K
      intro hHeld2
      clear hHeld
      have hHeld := hHeld2
      clear hHeld2
      try simp only [Act.put, List.setIfInBounds_toArray, List.set_cons_zero, List.set_cons_succ]
      refine run_at (i := 10) rfl (by kernel_rfl) (by rfl) (fun K hK => ?_)
      simp only [List.getElem_toArray, List.getElem_cons_zero, List.getElem_cons_succ]
      go_simp
      first | (go_at_call 35; refine Calls.mono HRE.out ?_; rintro e w5 ⟨rfl, hix, hch⟩; have HIX : Hid _ := hix; have HCH : Hid _ := hch; clear hix hch) | (go_at_call 36; refine Calls.mono (HCA.out _ (by first | exact al (Below.refl _ _).drew _ | exact (al (Below.refl _ _) _).drew) (by exact heap_alloc_new w3 _)) ?_; rintro e w4 ⟨v4, rfl, hown4, hb4⟩; have HB4 : Hid (Below w3.heap.size w3 w4) := (by first | exact below_next (al (Below.refl _ _).drew _) hb4 | exact below_next (al (Below.refl _ _) _).drew hb4); obtain ⟨a4, c4, e4, hc4, hn4, hr4⟩ := OwnE.val hown4; rw [← HL.out] at e4 hc4; subst e4; have HRE : Hid _ := replace_s (HI3.out.below HB4.out) p' hp a4 L c4 _ HL.out hr4 hc4 hn4 HFI.out hS.2; clear hown4 hb4 hc4 hn4 hr4)
      go_wp2_with fail
      refine hK.out _ _ (by exact trivial) ?_
      clear hK K
      intro hHeld2
      clear hHeld
      have hHeld := hHeld2
      clear hHeld2
      try simp only [Act.put, List.setIfInBounds_toArray, List.set_cons_zero, List.set_cons_succ]
      refine run_at (i := 11) rfl (by kernel_rfl) (by rfl) (fun K hK => ?_)
      simp only [List.getElem_toArray, List.getElem_cons_zero, List.getElem_cons_succ]
      go_simp
      first | (go_at_call 35; refine Calls.mono HRE.out ?_; rintro e w5 ⟨rfl, hix, hch⟩; have HIX : Hid _ := hix; have HCH : Hid _ := hch; clear hix hch) | (go_at_call 36; refine Calls.mono (HCA.out _ (by first | exact al (Below.refl _ _).drew _ | exact (al (Below.refl _ _) _).drew) (by exact heap_alloc_new w3 _)) ?_; rintro e w4 ⟨v4, rfl, hown4, hb4⟩; have HB4 : Hid (Below w3.heap.size w3 w4) := (by first | exact below_next (al (Below.refl _ _).drew _) hb4 | exact below_next (al (Below.refl _ _) _).drew hb4); obtain ⟨a4, c4, e4, hc4, hn4, hr4⟩ := OwnE.val hown4; rw [← HL.out] at e4 hc4; subst e4; have HRE : Hid _ := replace_s (HI3.out.below HB4.out) p' hp a4 L c4 _ HL.out hr4 hc4 hn4 HFI.out hS.2; clear hown4 hb4 hc4 hn4 hr4)
      go_wp2_with fail
      refine hK.out _ _ (by exact trivial) ?_
      clear hK K
      intro hHeld2
      clear hHeld
      have hHeld := hHeld2
      clear hHeld2
      try simp only [Act.put, List.setIfInBounds_toArray, List.set_cons_zero, List.set_cons_succ]
      refine wpAnyH_done (by kernel_rfl) ?_ _
      refine NoPanic.normal ?_
      go_wp2
      go_ret
      exact ⟨rfl, HIX.out, ((Chg.of_below HB3.out).trans (Chg.of_below (F := foot g v) HB4.out) (fun i hi => .inl hi)).trans HCH.out (fun i hi => .inl hi)⟩
    · have HCA : Hid (∀ u, Below w3.heap.size w3 u → u.heap[w3.heap.size]? = some (.cells #[.slice (some ⟨b4, o4, none⟩) i' c, .slice (some ⟨w2.heap.size, 0, none⟩) 1 1, .slice (some ⟨b4, o4 + i' * 3, none⟩) (K0 - i') (c - i')] tPg (0, 0)) → Calls Try.prog 36 #[.slice (some ⟨w3.heap.size, 0, none⟩) 3 3] u fun e u' => ∃ v', e = .returned v' ∧ OwnE u' u.heap.size v' (putL P[p'] i' false (mkE (s1, s2) n)) ∧ Below u.heap.size u u') := fun u hu hh => by
        have h9 := concatE_t w3.heap.size 0 3 [⟨some ⟨b4, o4, none⟩, c, P[p'].take i'⟩, ⟨some ⟨w2.heap.size, 0, none⟩, 1, [mkE (s1, s2) n]⟩, ⟨some ⟨b4, o4 + i' * 3, none⟩, (c - i'), P[p'].drop i'⟩] u (by simp) (fun j hj => by
          match j, hj with
          | 0, _ => exact ⟨by rw [cell_of_row _ _ _ _ _ _ hh]; simp [PartE.v, List.length_take]; rw [← HK0.out]; omega, (HR3.out.below hu).take _, fun h => by cases h⟩
          | 1, _ => exact ⟨by rw [cell_of_row _ _ _ _ _ _ hh]; rfl, HE3.out.below hu, fun h => by cases h⟩
          | 2, _ => exact ⟨by rw [cell_of_row _ _ _ _ _ _ hh]; simp [PartE.v, List.length_drop, HK0.out], (HR3.out.below hu).drop _, fun h => by cases h⟩) (by have := HK0.out; simp [catE, List.length_take, List.length_drop]; omega)
        have e9 : catE [⟨some ⟨b4, o4, none⟩, c, P[p'].take i'⟩, ⟨some ⟨w2.heap.size, 0, none⟩, 1, [mkE (s1, s2) n]⟩, ⟨some ⟨b4, o4 + i' * 3, none⟩, (c - i'), P[p'].drop i'⟩] = putL P[p'] i' false (mkE (s1, s2) n) := by rw [HBH.out]; simp [catE, putL]
        rw [e9] at h9
        exact h9
      go_wp2_with (first | (refine wpList_load_mid rfl tSt _ rfl w.heap.size 0 rfl (sc (s1, s2)) _ hl4 Try.underlying34 rfl info_st ?_))
      rw [← hw3]
      obtain ⟨L, hL⟩ : ∃ L, L = (putL P[p'] i' false (mkE (s1, s2) n)).length := ⟨_, rfl⟩
      have HL : Hid _ := hL
      have HFI : Hid (L ≤ S) := by rw [hL]; exact hfit
      clear hL hw3
      refine wp_region_noPanic ?_
      refine wp_region_held_drew (S := (fun _ => True)) (by kernel_rfl) (by exact trivial) (fun hHeld => ?_)
      refine take_at (i := 0) 60 (v := ?_) rfl rfl (by kernel_rfl) (by kernel_rfl) (by kernel_rfl) (fun _ _ _ h => h) (by rfl) ?_ hHeld ?_
      rotate_left
      · (intro w hSw; (try dsimp only at hSw); go_simp; try with_reducible rfl)
      simp only [Act.put, List.setIfInBounds_toArray, List.set_cons_zero, List.set_cons_succ]
      refine take_at (i := 1) 61 (v := ?_) rfl rfl (by kernel_rfl) (by kernel_rfl) (by kernel_rfl) (fun _ _ _ h => h) (by rfl) ?_ hHeld ?_
      rotate_left
      · (intro w hSw; (try dsimp only at hSw); go_simp; try with_reducible rfl)
      simp only [Act.put, List.setIfInBounds_toArray, List.set_cons_zero, List.set_cons_succ]
      refine take_at (i := 2) 62 (v := ?_) rfl rfl (by kernel_rfl) (by kernel_rfl) (by kernel_rfl) (fun _ _ _ h => h) (by rfl) ?_ hHeld ?_
      rotate_left
      · (intro w hSw; (try dsimp only at hSw); go_simp; try with_reducible rfl)
      simp only [Act.put, List.setIfInBounds_toArray, List.set_cons_zero, List.set_cons_succ]
      refine take_at (i := 3) 63 (v := ?_) rfl rfl (by kernel_rfl) (by kernel_rfl) (by kernel_rfl) (fun _ _ _ h => h) (by rfl) ?_ hHeld ?_
      rotate_left
      · (intro w hSw; (try dsimp only at hSw); go_simp; try with_reducible rfl)
      simp only [Act.put, List.setIfInBounds_toArray, List.set_cons_zero, List.set_cons_succ]
      refine take_at (i := 4) 64 (v := ?_) rfl rfl (by kernel_rfl) (by kernel_rfl) (by kernel_rfl) (fun _ _ _ h => h) (by rfl) ?_ hHeld ?_
      rotate_left
      · (intro w hSw; (try dsimp only at hSw); go_simp; try with_reducible rfl)
      simp only [Act.put, List.setIfInBounds_toArray, List.set_cons_zero, List.set_cons_succ]
      refine take_at (i := 5) 65 (v := ?_) rfl rfl (by kernel_rfl) (by kernel_rfl) (by kernel_rfl) (fun _ _ _ h => h) (by rfl) ?_ hHeld ?_
      rotate_left
      · (intro w hSw; (try dsimp only at hSw); go_simp; try with_reducible rfl)
      simp only [Act.put, List.setIfInBounds_toArray, List.set_cons_zero, List.set_cons_succ]
      refine take_at (i := 6) 66 (v := ?_) rfl rfl (by kernel_rfl) (by kernel_rfl) (by kernel_rfl) (fun _ _ _ h => h) (by rfl) ?_ hHeld ?_
      rotate_left
      · (intro w hSw; (try dsimp only at hSw); go_simp; try with_reducible rfl)
      simp only [Act.put, List.setIfInBounds_toArray, List.set_cons_zero, List.set_cons_succ]
      refine take_at (i := 7) 67 (v := ?_) rfl rfl (by kernel_rfl) (by kernel_rfl) (by kernel_rfl) (fun _ _ _ h => h) (by rfl) ?_ hHeld ?_
      rotate_left
      · (intro w hSw; (try dsimp only at hSw); go_simp; try with_reducible rfl)
      simp only [Act.put, List.setIfInBounds_toArray, List.set_cons_zero, List.set_cons_succ]
      refine take_at (i := 8) 68 (v := ?_) rfl rfl (by kernel_rfl) (by kernel_rfl) (by kernel_rfl) (fun _ _ _ h => h) (by rfl) ?_ hHeld ?_
      rotate_left
      · (intro w hSw; (try dsimp only at hSw); go_simp; try with_reducible rfl)
      simp only [Act.put, List.setIfInBounds_toArray, List.set_cons_zero, List.set_cons_succ]
      refine run_at (i := 9) rfl (by kernel_rfl) (by rfl) (fun K hK => ?_)
      simp only [List.getElem_toArray, List.getElem_cons_zero, List.getElem_cons_succ]
      go_simp
      go_wp2_with fail
      refine hK.out _ _ (by exact trivial) ?_
      clear hK K
      intro hHeld2
      clear hHeld
      have hHeld := hHeld2
      clear hHeld2
      try simp only [Act.put, List.setIfInBounds_toArray, List.set_cons_zero, List.set_cons_succ]
      refine run_at (i := 10) rfl (by kernel_rfl) (by rfl) (fun K hK => ?_)
      simp only [List.getElem_toArray, List.getElem_cons_zero, List.getElem_cons_succ]
      go_simp
      first | (go_at_call 35; refine Calls.mono HRE.out ?_; rintro e w5 ⟨rfl, hix, hch⟩; have HIX : Hid _ := hix; have HCH : Hid _ := hch; clear hix hch) | (go_at_call 36; refine Calls.mono (HCA.out _ (by first | exact al (Below.refl _ _).drew _ | exact (al (Below.refl _ _) _).drew) (by exact heap_alloc_new w3 _)) ?_; rintro e w4 ⟨v4, rfl, hown4, hb4⟩; have HB4 : Hid (Below w3.heap.size w3 w4) := (by first | exact below_next (al (Below.refl _ _).drew _) hb4 | exact below_next (al (Below.refl _ _) _).drew hb4); obtain ⟨a4, c4, e4, hc4, hn4, hr4⟩ := OwnE.val hown4; rw [← HL.out] at e4 hc4; subst e4; have HRE : Hid _ := replace_s (HI3.out.below HB4.out) p' hp a4 L c4 _ HL.out hr4 hc4 hn4 HFI.out hS.2; clear hown4 hb4 hc4 hn4 hr4)
      go_wp2_with fail
      refine hK.out _ _ (by exact trivial) ?_
      clear hK K
      intro hHeld2
      clear hHeld
      have hHeld := hHeld2
      clear hHeld2
      try simp only [Act.put, List.setIfInBounds_toArray, List.set_cons_zero, List.set_cons_succ]
      refine run_at (i := 11) rfl (by kernel_rfl) (by rfl) (fun K hK => ?_)
      simp only [List.getElem_toArray, List.getElem_cons_zero, List.getElem_cons_succ]
      go_simp
      first | (go_at_call 35; refine Calls.mono HRE.out ?_; rintro e w5 ⟨rfl, hix, hch⟩; have HIX : Hid _ := hix; have HCH : Hid _ := hch; clear hix hch) | (go_at_call 36; refine Calls.mono (HCA.out _ (by first | exact al (Below.refl _ _).drew _ | exact (al (Below.refl _ _) _).drew) (by exact heap_alloc_new w3 _)) ?_; rintro e w4 ⟨v4, rfl, hown4, hb4⟩; have HB4 : Hid (Below w3.heap.size w3 w4) := (by first | exact below_next (al (Below.refl _ _).drew _) hb4 | exact below_next (al (Below.refl _ _) _).drew hb4); obtain ⟨a4, c4, e4, hc4, hn4, hr4⟩ := OwnE.val hown4; rw [← HL.out] at e4 hc4; subst e4; have HRE : Hid _ := replace_s (HI3.out.below HB4.out) p' hp a4 L c4 _ HL.out hr4 hc4 hn4 HFI.out hS.2; clear hown4 hb4 hc4 hn4 hr4)
      go_wp2_with fail
      refine hK.out _ _ (by exact trivial) ?_
      clear hK K
      intro hHeld2
      clear hHeld
      have hHeld := hHeld2
      clear hHeld2
      try simp only [Act.put, List.setIfInBounds_toArray, List.set_cons_zero, List.set_cons_succ]
      refine wpAnyH_done (by kernel_rfl) ?_ _
      refine NoPanic.normal ?_
      go_wp2
      go_ret
      exact ⟨rfl, HIX.out, ((Chg.of_below HB3.out).trans (Chg.of_below (F := foot g v) HB4.out) (fun i hi => .inl hi)).trans HCH.out (fun i hi => .inl hi)⟩
  case true =>
    obtain ⟨bh, hbh⟩ : ∃ bh : Nat, bh = (i' + 1) := ⟨_, rfl⟩
    have hbK : bh ≤ K0 := by rcases hiK with ⟨h1, h2⟩; first | (have := h2 rfl; omega) | omega
    have hwb : IntKind.i64.wrap ((i' : Int) + 1) = (bh : Int) := by rw [IntKind.wrap_i64]; omega
    have hi1 : i' ≤ K0 := hiK.1
    have hic : i' ≤ c := by omega
    have hbc : bh ≤ c := by omega
    have hi0i : (0 : Int) ≤ (i' : Int) := by omega
    have hb0i : (0 : Int) ≤ (bh : Int) := by omega
    have hiKi : (i' : Int) ≤ (K0 : Int) := by omega
    have hbKi : (bh : Int) ≤ (K0 : Int) := by omega
    have HBH : Hid (bh = (i' + 1)) := hbh
    clear hbh hiK
    by_cases hbc2 : c = bh
    · subst hbc2
      have HCA : Hid (∀ u, Below w3.heap.size w3 u → u.heap[w3.heap.size]? = some (.cells #[.slice (some ⟨b4, o4, none⟩) i' c, .slice (some ⟨w2.heap.size, 0, none⟩) 1 1, .slice (some ⟨b4, o4, none⟩) 0 0] tPg (0, 0)) → Calls Try.prog 36 #[.slice (some ⟨w3.heap.size, 0, none⟩) 3 3] u fun e u' => ∃ v', e = .returned v' ∧ OwnE u' u.heap.size v' (putL P[p'] i' true (mkE (s1, s2) n)) ∧ Below u.heap.size u u') := fun u hu hh => by
        have h9 := concatE_t w3.heap.size 0 3 [⟨some ⟨b4, o4, none⟩, c, P[p'].take i'⟩, ⟨some ⟨w2.heap.size, 0, none⟩, 1, [mkE (s1, s2) n]⟩, ⟨some ⟨b4, o4, none⟩, 0, P[p'].drop c⟩] u (by simp) (fun j hj => by
          match j, hj with
          | 0, _ => exact ⟨by rw [cell_of_row _ _ _ _ _ _ hh]; simp [PartE.v, List.length_take]; rw [← HK0.out]; omega, (HR3.out.below hu).take _, fun h => by cases h⟩
          | 1, _ => exact ⟨by rw [cell_of_row _ _ _ _ _ _ hh]; rfl, HE3.out.below hu, fun h => by cases h⟩
          | 2, _ => exact ⟨by rw [cell_of_row _ _ _ _ _ _ hh]; simp [PartE.v, List.length_drop]; have := HK0.out; omega, by have e8 : P[p'].drop c = [] := List.drop_eq_nil_of_le (by have := HK0.out; omega); rw [e8]; exact fun j hj => absurd hj (Nat.not_lt_zero _), fun h => by cases h⟩) (by have := HK0.out; simp [catE, List.length_take, List.length_drop]; omega)
        have e9 : catE [⟨some ⟨b4, o4, none⟩, c, P[p'].take i'⟩, ⟨some ⟨w2.heap.size, 0, none⟩, 1, [mkE (s1, s2) n]⟩, ⟨some ⟨b4, o4, none⟩, 0, P[p'].drop c⟩] = putL P[p'] i' true (mkE (s1, s2) n) := by rw [HBH.out]; simp [catE, putL]
        rw [e9] at h9
        exact h9
      go_wp2_with (first | (refine wpList_load_mid rfl tSt _ rfl w.heap.size 0 rfl (sc (s1, s2)) _ hl4 Try.underlying34 rfl info_st ?_))
      rw [← hw3]
      obtain ⟨L, hL⟩ : ∃ L, L = (putL P[p'] i' true (mkE (s1, s2) n)).length := ⟨_, rfl⟩
      have HL : Hid _ := hL
      have HFI : Hid (L ≤ S) := by rw [hL]; exact hfit
      clear hL hw3
      refine wp_region_noPanic ?_
      refine wp_region_held_drew (S := (fun _ => True)) (by kernel_rfl) (by exact trivial) (fun hHeld => ?_)
      refine take_at (i := 0) 60 (v := ?_) rfl rfl (by kernel_rfl) (by kernel_rfl) (by kernel_rfl) (fun _ _ _ h => h) (by rfl) ?_ hHeld ?_
      rotate_left
      · (intro w hSw; (try dsimp only at hSw); go_simp; try with_reducible rfl)
      simp only [Act.put, List.setIfInBounds_toArray, List.set_cons_zero, List.set_cons_succ]
      refine take_at (i := 1) 61 (v := ?_) rfl rfl (by kernel_rfl) (by kernel_rfl) (by kernel_rfl) (fun _ _ _ h => h) (by rfl) ?_ hHeld ?_
      rotate_left
      · (intro w hSw; (try dsimp only at hSw); go_simp; try with_reducible rfl)
      simp only [Act.put, List.setIfInBounds_toArray, List.set_cons_zero, List.set_cons_succ]
      refine take_at (i := 2) 62 (v := ?_) rfl rfl (by kernel_rfl) (by kernel_rfl) (by kernel_rfl) (fun _ _ _ h => h) (by rfl) ?_ hHeld ?_
      rotate_left
      · (intro w hSw; (try dsimp only at hSw); go_simp; try with_reducible rfl)
      simp only [Act.put, List.setIfInBounds_toArray, List.set_cons_zero, List.set_cons_succ]
      refine take_at (i := 3) 63 (v := ?_) rfl rfl (by kernel_rfl) (by kernel_rfl) (by kernel_rfl) (fun _ _ _ h => h) (by rfl) ?_ hHeld ?_
      rotate_left
      · (intro w hSw; (try dsimp only at hSw); go_simp; try with_reducible rfl)
      simp only [Act.put, List.setIfInBounds_toArray, List.set_cons_zero, List.set_cons_succ]
      refine take_at (i := 4) 64 (v := ?_) rfl rfl (by kernel_rfl) (by kernel_rfl) (by kernel_rfl) (fun _ _ _ h => h) (by rfl) ?_ hHeld ?_
      rotate_left
      · (intro w hSw; (try dsimp only at hSw); go_simp; try with_reducible rfl)
      simp only [Act.put, List.setIfInBounds_toArray, List.set_cons_zero, List.set_cons_succ]
      refine take_at (i := 5) 65 (v := ?_) rfl rfl (by kernel_rfl) (by kernel_rfl) (by kernel_rfl) (fun _ _ _ h => h) (by rfl) ?_ hHeld ?_
      rotate_left
      · (intro w hSw; (try dsimp only at hSw); go_simp; try with_reducible rfl)
      simp only [Act.put, List.setIfInBounds_toArray, List.set_cons_zero, List.set_cons_succ]
      refine take_at (i := 6) 66 (v := ?_) rfl rfl (by kernel_rfl) (by kernel_rfl) (by kernel_rfl) (fun _ _ _ h => h) (by rfl) ?_ hHeld ?_
      rotate_left
      · (intro w hSw; (try dsimp only at hSw); go_simp; try with_reducible rfl)
      simp only [Act.put, List.setIfInBounds_toArray, List.set_cons_zero, List.set_cons_succ]
      refine take_at (i := 7) 67 (v := ?_) rfl rfl (by kernel_rfl) (by kernel_rfl) (by kernel_rfl) (fun _ _ _ h => h) (by rfl) ?_ hHeld ?_
      rotate_left
      · (intro w hSw; (try dsimp only at hSw); go_simp; try with_reducible rfl)
      simp only [Act.put, List.setIfInBounds_toArray, List.set_cons_zero, List.set_cons_succ]
      refine take_at (i := 8) 68 (v := ?_) rfl rfl (by kernel_rfl) (by kernel_rfl) (by kernel_rfl) (fun _ _ _ h => h) (by rfl) ?_ hHeld ?_
      rotate_left
      · (intro w hSw; (try dsimp only at hSw); go_simp; try with_reducible rfl)
      simp only [Act.put, List.setIfInBounds_toArray, List.set_cons_zero, List.set_cons_succ]
      refine run_at (i := 9) rfl (by kernel_rfl) (by rfl) (fun K hK => ?_)
      simp only [List.getElem_toArray, List.getElem_cons_zero, List.getElem_cons_succ]
      go_simp
      go_wp2_with fail
      refine hK.out _ _ (by exact trivial) ?_
      clear hK K
      intro hHeld2
      clear hHeld
      have hHeld := hHeld2
      clear hHeld2
      try simp only [Act.put, List.setIfInBounds_toArray, List.set_cons_zero, List.set_cons_succ]
      refine run_at (i := 10) rfl (by kernel_rfl) (by rfl) (fun K hK => ?_)
      simp only [List.getElem_toArray, List.getElem_cons_zero, List.getElem_cons_succ]
      go_simp
      first | (go_at_call 35; refine Calls.mono HRE.out ?_; rintro e w5 ⟨rfl, hix, hch⟩; have HIX : Hid _ := hix; have HCH : Hid _ := hch; clear hix hch) | (go_at_call 36; refine Calls.mono (HCA.out _ (by first | exact al (Below.refl _ _).drew _ | exact (al (Below.refl _ _) _).drew) (by exact heap_alloc_new w3 _)) ?_; rintro e w4 ⟨v4, rfl, hown4, hb4⟩; have HB4 : Hid (Below w3.heap.size w3 w4) := (by first | exact below_next (al (Below.refl _ _).drew _) hb4 | exact below_next (al (Below.refl _ _) _).drew hb4); obtain ⟨a4, c4, e4, hc4, hn4, hr4⟩ := OwnE.val hown4; rw [← HL.out] at e4 hc4; subst e4; have HRE : Hid _ := replace_s (HI3.out.below HB4.out) p' hp a4 L c4 _ HL.out hr4 hc4 hn4 HFI.out hS.2; clear hown4 hb4 hc4 hn4 hr4)
      go_wp2_with fail
      refine hK.out _ _ (by exact trivial) ?_
      clear hK K
      intro hHeld2
      clear hHeld
      have hHeld := hHeld2
      clear hHeld2
      try simp only [Act.put, List.setIfInBounds_toArray, List.set_cons_zero, List.set_cons_succ]
      refine run_at (i := 11) rfl (by kernel_rfl) (by rfl) (fun K hK => ?_)
      simp only [List.getElem_toArray, List.getElem_cons_zero, List.getElem_cons_succ]
      go_simp
      first | (go_at_call 35; refine Calls.mono HRE.out ?_; rintro e w5 ⟨rfl, hix, hch⟩; have HIX : Hid _ := hix; have HCH : Hid _ := hch; clear hix hch) | (go_at_call 36; refine Calls.mono (HCA.out _ (by first | exact al (Below.refl _ _).drew _ | exact (al (Below.refl _ _) _).drew) (by exact heap_alloc_new w3 _)) ?_; rintro e w4 ⟨v4, rfl, hown4, hb4⟩; have HB4 : Hid (Below w3.heap.size w3 w4) := (by first | exact below_next (al (Below.refl _ _).drew _) hb4 | exact below_next (al (Below.refl _ _) _).drew hb4); obtain ⟨a4, c4, e4, hc4, hn4, hr4⟩ := OwnE.val hown4; rw [← HL.out] at e4 hc4; subst e4; have HRE : Hid _ := replace_s (HI3.out.below HB4.out) p' hp a4 L c4 _ HL.out hr4 hc4 hn4 HFI.out hS.2; clear hown4 hb4 hc4 hn4 hr4)
      go_wp2_with fail
      refine hK.out _ _ (by exact trivial) ?_
      clear hK K
      intro hHeld2
      clear hHeld
      have hHeld := hHeld2
      clear hHeld2
      try simp only [Act.put, List.setIfInBounds_toArray, List.set_cons_zero, List.set_cons_succ]
      refine wpAnyH_done (by kernel_rfl) ?_ _
      refine NoPanic.normal ?_
      go_wp2
      go_ret
      exact ⟨rfl, HIX.out, ((Chg.of_below HB3.out).trans (Chg.of_below (F := foot g v) HB4.out) (fun i hi => .inl hi)).trans HCH.out (fun i hi => .inl hi)⟩
    · have HCA : Hid (∀ u, Below w3.heap.size w3 u → u.heap[w3.heap.size]? = some (.cells #[.slice (some ⟨b4, o4, none⟩) i' c, .slice (some ⟨w2.heap.size, 0, none⟩) 1 1, .slice (some ⟨b4, o4 + bh * 3, none⟩) (K0 - bh) (c - bh)] tPg (0, 0)) → Calls Try.prog 36 #[.slice (some ⟨w3.heap.size, 0, none⟩) 3 3] u fun e u' => ∃ v', e = .returned v' ∧ OwnE u' u.heap.size v' (putL P[p'] i' true (mkE (s1, s2) n)) ∧ Below u.heap.size u u') := fun u hu hh => by
        have h9 := concatE_t w3.heap.size 0 3 [⟨some ⟨b4, o4, none⟩, c, P[p'].take i'⟩, ⟨some ⟨w2.heap.size, 0, none⟩, 1, [mkE (s1, s2) n]⟩, ⟨some ⟨b4, o4 + bh * 3, none⟩, (c - bh), P[p'].drop bh⟩] u (by simp) (fun j hj => by
          match j, hj with
          | 0, _ => exact ⟨by rw [cell_of_row _ _ _ _ _ _ hh]; simp [PartE.v, List.length_take]; rw [← HK0.out]; omega, (HR3.out.below hu).take _, fun h => by cases h⟩
          | 1, _ => exact ⟨by rw [cell_of_row _ _ _ _ _ _ hh]; rfl, HE3.out.below hu, fun h => by cases h⟩
          | 2, _ => exact ⟨by rw [cell_of_row _ _ _ _ _ _ hh]; simp [PartE.v, List.length_drop, HK0.out], (HR3.out.below hu).drop _, fun h => by cases h⟩) (by have := HK0.out; simp [catE, List.length_take, List.length_drop]; omega)
        have e9 : catE [⟨some ⟨b4, o4, none⟩, c, P[p'].take i'⟩, ⟨some ⟨w2.heap.size, 0, none⟩, 1, [mkE (s1, s2) n]⟩, ⟨some ⟨b4, o4 + bh * 3, none⟩, (c - bh), P[p'].drop bh⟩] = putL P[p'] i' true (mkE (s1, s2) n) := by rw [HBH.out]; simp [catE, putL]
        rw [e9] at h9
        exact h9
      go_wp2_with (first | (refine wpList_load_mid rfl tSt _ rfl w.heap.size 0 rfl (sc (s1, s2)) _ hl4 Try.underlying34 rfl info_st ?_))
      rw [← hw3]
      obtain ⟨L, hL⟩ : ∃ L, L = (putL P[p'] i' true (mkE (s1, s2) n)).length := ⟨_, rfl⟩
      have HL : Hid _ := hL
      have HFI : Hid (L ≤ S) := by rw [hL]; exact hfit
      clear hL hw3
      refine wp_region_noPanic ?_
      refine wp_region_held_drew (S := (fun _ => True)) (by kernel_rfl) (by exact trivial) (fun hHeld => ?_)
      refine take_at (i := 0) 60 (v := ?_) rfl rfl (by kernel_rfl) (by kernel_rfl) (by kernel_rfl) (fun _ _ _ h => h) (by rfl) ?_ hHeld ?_
      rotate_left
      · (intro w hSw; (try dsimp only at hSw); go_simp; try with_reducible rfl)
      simp only [Act.put, List.setIfInBounds_toArray, List.set_cons_zero, List.set_cons_succ]
      refine take_at (i := 1) 61 (v := ?_) rfl rfl (by kernel_rfl) (by kernel_rfl) (by kernel_rfl) (fun _ _ _ h => h) (by rfl) ?_ hHeld ?_
      rotate_left
      · (intro w hSw; (try dsimp only at hSw); go_simp; try with_reducible rfl)
      simp only [Act.put, List.setIfInBounds_toArray, List.set_cons_zero, List.set_cons_succ]
      refine take_at (i := 2) 62 (v := ?_) rfl rfl (by kernel_rfl) (by kernel_rfl) (by kernel_rfl) (fun _ _ _ h => h) (by rfl) ?_ hHeld ?_
      rotate_left
      · (intro w hSw; (try dsimp only at hSw); go_simp; try with_reducible rfl)
      simp only [Act.put, List.setIfInBounds_toArray, List.set_cons_zero, List.set_cons_succ]
      refine take_at (i := 3) 63 (v := ?_) rfl rfl (by kernel_rfl) (by kernel_rfl) (by kernel_rfl) (fun _ _ _ h => h) (by rfl) ?_ hHeld ?_
      rotate_left
      · (intro w hSw; (try dsimp only at hSw); go_simp; try with_reducible rfl)
      simp only [Act.put, List.setIfInBounds_toArray, List.set_cons_zero, List.set_cons_succ]
      refine take_at (i := 4) 64 (v := ?_) rfl rfl (by kernel_rfl) (by kernel_rfl) (by kernel_rfl) (fun _ _ _ h => h) (by rfl) ?_ hHeld ?_
      rotate_left
      · (intro w hSw; (try dsimp only at hSw); go_simp; try with_reducible rfl)
      simp only [Act.put, List.setIfInBounds_toArray, List.set_cons_zero, List.set_cons_succ]
      refine take_at (i := 5) 65 (v := ?_) rfl rfl (by kernel_rfl) (by kernel_rfl) (by kernel_rfl) (fun _ _ _ h => h) (by rfl) ?_ hHeld ?_
      rotate_left
      · (intro w hSw; (try dsimp only at hSw); go_simp; try with_reducible rfl)
      simp only [Act.put, List.setIfInBounds_toArray, List.set_cons_zero, List.set_cons_succ]
      refine take_at (i := 6) 66 (v := ?_) rfl rfl (by kernel_rfl) (by kernel_rfl) (by kernel_rfl) (fun _ _ _ h => h) (by rfl) ?_ hHeld ?_
      rotate_left
      · (intro w hSw; (try dsimp only at hSw); go_simp; try with_reducible rfl)
      simp only [Act.put, List.setIfInBounds_toArray, List.set_cons_zero, List.set_cons_succ]
      refine take_at (i := 7) 67 (v := ?_) rfl rfl (by kernel_rfl) (by kernel_rfl) (by kernel_rfl) (fun _ _ _ h => h) (by rfl) ?_ hHeld ?_
      rotate_left
      · (intro w hSw; (try dsimp only at hSw); go_simp; try with_reducible rfl)
      simp only [Act.put, List.setIfInBounds_toArray, List.set_cons_zero, List.set_cons_succ]
      refine take_at (i := 8) 68 (v := ?_) rfl rfl (by kernel_rfl) (by kernel_rfl) (by kernel_rfl) (fun _ _ _ h => h) (by rfl) ?_ hHeld ?_
      rotate_left
      · (intro w hSw; (try dsimp only at hSw); go_simp; try with_reducible rfl)
      simp only [Act.put, List.setIfInBounds_toArray, List.set_cons_zero, List.set_cons_succ]
      refine run_at (i := 9) rfl (by kernel_rfl) (by rfl) (fun K hK => ?_)
      simp only [List.getElem_toArray, List.getElem_cons_zero, List.getElem_cons_succ]
      go_simp
      go_wp2_with fail
      refine hK.out _ _ (by exact trivial) ?_
      clear hK K
      intro hHeld2
      clear hHeld
      have hHeld := hHeld2
      clear hHeld2
      try simp only [Act.put, List.setIfInBounds_toArray, List.set_cons_zero, List.set_cons_succ]
      refine run_at (i := 10) rfl (by kernel_rfl) (by rfl) (fun K hK => ?_)
      simp only [List.getElem_toArray, List.getElem_cons_zero, List.getElem_cons_succ]
      go_simp
      first | (go_at_call 35; refine Calls.mono HRE.out ?_; rintro e w5 ⟨rfl, hix, hch⟩; have HIX : Hid _ := hix; have HCH : Hid _ := hch; clear hix hch) | (go_at_call 36; refine Calls.mono (HCA.out _ (by first | exact al (Below.refl _ _).drew _ | exact (al (Below.refl _ _) _).drew) (by exact heap_alloc_new w3 _)) ?_; rintro e w4 ⟨v4, rfl, hown4, hb4⟩; have HB4 : Hid (Below w3.heap.size w3 w4) := (by first | exact below_next (al (Below.refl _ _).drew _) hb4 | exact below_next (al (Below.refl _ _) _).drew hb4); obtain ⟨a4, c4, e4, hc4, hn4, hr4⟩ := OwnE.val hown4; rw [← HL.out] at e4 hc4; subst e4; have HRE : Hid _ := replace_s (HI3.out.below HB4.out) p' hp a4 L c4 _ HL.out hr4 hc4 hn4 HFI.out hS.2; clear hown4 hb4 hc4 hn4 hr4)
      go_wp2_with fail
      refine hK.out _ _ (by exact trivial) ?_
      clear hK K
      intro hHeld2
      clear hHeld
      have hHeld := hHeld2
      clear hHeld2
      try simp only [Act.put, List.setIfInBounds_toArray, List.set_cons_zero, List.set_cons_succ]
      refine run_at (i := 11) rfl (by kernel_rfl) (by rfl) (fun K hK => ?_)
      simp only [List.getElem_toArray, List.getElem_cons_zero, List.getElem_cons_succ]
      go_simp
      first | (go_at_call 35; refine Calls.mono HRE.out ?_; rintro e w5 ⟨rfl, hix, hch⟩; have HIX : Hid _ := hix; have HCH : Hid _ := hch; clear hix hch) | (go_at_call 36; refine Calls.mono (HCA.out _ (by first | exact al (Below.refl _ _).drew _ | exact (al (Below.refl _ _) _).drew) (by exact heap_alloc_new w3 _)) ?_; rintro e w4 ⟨v4, rfl, hown4, hb4⟩; have HB4 : Hid (Below w3.heap.size w3 w4) := (by first | exact below_next (al (Below.refl _ _).drew _) hb4 | exact below_next (al (Below.refl _ _) _).drew hb4); obtain ⟨a4, c4, e4, hc4, hn4, hr4⟩ := OwnE.val hown4; rw [← HL.out] at e4 hc4; subst e4; have HRE : Hid _ := replace_s (HI3.out.below HB4.out) p' hp a4 L c4 _ HL.out hr4 hc4 hn4 HFI.out hS.2; clear hown4 hb4 hc4 hn4 hr4)
      go_wp2_with fail
      refine hK.out _ _ (by exact trivial) ?_
      clear hK K
      intro hHeld2
      clear hHeld
      have hHeld := hHeld2
      clear hHeld2
      try simp only [Act.put, List.setIfInBounds_toArray, List.set_cons_zero, List.set_cons_succ]
      refine wpAnyH_done (by kernel_rfl) ?_ _
      refine NoPanic.normal ?_
      go_wp2
      go_ret
      exact ⟨rfl, HIX.out, ((Chg.of_below HB3.out).trans (Chg.of_below (F := foot g v) HB4.out) (fun i hi => .inl hi)).trans HCH.out (fun i hi => .inl hi)⟩
end
end Go.Proofs.Ytnhjkipaclchiaa
namespace Go.Proofs.Ytnhjkipaclchiaa
set_option linter.unusedVariables false
set_option linter.unusedSimpArgs false
open Go.RowKit
/-- a row with other places in the place of those from i to j - 1 -/
def repL {α : Type} (l : List α) (i j : Nat) (new : List α) : List α := l.take i ++ new ++ l.drop j
theorem repL_len {α : Type} {l : List α} {i j : Nat} {new : List α} (hi : i ≤ l.length) : (repL l i j new).length = i + new.length + (l.length - j) := by
  unfold repL
  rw [List.length_append, List.length_append, List.length_take, List.length_drop]
  omega
theorem repL_set {α : Type} {l : List α} {i : Nat} {x : α} (hi : i < l.length) : l.set i x = repL l i (i + 1) [x] := by
  unfold repL
  rw [List.set_eq_take_append_cons_drop, if_pos hi]
  simp
theorem repL_mem {α : Type} {l : List α} {i j : Nat} {new : List α} {x : α} (h : x ∈ repL l i j new) : x ∈ l ∨ x ∈ new := by
  unfold repL at h
  simp only [List.mem_append] at h
  rcases h with (h | h) | h
  · exact .inl (List.mem_of_mem_take h)
  · exact .inr h
  · exact .inl (List.mem_of_mem_drop h)
theorem repL_flat {α : Type} (l : List (List α)) (i j : Nat) (new : List (List α)) : (repL l i j new).flatten = (l.take i).flatten ++ new.flatten ++ (l.drop j).flatten := by
  unfold repL
  rw [List.flatten_append, List.flatten_append]
theorem flat_cut {α : Type} (l : List (List α)) (i : Nat) (hi : i < l.length) : l.flatten = (l.take i).flatten ++ l[i] ++ (l.drop (i + 1)).flatten := by
  conv => lhs; rw [← List.take_append_drop i l, List.drop_eq_getElem_cons hi, List.flatten_append, List.flatten_cons, ← List.append_assoc]
/-- a row cut at a stamp -/
structure CutAt (L : List Ent) (s : St) (X M Y : List Ent) : Prop where
  eq : L = X ++ M ++ Y
  lo : ∀ x ∈ X, ltS x.st s = true
  mid : ∀ x ∈ M, x.st = s
  hi : ∀ x ∈ Y, ltS s x.st = true
def insL (L : List Ent) (e : Ent) : List Ent := L.filter (fun x => ltS x.st e.st) ++ [e] ++ L.filter (fun x => ltS e.st x.st)
def delL (L : List Ent) (s : St) : List Ent := L.filter (fun x => !decide (x.st = s))
theorem ltS_asymm {a b : St} (h : ltS a b = true) : ltS b a = false := by
  cases h9 : ltS b a
  · rfl
  · have := ltS_trans h h9
    rw [ltS_irrefl] at this; cases this
theorem ltS_ne {a b : St} (h : ltS a b = true) : a ≠ b := fun e => by subst e; rw [ltS_irrefl] at h; cases h
theorem ltS_ge {a b : St} (h : ltS a b = false) (hn : a ≠ b) : ltS b a = true := by
  cases h9 : ltS b a
  · exact absurd (ltS_tri h h9) hn
  · rfl
theorem filt_all {p : Ent → Bool} {l : List Ent} (h : ∀ x ∈ l, p x = true) : l.filter p = l := List.filter_eq_self.2 h
theorem filt_no {p : Ent → Bool} {l : List Ent} (h : ∀ x ∈ l, p x = false) : l.filter p = [] := List.filter_eq_nil_iff.2 fun x hx => by rw [h x hx]; simp
variable {L X M Y : List Ent} {s : St}
theorem CutAt.below (h : CutAt L s X M Y) : L.filter (fun x => ltS x.st s) = X := by
  rw [h.eq, List.filter_append, List.filter_append, filt_all h.lo, filt_no (fun x hx => by rw [h.mid x hx]; exact ltS_irrefl _), filt_no (fun x hx => ltS_asymm (h.hi x hx))]
  simp
theorem CutAt.above (h : CutAt L s X M Y) : L.filter (fun x => ltS s x.st) = Y := by
  rw [h.eq, List.filter_append, List.filter_append, filt_no (fun x hx => ltS_asymm (h.lo x hx)), filt_no (fun x hx => by rw [h.mid x hx]; exact ltS_irrefl _), filt_all h.hi]
  simp
theorem CutAt.ins {e : Ent} (h : CutAt L e.st X M Y) : insL L e = X ++ [e] ++ Y := by
  unfold insL
  rw [h.below, h.above]
theorem CutAt.del (h : CutAt L s X M Y) : delL L s = X ++ Y := by
  unfold delL
  rw [h.eq, List.filter_append, List.filter_append, filt_all (fun x hx => by simpa using ltS_ne (h.lo x hx)), filt_no (fun x hx => by simpa using h.mid x hx), filt_all (fun x hx => by simpa using (ltS_ne (h.hi x hx)).symm)]
  simp
abbrev Ord (L : List Ent) : Prop := L.Pairwise fun a b => ltS a.st b.st = true
theorem Ord.del (h : Ord L) (s : St) : Ord (delL L s) := List.Pairwise.filter _ h
theorem Ord.ins (h : Ord L) (e : Ent) : Ord (insL L e) := by
  unfold insL
  refine List.pairwise_append.2 ⟨List.pairwise_append.2 ⟨List.Pairwise.filter _ h, List.pairwise_singleton _ _, ?_⟩, List.Pairwise.filter _ h, ?_⟩
  · intro a ha b hb
    obtain rfl : b = e := by simpa using hb
    simpa using (List.mem_filter.1 ha).2
  · intro a ha b hb
    have hb2 : ltS e.st b.st = true := by simpa using (List.mem_filter.1 hb).2
    rcases List.mem_append.1 ha with ha | ha
    · have ha2 : ltS a.st e.st = true := by simpa using (List.mem_filter.1 ha).2
      exact ltS_trans ha2 hb2
    · obtain rfl : a = e := by simpa using ha
      exact hb2
/-- where a stamp stands in the whole row -/
theorem PlaceIs.cut {P : List (List Ent)} {s : St} {p i : Nat} {ok : Bool} (h : PlaceIs P s p i ok) (hsp : SP P) (hp : p < P.length) :
    i ≤ P[p].length ∧ (ok = true → i < P[p].length) ∧
    CutAt P.flatten s ((P.take p).flatten ++ P[p].take i) (if ok then (P[p].drop i).take 1 else []) (P[p].drop (if ok then i + 1 else i) ++ (P.drop (p + 1)).flatten) := by
  rcases h with ⟨h1, -⟩ | ⟨r, h1, h2, h3, h4, h5⟩
  · rw [h1] at hp; exact absurd hp (Nat.not_lt_zero _)
  have eP : P.getD p [] = P[p] := by simp [List.getD, hp]
  rw [eP] at h4 h5
  have hpg : Ord P[p] := hsp.page (List.getElem_mem hp)
  have hil : i ≤ P[p].length := h4.1
  have hok : ok = true → i < P[p].length := fun h9 => (h5.1 h9).1
  have p2 : ∀ k (hk : k < P[p].length), pr2 P[p] s k = !ltS P[p][k].st s := fun k hk => by unfold pr2; simp [List.getD, hk]
  have p1 : ∀ k (hk : k < P.length), pr1 P s k = ltS s (fst1 P[k]) := fun k hk => by unfold pr1; simp [List.getD, hk]
  refine ⟨hil, hok, ⟨?_, ?_, ?_, ?_⟩⟩
  · rw [flat_cut P p hp]
    cases ok
    · simp only [Bool.false_eq_true, if_false, List.append_nil, List.append_assoc]
      rw [← List.append_assoc (P[p].take i), List.take_append_drop]
    · simp only [if_true, List.append_assoc]
      rw [← List.append_assoc ((P[p].drop i).take 1), show P[p].drop (i + 1) = (P[p].drop i).drop 1 by rw [List.drop_drop], List.take_append_drop, ← List.append_assoc (P[p].take i), List.take_append_drop]
  · intro x hx
    rcases List.mem_append.1 hx with hx | hx
    · obtain ⟨q, hq, hxq⟩ := List.mem_flatten.1 hx
      obtain ⟨k, hk, e⟩ := List.getElem_of_mem hq
      have hk' : k < p ∧ k < P.length := by have := hk; rw [List.length_take] at this; omega
      rw [List.getElem_take] at e
      have hfr : pr1 P s p = false := h1.2.1 p (by omega)
      rw [p1 p hp] at hfr
      have h9 := (List.pairwise_iff_getElem.1 (List.pairwise_flatten.1 hsp.2).2) k p hk'.2 hp hk'.1
      have h0 : 0 < P[p].length := hsp.1 _ (List.getElem_mem hp)
      have h8 := h9 x (by rw [e]; exact hxq) P[p][0] (List.getElem_mem _)
      rw [fst1_get h0] at hfr
      exact ltS_le_trans h8 hfr
    · obtain ⟨k, hk, e⟩ := List.getElem_of_mem hx
      have hk' : k < i ∧ k < P[p].length := by have := hk; rw [List.length_take] at this; omega
      rw [List.getElem_take] at e
      have h9 := h4.2.1 k hk'.1
      rw [p2 k hk'.2, e] at h9
      simpa using h9
  · intro x hx
    cases ok
    · simp at hx
    · obtain ⟨h9, h8⟩ := h5.1 rfl
      rw [if_pos rfl, List.drop_eq_getElem_cons h9, List.take_succ_cons, List.take_zero, List.mem_singleton] at hx
      subst hx
      exact h8
  · intro x hx
    rcases List.mem_append.1 hx with hx | hx
    · obtain ⟨m, hm, e⟩ := List.getElem_of_mem hx
      rw [List.getElem_drop] at e
      rw [List.length_drop] at hm
      cases ok
      · simp only [Bool.false_eq_true, if_false] at e hm
        have h9 := h4.2.2 (i + m) (by omega) (by omega)
        rw [p2 (i + m) (by omega), e] at h9
        have h8 : ltS x.st s = false := by simpa using h9
        refine ltS_ge h8 fun e9 => ?_
        by_cases hm0 : m = 0
        · subst hm0
          have h7 := h5.2 ⟨by omega, by simpa using (congrArg Ent.st e).trans e9⟩
          cases h7
        · have h7 := (List.pairwise_iff_getElem.1 hpg) i (i + m) (by omega) (by omega) (by omega)
          have h6 := h4.2.2 i (Nat.le_refl _) (by omega)
          rw [p2 i (by omega)] at h6
          rw [e, e9] at h7
          rw [h7] at h6
          cases h6
      · simp only [if_true] at e hm
        obtain ⟨h9, h8⟩ := h5.1 rfl
        have h7 := (List.pairwise_iff_getElem.1 hpg) i (i + 1 + m) (by omega) (by omega) (by omega)
        rw [h8, e] at h7
        exact h7
    · obtain ⟨q, hq, hxq⟩ := List.mem_flatten.1 hx
      obtain ⟨m, hm, e⟩ := List.getElem_of_mem hq
      rw [List.length_drop] at hm
      rw [List.getElem_drop] at e
      have hk : p + 1 + m < P.length := by omega
      have h9 := h1.2.2 (p + 1 + m) (by omega) hk
      rw [p1 _ hk] at h9
      have h0 : 0 < P[p + 1 + m].length := hsp.1 _ (List.getElem_mem hk)
      rw [fst1_get h0] at h9
      obtain ⟨t, ht, e2⟩ := List.getElem_of_mem hxq
      subst e
      by_cases ht0 : t = 0
      · subst ht0
        rw [← e2]; exact h9
      · have h8 := (List.pairwise_iff_getElem.1 (hsp.page (List.getElem_mem hk))) 0 t h0 ht (by omega)
        rw [e2] at h8
        exact ltS_trans h9 h8
/-- the pages behind a Put -/
def putP (S : Nat) (P : List (List Ent)) (p i : Nat) (ok : Bool) (e : Ent) : List (List Ent) :=
  if (putL (P.getD p []) i ok e).length ≤ S then repL P p (p + 1) [putL (P.getD p []) i ok e]
  else repL P p (p + 1) [(putL (P.getD p []) i ok e).take ((S + 1) / 2), (putL (P.getD p []) i ok e).drop ((S + 1) / 2)]
theorem putP_nil (S : Nat) (hS : 1 ≤ S) (e : Ent) : putP S [] 0 0 false e = [[e]] := by
  unfold putP putL repL
  simp [hS]
theorem putL_len {xs : List Ent} {i : Nat} {ok : Bool} {e : Ent} (h : i ≤ xs.length) (hok : ok = true → i < xs.length) : (putL xs i ok e).length = if ok then xs.length else xs.length + 1 := by
  unfold putL
  rw [List.length_append, List.length_append, List.length_take, List.length_drop]
  cases ok
  · simp; omega
  · have := hok rfl
    simp; omega
/-- what every index keeps: its pages in order, none empty or above the size -/
def Tid (S : Nat) (P : List (List Ent)) : Prop := SP P ∧ ∀ p ∈ P, p.length ≤ S
theorem PlaceIs.lt {P : List (List Ent)} {s : St} {p i : Nat} {ok : Bool} (h : PlaceIs P s p i ok) (hne : P ≠ []) : p < P.length := by
  rcases h with ⟨h1, -⟩ | ⟨r, -, -, h3, -⟩
  · exact absurd h1 hne
  · exact h3
theorem PlaceIs.nil {P : List (List Ent)} {s : St} {p i : Nat} {ok : Bool} (h : PlaceIs P s p i ok) (hne : P = []) : p = 0 ∧ i = 0 ∧ ok = false := by
  rcases h with ⟨h1, h2⟩ | ⟨r, -, -, h3, -⟩
  · exact h2
  · rw [hne] at h3; exact absurd h3 (Nat.not_lt_zero _)
theorem putP_flat {S : Nat} {P : List (List Ent)} {p i : Nat} {ok : Bool} {e : Ent} (h : PlaceIs P e.st p i ok) (hsp : SP P) (hS : 1 ≤ S) : (putP S P p i ok e).flatten = insL P.flatten e := by
  by_cases hne : P = []
  · obtain ⟨rfl, rfl, rfl⟩ := h.nil hne
    subst hne
    rw [putP_nil S hS]
    simp [insL]
  · have hp := h.lt hne
    obtain ⟨h1, h2, h3⟩ := h.cut hsp hp
    have eP : P.getD p [] = P[p] := by simp [List.getD, hp]
    rw [h3.ins]
    unfold putP
    rw [eP]
    split
    · rw [repL_flat]
      simp [putL, List.append_assoc]
    · rw [repL_flat]
      simp only [List.flatten_cons, List.flatten_nil, List.append_nil, List.take_append_drop]
      simp [putL, List.append_assoc]
theorem putP_tid {S : Nat} {P : List (List Ent)} {p i : Nat} {ok : Bool} {e : Ent} (h : PlaceIs P e.st p i ok) (ht : Tid S P) (hS : 1 ≤ S) : Tid S (putP S P p i ok e) := by
  obtain ⟨hsp, hsz⟩ := ht
  refine ⟨⟨?_, ?_⟩, ?_⟩
  · intro q hq
    unfold putP at hq
    have hl : 0 < (putL (P.getD p []) i ok e).length := by unfold putL; simp; omega
    split at hq
    · rcases repL_mem hq with h9 | h9
      · exact hsp.1 q h9
      · obtain rfl := List.mem_singleton.1 h9
        exact hl
    · rename_i hgt
      rcases repL_mem hq with h9 | h9
      · exact hsp.1 q h9
      · have h8 := (List.mem_cons.1 h9).imp id List.mem_singleton.1
        rcases h8 with rfl | rfl
        · rw [List.length_take]; omega
        · rw [List.length_drop]; omega
  · rw [putP_flat h hsp hS]
    exact Ord.ins hsp.2 e
  · intro q hq
    by_cases hne : P = []
    · obtain ⟨rfl, rfl, rfl⟩ := h.nil hne
      subst hne
      rw [putP_nil S hS] at hq
      obtain rfl : q = [e] := by simpa using hq
      simpa using hS
    · have hp := h.lt hne
      obtain ⟨h1, h2, -⟩ := h.cut hsp hp
      have eP : P.getD p [] = P[p] := by simp [List.getD, hp]
      have hl := putL_len (e := e) h1 h2
      have hle := hsz _ (List.getElem_mem hp)
      unfold putP at hq
      rw [eP] at hq
      have hl2 : (putL P[p] i ok e).length ≤ S + 1 := by rw [hl]; split <;> omega
      split at hq
      · rename_i hle2
        rcases repL_mem hq with h9 | h9
        · exact hsz q h9
        · obtain rfl := List.mem_singleton.1 h9
          exact hle2
      · rcases repL_mem hq with h9 | h9
        · exact hsz q h9
        · have h8 := (List.mem_cons.1 h9).imp id List.mem_singleton.1
          rcases h8 with rfl | rfl
          · rw [List.length_take]; omega
          · rw [List.length_drop]; omega
/-- a page without an entry -/
def cutL (xs : List Ent) (i : Nat) : List Ent := xs.take i ++ xs.drop (i + 1)
/-- the pages behind a Remove -/
def remP (S : Nat) (P : List (List Ent)) (p i : Nat) : List (List Ent) :=
  if (cutL (P.getD p []) i).length = 0 then repL P p (p + 1) []
  else if p + 1 < P.length ∧ (cutL (P.getD p []) i).length + (P.getD (p + 1) []).length ≤ S / 2 then repL P p (p + 2) [cutL (P.getD p []) i ++ P.getD (p + 1) []]
  else if 0 < p ∧ (P.getD (p - 1) []).length + (cutL (P.getD p []) i).length ≤ S / 2 then repL P (p - 1) (p + 1) [P.getD (p - 1) [] ++ cutL (P.getD p []) i]
  else repL P p (p + 1) [cutL (P.getD p []) i]
theorem cutL_len {xs : List Ent} {i : Nat} (h : i < xs.length) : (cutL xs i).length + 1 = xs.length := by
  unfold cutL
  rw [List.length_append, List.length_take, List.length_drop]
  omega
theorem remP_flat {S : Nat} {P : List (List Ent)} {p i : Nat} {s : St} (h : PlaceIs P s p i true) (hsp : SP P) : (remP S P p i).flatten = delL P.flatten s := by
  have hne : P ≠ [] := fun e => by have := h.nil e; simp at this
  have hp := h.lt hne
  obtain ⟨h1, h2, h3⟩ := h.cut hsp hp
  have hi := h2 rfl
  have eP : P.getD p [] = P[p] := by simp [List.getD, hp]
  rw [h3.del]
  unfold remP
  rw [eP]
  simp only [if_true]
  split
  · rename_i h0
    rw [repL_flat]
    have h9 : P[p].take i = [] ∧ P[p].drop (i + 1) = [] := by
      have := List.eq_nil_of_length_eq_zero h0
      unfold cutL at this
      simpa using this
    rw [h9.1, h9.2]
    simp
  · split
    · rename_i h9
      have e2 : P.getD (p + 1) [] = P[p + 1] := by simp [List.getD, h9.1]
      rw [repL_flat, e2]
      have e3 : (P.drop (p + 1)).flatten = P[p + 1] ++ (P.drop (p + 2)).flatten := by rw [List.drop_eq_getElem_cons h9.1, List.flatten_cons]
      rw [e3]
      simp [cutL, List.append_assoc]
    · split
      · rename_i h9
        have hq : p - 1 < P.length := by omega
        have e2 : P.getD (p - 1) [] = P[p - 1] := by simp [List.getD, hq]
        rw [repL_flat, e2]
        have e3 : (P.take p).flatten = (P.take (p - 1)).flatten ++ P[p - 1] := by
          obtain ⟨k, rfl⟩ : ∃ k, p = k + 1 := ⟨p - 1, by omega⟩
          simp only [Nat.add_sub_cancel]
          rw [List.take_succ_eq_append_getElem (by omega), List.flatten_append, List.flatten_cons, List.flatten_nil, List.append_nil]
        rw [e3]
        simp [cutL, List.append_assoc]
      · rw [repL_flat]
        simp [cutL, List.append_assoc]
theorem remP_tid {S : Nat} {P : List (List Ent)} {p i : Nat} {s : St} (h : PlaceIs P s p i true) (ht : Tid S P) : Tid S (remP S P p i) := by
  obtain ⟨hsp, hsz⟩ := ht
  have hne : P ≠ [] := fun e => by have := h.nil e; simp at this
  have hp := h.lt hne
  obtain ⟨h1, h2, h3⟩ := h.cut hsp hp
  have hi := h2 rfl
  have eP : P.getD p [] = P[p] := by simp [List.getD, hp]
  have hcl := cutL_len hi
  have hle := hsz _ (List.getElem_mem hp)
  have key : ∀ q ∈ remP S P p i, 0 < q.length ∧ q.length ≤ S := by
    intro q hq
    unfold remP at hq
    rw [eP] at hq
    split at hq
    · rcases repL_mem hq with h9 | h9
      · exact ⟨hsp.1 q h9, hsz q h9⟩
      · simp at h9
    · split at hq
      · rename_i h0 h8
        rcases repL_mem hq with h9 | h9
        · exact ⟨hsp.1 q h9, hsz q h9⟩
        · obtain rfl := List.mem_singleton.1 h9
          rw [List.length_append]; omega
      · split at hq
        · rename_i h0 _ h8
          rcases repL_mem hq with h9 | h9
          · exact ⟨hsp.1 q h9, hsz q h9⟩
          · obtain rfl := List.mem_singleton.1 h9
            rw [List.length_append]; omega
        · rename_i h0 _ _
          rcases repL_mem hq with h9 | h9
          · exact ⟨hsp.1 q h9, hsz q h9⟩
          · obtain rfl := List.mem_singleton.1 h9
            omega
  exact ⟨⟨fun q hq => (key q hq).1, by rw [remP_flat h hsp]; exact Ord.del hsp.2 s⟩, fun q hq => (key q hq).2⟩
/-- behind Puts alone no page is below half, unless it is the only one -/
def Half (S : Nat) (P : List (List Ent)) : Prop := 1 < P.length → ∀ p ∈ P, (S + 1) / 2 ≤ p.length
theorem putP_half {S : Nat} {P : List (List Ent)} {p i : Nat} {ok : Bool} {e : Ent} (h : PlaceIs P e.st p i ok) (ht : Tid S P) (hS : 1 ≤ S) (hh : Half S P) : Half S (putP S P p i ok e) := by
  obtain ⟨hsp, hsz⟩ := ht
  by_cases hne : P = []
  · obtain ⟨rfl, rfl, rfl⟩ := h.nil hne
    subst hne
    rw [putP_nil S hS]
    intro h9; simp at h9
  · have hp := h.lt hne
    obtain ⟨h1, h2, -⟩ := h.cut hsp hp
    have eP : P.getD p [] = P[p] := by simp [List.getD, hp]
    have hl := putL_len (e := e) h1 h2
    have hlp : P[p].length ≤ (putL P[p] i ok e).length := by rw [hl]; split <;> omega
    unfold putP
    rw [eP]
    split
    · intro hn q hq
      rw [repL_len (by omega)] at hn
      have hn2 : 1 < P.length := by simp at hn; omega
      rcases repL_mem hq with h9 | h9
      · exact hh hn2 q h9
      · obtain rfl := List.mem_singleton.1 h9
        exact Nat.le_trans (hh hn2 _ (List.getElem_mem hp)) hlp
    · rename_i hgt
      have hle := hsz _ (List.getElem_mem hp)
      have hl3 : (putL P[p] i ok e).length = S + 1 := by
        rw [hl] at hgt ⊢
        by_cases hb : ok = true
        · rw [if_pos hb] at hgt; omega
        · rw [if_neg hb] at hgt ⊢; omega
      intro hn q hq
      by_cases hn1 : 1 < P.length
      · rcases repL_mem hq with h9 | h9
        · exact hh hn1 q h9
        · have h8 := (List.mem_cons.1 h9).imp id List.mem_singleton.1
          rcases h8 with rfl | rfl
          · rw [List.length_take]; omega
          · rw [List.length_drop]; omega
      · have hp0 : p = 0 := by omega
        have hP1 : P.length = 1 := by omega
        subst hp0
        unfold repL at hq
        rw [show P.drop (0 + 1) = [] from List.drop_eq_nil_of_le (by omega)] at hq
        rw [List.take_zero, List.nil_append, List.append_nil] at hq
        rcases List.mem_cons.1 hq with rfl | hq
        · rw [List.length_take]; omega
        · obtain rfl := List.mem_singleton.1 hq
          rw [List.length_drop]; omega
end Go.Proofs.Ytnhjkipaclchiaa
namespace Go.Proofs.Ytnhjkipaclchiaa
set_option linter.unusedVariables false
set_option linter.unusedSimpArgs false
open Go.RowKit
section
set_option maxRecDepth 20000
theorem num_t (e : Int) (w : World) : Calls Try.prog 10 #[.int .i64 e] w fun er w' => er = .returned (.int .i64 e) ∧ w' = w := by
  go_enter Try.func10, Try.ntmps10
  go_wp2
  go_ret
  exact ⟨rfl, rfl⟩
theorem newU_t (S : Nat) (hS : 4 ≤ S ∧ S ≤ 64) (w : World) : Calls Try.prog 12 #[.int .i64 (S : Int)] w fun er w' => er = .returned (.tuple #[.pointer (some ⟨w.heap.size, 0, none⟩), .int .i64 0]) ∧ IdxAt w' w.heap.size S [] (.slice none 0 0) [] ∧ Below w.heap.size w w' := by
  have h1 : ¬ (S : Int) < 4 := by omega
  have h2 : ¬ (64 : Int) < (S : Int) := by omega
  have h3 : (S : Int) ≤ 64 := by omega
  go_enter Try.func12, Try.ntmps12
  go_wp2
  refine bodyPost_ret (results_tmp2 rfl _ _ _) rfl ?_
  exact ⟨rfl, ⟨heap_alloc_new w _, World.ownsRow_nil _ _ _ _, fun j hj => absurd hj (Nat.not_lt_zero _)⟩, al (Below.refl _ _) _⟩
theorem newS_ok (S : Nat) (hS : 4 ≤ S ∧ S ≤ 64) (w : World) : Calls Try.prog 9 #[.int .i64 (S : Int)] w fun er w' => er = .returned (.tuple #[.pointer (some ⟨w.heap.size, 0, none⟩), .int .i64 0]) ∧ Below w.heap.size w w' := by
  have h1 : ¬ (S : Int) < 4 := by omega
  have h2 : ¬ (64 : Int) < (S : Int) := by omega
  have h3 : (S : Int) ≤ 64 := by omega
  go_enter Try.func9, Try.ntmps9
  go_wp2
  refine bodyPost_ret (results_tmp2 rfl _ _ _) rfl ?_
  exact ⟨rfl, al (Below.refl _ _) _⟩
theorem newS_no (S : Nat) (hS : S < 4 ∨ 64 < S) (w : World) : Calls Try.prog 9 #[.int .i64 (S : Int)] w fun er w' => er = .returned (.tuple #[.pointer none, .int .i64 1]) ∧ w' = w := by
  by_cases h1 : (S : Int) < 4
  · go_enter Try.func9, Try.ntmps9
    go_wp2
    refine bodyPost_ret (results_tmp2 rfl _ _ _) rfl ?_
    exact ⟨rfl, rfl⟩
  · have h2 : (64 : Int) < (S : Int) := by omega
    go_enter Try.func9, Try.ntmps9
    go_wp2
    refine bodyPost_ret (results_tmp2 rfl _ _ _) rfl ?_
    exact ⟨rfl, rfl⟩
theorem up_t (x : Value) (h1 : x.oneCell' = true) (g : Option Addr) (hx : x = .pointer g) (s1 s2 : Nat) (w : World) : Calls Try.prog 28 #[x, sv (s1, s2)] w fun er w' => er = .returned (.func (.func 52) #[] #[.pointer (some ⟨w.heap.size, 0, none⟩), .pointer (some ⟨w.heap.size + 1, 0, none⟩)]) ∧ w' = (w.alloc (.cells #[x] 29)).alloc (.cells #[.int .u64 (s1 : Int), .int .u64 (s2 : Int)] tSt) := by
  subst hx
  go_enter Try.func28, Try.ntmps28
  go_wp2
  go_ret
  exact ⟨rfl, rfl⟩
theorem down_t (x : Value) (h1 : x.oneCell' = true) (g : Option Addr) (hx : x = .pointer g) (s1 s2 : Nat) (w : World) : Calls Try.prog 29 #[x, sv (s1, s2)] w fun er w' => er = .returned (.func (.func 56) #[] #[.pointer (some ⟨w.heap.size, 0, none⟩), .pointer (some ⟨w.heap.size + 1, 0, none⟩)]) ∧ w' = (w.alloc (.cells #[x] 29)).alloc (.cells #[.int .u64 (s1 : Int), .int .u64 (s2 : Int)] tSt) := by
  subst hx
  go_enter Try.func29, Try.ntmps29
  go_wp2
  go_ret
  exact ⟨rfl, rfl⟩
theorem sum_take {P : List (List Ent)} {k : Nat} (h : k < P.length) : (P.take (k + 1)).flatten.length = (P.take k).flatten.length + P[k].length := by
  rw [List.take_succ_eq_append_getElem h, List.flatten_append, List.length_append]; simp
theorem sum_le {P : List (List Ent)} (hlp : ∀ p ∈ P, p.length ≤ 100) : ∀ k, (P.take k).flatten.length ≤ 100 * k := fun k => by
  induction k with
  | zero => simp
  | succ k ih =>
    by_cases h : k < P.length
    · rw [sum_take h]
      have := hlp _ (List.getElem_mem h)
      omega
    · rw [List.take_of_length_le (by omega)] at ih ⊢
      omega
theorem len_t (x : Value) (pa : Option Addr) (n cap : Nat) (P : List (List Ent)) (w : World) (hx : PgV w x pa n cap) (hn : n = P.length) (hp : RdP w pa P) (hl : n ≤ 4398046511104) (hlp : ∀ p ∈ P, p.length ≤ 100) :
    Calls Try.prog 23 #[x] w fun e w' => e = .returned (.int .i64 (P.flatten.length : Int)) ∧ w' = w := by
  have HA : Hid _ := all_t x pa n cap w hx
  obtain ⟨TL, hTL⟩ : ∃ TL, TL = P.flatten.length := ⟨_, rfl⟩
  rw [← hTL]
  have HTL : Hid (TL = (P.take n).flatten.length) := (show TL = (P.take n).flatten.length by rw [hTL, hn, List.take_length])
  have HN : Hid (n = P.length) := hn
  have HLP : Hid _ := sum_le hlp
  have HL1 : Hid _ := hlp
  clear hx hn hlp hTL
  go_enter Try.func23, Try.ntmps23
  go_wp2_with fail
  refine Calls.mono HA.out ?_
  rintro e z ⟨rfl, hz⟩
  have hz := hz.symm
  subst hz
  go_wp2
  go_loop [3, 9] (fun s i => ∃ k : Nat, k ≤ n ∧ i = .int .i64 (k : Int) ∧ s = .int .i64 ((P.take k).flatten.length : Nat)) (fun _ i => n - (intOf i).toNat)
  case atStart => exact ⟨0, Nat.zero_le _, rfl, rfl⟩
  case round =>
    obtain ⟨k, hk, rfl, rfl⟩ := hrel
    by_cases hlt : k < n
    · have hkP : k < P.length := by have := HN.out; omega
      obtain ⟨b, o, rfl, a, c, hcp, hkc, hnc, -⟩ := hp k hkP
      obtain ⟨K0, hK0⟩ : ∃ K0, K0 = P[k].length := ⟨_, rfl⟩
      rw [← hK0] at hcp
      obtain ⟨T0, hT0⟩ : ∃ T0, T0 = (P.take k).flatten.length := ⟨_, rfl⟩
      rw [← hT0]
      have HS : Hid ((P.take (k + 1)).flatten.length = T0 + K0) := (show (P.take (k + 1)).flatten.length = T0 + K0 by rw [sum_take hkP, hT0, hK0])
      have hb1 : T0 + K0 ≤ 439804651110400 := by have h9 := HLP.out (k + 1); have h8 := HS.out; omega
      have hki : (k : Int) < (n : Int) := by omega
      have hk0 : (0 : Int) ≤ (k : Int) := by omega
      clear hp hK0 hT0
      go_wp2
      go_round
      case rel => exact ⟨k + 1, by omega, by go_num, by rw [HS.out]; go_num⟩
      case measure => simp [intOf]; omega
    · obtain rfl : k = n := by omega
      rw [← HTL.out]
      clear hp
      go_wp2
      go_ret
      exact ⟨rfl, rfl⟩
end
end Go.Proofs.Ytnhjkipaclchiaa
