import Derived.Test.YtibolgpaolnheaaQT
import Derived.Test.YtibolgpaolnheaaZQR
namespace Go.Proofs.Ytibolgpaolnheaa.Str
set_option linter.unusedVariables false
set_option linter.unusedSimpArgs false
open Go.RowKit
theorem RdE.take {w : World} {a : Option Addr} {xs : List Ent} (h : RdE w a xs) (k : Nat) : RdE w a (xs.take k) := fun j hj => by
  have h1 : j < xs.length := by have := hj; rw [List.length_take] at this; omega
  obtain ⟨b, o, h2, h3, h4⟩ := h j h1
  exact ⟨b, o, h2, by rw [List.getElem_take]; exact h3, h4⟩
theorem RdE.drop {w : World} {b o : Nat} {xs : List Ent} (h : RdE w (some ⟨b, o, none⟩) xs) (k : Nat) : RdE w (some ⟨b, o + k * 3, none⟩) (xs.drop k) := fun j hj => by
  have h1 : k + j < xs.length := by have := hj; rw [List.length_drop] at this; omega
  obtain ⟨b', o', h2, h3, h4⟩ := h (k + j) h1
  cases h2
  refine ⟨b, o + k * 3, rfl, ?_, h4⟩
  rw [List.getElem_drop, show o + k * 3 + j * 3 = o + (k + j) * 3 by omega]
  exact h3
theorem rdE_one {w : World} {N : Nat} (s1 s2 n : Nat) (h : w.heap[N]? = some (.cells #[.int .u64 (s1 : Int), .int .u64 (s2 : Int), .string ⟨#[UInt8.ofNat n]⟩] tEn (0, 0))) : RdE w (some ⟨N, 0, none⟩) [mkE (s1, s2) n] := fun j hj => by
  have : j = 0 := by simpa using hj
  subst this
  exact ⟨N, 0, rfl, by rw [Nat.zero_mul, Nat.add_zero]; exact box_range h, _, _, h⟩
section
set_option maxRecDepth 20000
variable {w w' : World} {g S : Nat} {P : List (List Ent)} {v : Value} {vs : List Value}
set_option maxHeartbeats 3200000 in
theorem put_in (h : IdxAt w g S P v vs) (hsp : SP P) (hS : 1 ≤ S ∧ S ≤ 64) (hPl : P.length ≤ 4398046511104) (hlp : ∀ p ∈ P, p.length ≤ 100) (s1 s2 n : Nat) (p i : Nat) (ok : Bool) (hpl : PlaceIs P (s1, s2) p i ok) (hp : p < P.length) (hfit : (putL P[p] i ok (mkE (s1, s2) n)).length ≤ S) :
    Calls Try.prog 14 #[.pointer (some ⟨g, 0, none⟩), sv (s1, s2), .string ⟨#[UInt8.ofNat n]⟩] w fun e w' => e = .returned (.bool (!ok)) ∧ (∃ vs', IdxAt w' g S (P.set p (putL P[p] i ok (mkE (s1, s2) n))) v vs') ∧ Chg (foot g v) w w' := by
  obtain ⟨w1, hw1⟩ : ∃ X : World, X = w.alloc (.cells #[.int .u64 (s1 : Int), .int .u64 (s2 : Int)] tSt) := ⟨_, rfl⟩
  have hb1 : Below w.heap.size w w1 := by rw [hw1]; exact al (Below.refl _ _) _
  have h1 := h.below hb1
  have HI1 : Hid (IdxAt w1 g S P v vs) := h1
  obtain ⟨pa, cap, hv, hcap, hnil, hrd, hpg⟩ := h1.rd
  have HPL : Hid _ := place_t (.pointer (some ⟨g, 0, none⟩)) pa P.length cap P (s1, s2) w1 hpg rfl hrd hsp hPl hlp
  have hcg0 : w.cell? ⟨g, 0, none⟩ = some (.int .i64 (S : Int)) := by rw [cell_of_row _ _ _ _ _ _ h.hd]; rfl
  have hgl : g < w.heap.size := (Array.getElem?_eq_some_iff.1 h.hd).1
  have hl3 : w1.rangeAt w.heap.size 0 (sc (s1, s2)) := by rw [hw1]; exact box_range (heap_alloc_new w _)
  have hSi : ¬ (S : Int) = 0 := by omega
  have hSb : ((S : Int) == 0) = false := by simpa using hSi
  have HB1 : Hid (Below w.heap.size w w1) := hb1
  have HP : Hid (PlaceIs P (s1, s2) p i ok) := hpl
  clear h1 hb1 hrd hpg hcap hnil h hpl
  go_enter Try.func14, Try.ntmps14
  go_wp2_with fail
  rw [← hw1]
  refine Calls.mono HPL.out ?_
  rintro e w2 ⟨p', i', ok', rfl, hpl', hb2⟩
  obtain ⟨e1, e2, e3⟩ := hpl'.uniq HP.out
  subst e1 e2 e3
  have HI2 : Hid (IdxAt w2 g S P v vs) := HI1.out.below hb2
  have HB2 : Hid (Below w.heap.size w w2) := below_next HB1.out hb2
  have hl4 : w2.rangeAt w.heap.size 0 (sc (s1, s2)) := rangeAt_below hl3 hb2
  obtain ⟨pa, cap, hv, hcap, hnil, hrd, -⟩ := HI2.out.rd
  obtain ⟨b, o, rfl, a, c, hcp, hkc, hnc, hr⟩ := hrd p' hp
  have hcg1 : w2.cell? ⟨g, 1, none⟩ = some v := by rw [cell_of_row _ _ _ _ _ _ HI2.out.hd]; rfl
  obtain ⟨NP, hNP⟩ : ∃ N, N = P.length := ⟨_, rfl⟩
  rw [hv, ← hNP] at hcg1
  obtain ⟨K0, hK0⟩ : ∃ N, N = P[p'].length := ⟨_, rfl⟩
  rw [← hK0] at hcp hkc
  have hgl2 : g < w2.heap.size := (Array.getElem?_eq_some_iff.1 HI2.out.hd).1
  have hbl2 : b < w2.heap.size := World.block_lt_of_cell? w2 _ hcp
  have hwl2 : w.heap.size < w2.heap.size := World.block_lt_of_cell? w2 _ (by have h9 := hl4 0 _ rfl; exact h9)
  have hN0 : ¬ (NP : Int) = 0 := by omega
  have hNb : ((NP : Int) == 0) = false := by simpa using hN0
  have hpi : (p' : Int) < (NP : Int) := by omega
  have hp0 : (0 : Int) ≤ (p' : Int) := by omega
  have hpN : p' < NP := by omega
  have hiK : i' ≤ K0 ∧ (ok' = true → i' < K0) := by
    rcases HP.out with ⟨h1, -⟩ | ⟨r, h1, h2, h3, h4, h5⟩
    · rw [h1] at hp; exact absurd hp (Nat.not_lt_zero _)
    · have eP : P.getD p' [] = P[p'] := by simp [List.getD, hp]
      rw [eP] at h4 h5
      exact ⟨by rw [hK0]; exact h4.1, fun h9 => by obtain ⟨h8, -⟩ := h5.1 h9; omega⟩
  have hK1 : K0 ≤ 100 := by rw [hK0]; exact hlp _ (List.getElem_mem hp)
  obtain ⟨w3, hw3⟩ : ∃ X : World, X = w2.alloc (.cells #[.int .u64 (s1 : Int), .int .u64 (s2 : Int), .string ⟨#[UInt8.ofNat n]⟩] tEn) := ⟨_, rfl⟩
  have hb3 : Below w2.heap.size w2 w3 := by rw [hw3]; exact al (Below.refl _ _) _
  have HE3 : Hid (RdE w3 (some ⟨w2.heap.size, 0, none⟩) [mkE (s1, s2) n]) := rdE_one s1 s2 n (by rw [hw3]; exact heap_alloc_new w2 _)
  have HR3 : Hid (RdE w3 a P[p']) := hr.below hb3
  have HI3 : Hid (IdxAt w3 g S P v vs) := HI2.out.below hb3
  have HB3 : Hid (Below w.heap.size w w3) := below_next HB2.out hb3
  have HK0 : Hid (K0 = P[p'].length) := hK0
  have HV : Hid _ := hv
  obtain ⟨b4, o4, ha⟩ : ∃ b4 o4, a = some ⟨b4, o4, none⟩ := by
    have h9 : 0 < P[p'].length := hsp.1 _ (List.getElem_mem hp)
    obtain ⟨b4, o4, h8, -⟩ := hr 0 h9
    exact ⟨b4, o4, h8⟩
  subst ha
  clear hb2 hb3 hr hrd hnil hcap hl3 hK0 hNP hv hpl' HPL HI1 HB1 hw1
  cases ok'
  case false =>
    skip
    have hbK : i' ≤ K0 := by rcases hiK with ⟨h1, h2⟩; first | (have := h2 rfl; omega) | omega
    skip
    have hi1 : i' ≤ K0 := hiK.1
    have hic : i' ≤ c := by omega
    have hbc : i' ≤ c := by omega
    have hi0i : (0 : Int) ≤ (i' : Int) := by omega
    have hb0i : (0 : Int) ≤ (i' : Int) := by omega
    have hiKi : (i' : Int) ≤ (K0 : Int) := by omega
    have hbKi : (i' : Int) ≤ (K0 : Int) := by omega
    have HBH : Hid (i' = i') := rfl
    clear hiK
    by_cases hbc2 : c = i'
    · subst hbc2
      have HCA : Hid (∀ u, Below w3.heap.size w3 u → u.heap[w3.heap.size]? = some (.cells #[.slice (some ⟨b4, o4, none⟩) c c, .slice (some ⟨w2.heap.size, 0, none⟩) 1 1, .slice (some ⟨b4, o4, none⟩) 0 0] tPg (0, 0)) → Calls Try.prog 38 #[.slice (some ⟨w3.heap.size, 0, none⟩) 3 3] u fun e u' => ∃ v', e = .returned v' ∧ OwnE u' u.heap.size v' (putL P[p'] c false (mkE (s1, s2) n)) ∧ Below u.heap.size u u') := fun u hu hh => by
        have h9 := concatE_t w3.heap.size 0 3 [⟨some ⟨b4, o4, none⟩, c, P[p'].take c⟩, ⟨some ⟨w2.heap.size, 0, none⟩, 1, [mkE (s1, s2) n]⟩, ⟨some ⟨b4, o4, none⟩, 0, P[p'].drop c⟩] u (by simp) (fun j hj => by
          match j, hj with
          | 0, _ => exact ⟨by rw [cell_of_row _ _ _ _ _ _ hh]; simp [PartE.v, List.length_take]; rw [← HK0.out]; omega, (HR3.out.below hu).take _, fun h => by cases h⟩
          | 1, _ => exact ⟨by rw [cell_of_row _ _ _ _ _ _ hh]; rfl, HE3.out.below hu, fun h => by cases h⟩
          | 2, _ => exact ⟨by rw [cell_of_row _ _ _ _ _ _ hh]; simp [PartE.v, List.length_drop]; have := HK0.out; omega, by have e8 : P[p'].drop c = [] := List.drop_eq_nil_of_le (by have := HK0.out; omega); rw [e8]; exact fun j hj => absurd hj (Nat.not_lt_zero _), fun h => by cases h⟩) (by have := HK0.out; simp [catE, List.length_take, List.length_drop]; omega)
        have e9 : catE [⟨some ⟨b4, o4, none⟩, c, P[p'].take c⟩, ⟨some ⟨w2.heap.size, 0, none⟩, 1, [mkE (s1, s2) n]⟩, ⟨some ⟨b4, o4, none⟩, 0, P[p'].drop c⟩] = putL P[p'] c false (mkE (s1, s2) n) := by rw [HBH.out]; simp [catE, putL]
        rw [e9] at h9
        exact h9
      go_wp2_with (first | (refine wpList_load_mid rfl tSt _ rfl w.heap.size 0 rfl (sc (s1, s2)) _ hl4 Try.underlying34 rfl info_st ?_))
      rw [← hw3]
      obtain ⟨L, hL⟩ : ∃ L, L = (putL P[p'] c false (mkE (s1, s2) n)).length := ⟨_, rfl⟩
      have HL : Hid _ := hL
      have HFI : Hid (L ≤ S) := by rw [hL]; exact hfit
      clear hL hw3
      refine wp_region_noPanic ?_
      refine wp_region_held_drew (S := (fun _ => True)) (by kernel_rfl) (by exact trivial) (fun hHeld => ?_)
      refine take_at (i := 0) 60 (v := ?_) rfl rfl (by kernel_rfl) (by kernel_rfl) (by kernel_rfl) (fun _ _ _ h => h) (by rfl) ?_ hHeld ?_
      rotate_left
      · (intro w hSw; (try dsimp only at hSw); go_simp; try with_reducible rfl)
      simp only [Act.put, List.setIfInBounds_toArray, List.set_cons_zero, List.set_cons_succ]
      refine take_at (i := 1) 61 (v := ?_) rfl rfl (by kernel_rfl) (by kernel_rfl) (by kernel_rfl) (fun _ _ _ h => h) (by rfl) ?_ hHeld ?_
      rotate_left
      · (intro w hSw; (try dsimp only at hSw); go_simp; try with_reducible rfl)
      simp only [Act.put, List.setIfInBounds_toArray, List.set_cons_zero, List.set_cons_succ]
      refine take_at (i := 2) 62 (v := ?_) rfl rfl (by kernel_rfl) (by kernel_rfl) (by kernel_rfl) (fun _ _ _ h => h) (by rfl) ?_ hHeld ?_
      rotate_left
      · (intro w hSw; (try dsimp only at hSw); go_simp; try with_reducible rfl)
      simp only [Act.put, List.setIfInBounds_toArray, List.set_cons_zero, List.set_cons_succ]
      refine take_at (i := 3) 63 (v := ?_) rfl rfl (by kernel_rfl) (by kernel_rfl) (by kernel_rfl) (fun _ _ _ h => h) (by rfl) ?_ hHeld ?_
      rotate_left
      · (intro w hSw; (try dsimp only at hSw); go_simp; try with_reducible rfl)
      simp only [Act.put, List.setIfInBounds_toArray, List.set_cons_zero, List.set_cons_succ]
      refine take_at (i := 4) 64 (v := ?_) rfl rfl (by kernel_rfl) (by kernel_rfl) (by kernel_rfl) (fun _ _ _ h => h) (by rfl) ?_ hHeld ?_
      rotate_left
      · (intro w hSw; (try dsimp only at hSw); go_simp; try with_reducible rfl)
      simp only [Act.put, List.setIfInBounds_toArray, List.set_cons_zero, List.set_cons_succ]
      refine take_at (i := 5) 65 (v := ?_) rfl rfl (by kernel_rfl) (by kernel_rfl) (by kernel_rfl) (fun _ _ _ h => h) (by rfl) ?_ hHeld ?_
      rotate_left
      · (intro w hSw; (try dsimp only at hSw); go_simp; try with_reducible rfl)
      simp only [Act.put, List.setIfInBounds_toArray, List.set_cons_zero, List.set_cons_succ]
      refine take_at (i := 6) 66 (v := ?_) rfl rfl (by kernel_rfl) (by kernel_rfl) (by kernel_rfl) (fun _ _ _ h => h) (by rfl) ?_ hHeld ?_
      rotate_left
      · (intro w hSw; (try dsimp only at hSw); go_simp; try with_reducible rfl)
      simp only [Act.put, List.setIfInBounds_toArray, List.set_cons_zero, List.set_cons_succ]
      refine take_at (i := 7) 67 (v := ?_) rfl rfl (by kernel_rfl) (by kernel_rfl) (by kernel_rfl) (fun _ _ _ h => h) (by rfl) ?_ hHeld ?_
      rotate_left
      · (intro w hSw; (try dsimp only at hSw); go_simp; try with_reducible rfl)
      simp only [Act.put, List.setIfInBounds_toArray, List.set_cons_zero, List.set_cons_succ]
      refine take_at (i := 8) 68 (v := ?_) rfl rfl (by kernel_rfl) (by kernel_rfl) (by kernel_rfl) (fun _ _ _ h => h) (by rfl) ?_ hHeld ?_
      rotate_left
      · (intro w hSw; (try dsimp only at hSw); go_simp; try with_reducible rfl)
      simp only [Act.put, List.setIfInBounds_toArray, List.set_cons_zero, List.set_cons_succ]
      refine run_at (i := 9) rfl (by kernel_rfl) (by rfl) (fun K hK => ?_)
      simp only [List.getElem_toArray, List.getElem_cons_zero, List.getElem_cons_succ]
      go_simp
      go_wp2_with fail
      refine hK.out _ _ (by exact trivial) ?_
      clear hK K
      intro hHeld2
      clear hHeld
      have hHeld := hHeld2
      clear hHeld2
      try simp only [Act.put, List.setIfInBounds_toArray, List.set_cons_zero, List.set_cons_succ]
      refine run_at (i := 10) rfl (by kernel_rfl) (by rfl) (fun K hK => ?_)
      simp only [List.getElem_toArray, List.getElem_cons_zero, List.getElem_cons_succ]
      go_simp
      first | (go_at_call 37; refine Calls.mono HRE.out ?_; rintro e w5 ⟨rfl, hix, hch⟩; have HIX : Hid _ := hix; have HCH : Hid _ := hch; clear hix hch) | (go_at_call 38; refine Calls.mono (HCA.out _ (by first | exact al (Below.refl _ _).drew _ | exact (al (Below.refl _ _) _).drew) (by exact heap_alloc_new w3 _)) ?_; rintro e w4 ⟨v4, rfl, hown4, hb4⟩; have HB4 : Hid (Below w3.heap.size w3 w4) := (by first | exact below_next (al (Below.refl _ _).drew _) hb4 | exact below_next (al (Below.refl _ _) _).drew hb4); obtain ⟨a4, c4, e4, hc4, hn4, hr4⟩ := OwnE.val hown4; rw [← HL.out] at e4 hc4; subst e4; have HRE : Hid _ := replace_s (HI3.out.below HB4.out) p' hp a4 L c4 _ HL.out hr4 hc4 hn4 HFI.out hS.2; clear hown4 hb4 hc4 hn4 hr4)
      go_wp2_with fail
      refine hK.out _ _ (by exact trivial) ?_
      clear hK K
      intro hHeld2
      clear hHeld
      have hHeld := hHeld2
      clear hHeld2
      try simp only [Act.put, List.setIfInBounds_toArray, List.set_cons_zero, List.set_cons_succ]
      refine run_at (i := 11) rfl (by kernel_rfl) (by rfl) (fun K hK => ?_)
      simp only [List.getElem_toArray, List.getElem_cons_zero, List.getElem_cons_succ]
      go_simp
      first | (go_at_call 37; refine Calls.mono HRE.out ?_; rintro e w5 ⟨rfl, hix, hch⟩; have HIX : Hid _ := hix; have HCH : Hid _ := hch; clear hix hch) | (go_at_call 38; refine Calls.mono (HCA.out _ (by first | exact al (Below.refl _ _).drew _ | exact (al (Below.refl _ _) _).drew) (by exact heap_alloc_new w3 _)) ?_; rintro e w4 ⟨v4, rfl, hown4, hb4⟩; have HB4 : Hid (Below w3.heap.size w3 w4) := (by first | exact below_next (al (Below.refl _ _).drew _) hb4 | exact below_next (al (Below.refl _ _) _).drew hb4); obtain ⟨a4, c4, e4, hc4, hn4, hr4⟩ := OwnE.val hown4; rw [← HL.out] at e4 hc4; subst e4; have HRE : Hid _ := replace_s (HI3.out.below HB4.out) p' hp a4 L c4 _ HL.out hr4 hc4 hn4 HFI.out hS.2; clear hown4 hb4 hc4 hn4 hr4)
      go_wp2_with fail
      refine hK.out _ _ (by exact trivial) ?_
      clear hK K
      intro hHeld2
      clear hHeld
      have hHeld := hHeld2
      clear hHeld2
      try simp only [Act.put, List.setIfInBounds_toArray, List.set_cons_zero, List.set_cons_succ]
      refine wpAnyH_done (by kernel_rfl) ?_ _
      refine NoPanic.normal ?_
      go_wp2
      go_ret
      exact ⟨rfl, HIX.out, ((Chg.of_below HB3.out).trans (Chg.of_below (F := foot g v) HB4.out) (fun i hi => .inl hi)).trans HCH.out (fun i hi => .inl hi)⟩
    · have HCA : Hid (∀ u, Below w3.heap.size w3 u → u.heap[w3.heap.size]? = some (.cells #[.slice (some ⟨b4, o4, none⟩) i' c, .slice (some ⟨w2.heap.size, 0, none⟩) 1 1, .slice (some ⟨b4, o4 + i' * 3, none⟩) (K0 - i') (c - i')] tPg (0, 0)) → Calls Try.prog 38 #[.slice (some ⟨w3.heap.size, 0, none⟩) 3 3] u fun e u' => ∃ v', e = .returned v' ∧ OwnE u' u.heap.size v' (putL P[p'] i' false (mkE (s1, s2) n)) ∧ Below u.heap.size u u') := fun u hu hh => by
        have h9 := concatE_t w3.heap.size 0 3 [⟨some ⟨b4, o4, none⟩, c, P[p'].take i'⟩, ⟨some ⟨w2.heap.size, 0, none⟩, 1, [mkE (s1, s2) n]⟩, ⟨some ⟨b4, o4 + i' * 3, none⟩, (c - i'), P[p'].drop i'⟩] u (by simp) (fun j hj => by
          match j, hj with
          | 0, _ => exact ⟨by rw [cell_of_row _ _ _ _ _ _ hh]; simp [PartE.v, List.length_take]; rw [← HK0.out]; omega, (HR3.out.below hu).take _, fun h => by cases h⟩
          | 1, _ => exact ⟨by rw [cell_of_row _ _ _ _ _ _ hh]; rfl, HE3.out.below hu, fun h => by cases h⟩
          | 2, _ => exact ⟨by rw [cell_of_row _ _ _ _ _ _ hh]; simp [PartE.v, List.length_drop, HK0.out], (HR3.out.below hu).drop _, fun h => by cases h⟩) (by have := HK0.out; simp [catE, List.length_take, List.length_drop]; omega)
        have e9 : catE [⟨some ⟨b4, o4, none⟩, c, P[p'].take i'⟩, ⟨some ⟨w2.heap.size, 0, none⟩, 1, [mkE (s1, s2) n]⟩, ⟨some ⟨b4, o4 + i' * 3, none⟩, (c - i'), P[p'].drop i'⟩] = putL P[p'] i' false (mkE (s1, s2) n) := by rw [HBH.out]; simp [catE, putL]
        rw [e9] at h9
        exact h9
      go_wp2_with (first | (refine wpList_load_mid rfl tSt _ rfl w.heap.size 0 rfl (sc (s1, s2)) _ hl4 Try.underlying34 rfl info_st ?_))
      rw [← hw3]
      obtain ⟨L, hL⟩ : ∃ L, L = (putL P[p'] i' false (mkE (s1, s2) n)).length := ⟨_, rfl⟩
      have HL : Hid _ := hL
      have HFI : Hid (L ≤ S) := by rw [hL]; exact hfit
      clear hL hw3
      refine wp_region_noPanic ?_
      refine wp_region_held_drew (S := (fun _ => True)) (by kernel_rfl) (by exact trivial) (fun hHeld => ?_)
      refine take_at (i := 0) 60 (v := ?_) rfl rfl (by kernel_rfl) (by kernel_rfl) (by kernel_rfl) (fun _ _ _ h => h) (by rfl) ?_ hHeld ?_
      rotate_left
      · (intro w hSw; (try dsimp only at hSw); go_simp; try with_reducible rfl)
      simp only [Act.put, List.setIfInBounds_toArray, List.set_cons_zero, List.set_cons_succ]
      refine take_at (i := 1) 61 (v := ?_) rfl rfl (by kernel_rfl) (by kernel_rfl) (by kernel_rfl) (fun _ _ _ h => h) (by rfl) ?_ hHeld ?_
      rotate_left
      · (intro w hSw; (try dsimp only at hSw); go_simp; try with_reducible rfl)
      simp only [Act.put, List.setIfInBounds_toArray, List.set_cons_zero, List.set_cons_succ]
      refine take_at (i := 2) 62 (v := ?_) rfl rfl (by kernel_rfl) (by kernel_rfl) (by kernel_rfl) (fun _ _ _ h => h) (by rfl) ?_ hHeld ?_
      rotate_left
      · (intro w hSw; (try dsimp only at hSw); go_simp; try with_reducible rfl)
      simp only [Act.put, List.setIfInBounds_toArray, List.set_cons_zero, List.set_cons_succ]
      refine take_at (i := 3) 63 (v := ?_) rfl rfl (by kernel_rfl) (by kernel_rfl) (by kernel_rfl) (fun _ _ _ h => h) (by rfl) ?_ hHeld ?_
      rotate_left
      · (intro w hSw; (try dsimp only at hSw); go_simp; try with_reducible rfl)
      simp only [Act.put, List.setIfInBounds_toArray, List.set_cons_zero, List.set_cons_succ]
      refine take_at (i := 4) 64 (v := ?_) rfl rfl (by kernel_rfl) (by kernel_rfl) (by kernel_rfl) (fun _ _ _ h => h) (by rfl) ?_ hHeld ?_
      rotate_left
      · (intro w hSw; (try dsimp only at hSw); go_simp; try with_reducible rfl)
      simp only [Act.put, List.setIfInBounds_toArray, List.set_cons_zero, List.set_cons_succ]
      refine take_at (i := 5) 65 (v := ?_) rfl rfl (by kernel_rfl) (by kernel_rfl) (by kernel_rfl) (fun _ _ _ h => h) (by rfl) ?_ hHeld ?_
      rotate_left
      · (intro w hSw; (try dsimp only at hSw); go_simp; try with_reducible rfl)
      simp only [Act.put, List.setIfInBounds_toArray, List.set_cons_zero, List.set_cons_succ]
      refine take_at (i := 6) 66 (v := ?_) rfl rfl (by kernel_rfl) (by kernel_rfl) (by kernel_rfl) (fun _ _ _ h => h) (by rfl) ?_ hHeld ?_
      rotate_left
      · (intro w hSw; (try dsimp only at hSw); go_simp; try with_reducible rfl)
      simp only [Act.put, List.setIfInBounds_toArray, List.set_cons_zero, List.set_cons_succ]
      refine take_at (i := 7) 67 (v := ?_) rfl rfl (by kernel_rfl) (by kernel_rfl) (by kernel_rfl) (fun _ _ _ h => h) (by rfl) ?_ hHeld ?_
      rotate_left
      · (intro w hSw; (try dsimp only at hSw); go_simp; try with_reducible rfl)
      simp only [Act.put, List.setIfInBounds_toArray, List.set_cons_zero, List.set_cons_succ]
      refine take_at (i := 8) 68 (v := ?_) rfl rfl (by kernel_rfl) (by kernel_rfl) (by kernel_rfl) (fun _ _ _ h => h) (by rfl) ?_ hHeld ?_
      rotate_left
      · (intro w hSw; (try dsimp only at hSw); go_simp; try with_reducible rfl)
      simp only [Act.put, List.setIfInBounds_toArray, List.set_cons_zero, List.set_cons_succ]
      refine run_at (i := 9) rfl (by kernel_rfl) (by rfl) (fun K hK => ?_)
      simp only [List.getElem_toArray, List.getElem_cons_zero, List.getElem_cons_succ]
      go_simp
      go_wp2_with fail
      refine hK.out _ _ (by exact trivial) ?_
      clear hK K
      intro hHeld2
      clear hHeld
      have hHeld := hHeld2
      clear hHeld2
      try simp only [Act.put, List.setIfInBounds_toArray, List.set_cons_zero, List.set_cons_succ]
      refine run_at (i := 10) rfl (by kernel_rfl) (by rfl) (fun K hK => ?_)
      simp only [List.getElem_toArray, List.getElem_cons_zero, List.getElem_cons_succ]
      go_simp
      first | (go_at_call 37; refine Calls.mono HRE.out ?_; rintro e w5 ⟨rfl, hix, hch⟩; have HIX : Hid _ := hix; have HCH : Hid _ := hch; clear hix hch) | (go_at_call 38; refine Calls.mono (HCA.out _ (by first | exact al (Below.refl _ _).drew _ | exact (al (Below.refl _ _) _).drew) (by exact heap_alloc_new w3 _)) ?_; rintro e w4 ⟨v4, rfl, hown4, hb4⟩; have HB4 : Hid (Below w3.heap.size w3 w4) := (by first | exact below_next (al (Below.refl _ _).drew _) hb4 | exact below_next (al (Below.refl _ _) _).drew hb4); obtain ⟨a4, c4, e4, hc4, hn4, hr4⟩ := OwnE.val hown4; rw [← HL.out] at e4 hc4; subst e4; have HRE : Hid _ := replace_s (HI3.out.below HB4.out) p' hp a4 L c4 _ HL.out hr4 hc4 hn4 HFI.out hS.2; clear hown4 hb4 hc4 hn4 hr4)
      go_wp2_with fail
      refine hK.out _ _ (by exact trivial) ?_
      clear hK K
      intro hHeld2
      clear hHeld
      have hHeld := hHeld2
      clear hHeld2
      try simp only [Act.put, List.setIfInBounds_toArray, List.set_cons_zero, List.set_cons_succ]
      refine run_at (i := 11) rfl (by kernel_rfl) (by rfl) (fun K hK => ?_)
      simp only [List.getElem_toArray, List.getElem_cons_zero, List.getElem_cons_succ]
      go_simp
      first | (go_at_call 37; refine Calls.mono HRE.out ?_; rintro e w5 ⟨rfl, hix, hch⟩; have HIX : Hid _ := hix; have HCH : Hid _ := hch; clear hix hch) | (go_at_call 38; refine Calls.mono (HCA.out _ (by first | exact al (Below.refl _ _).drew _ | exact (al (Below.refl _ _) _).drew) (by exact heap_alloc_new w3 _)) ?_; rintro e w4 ⟨v4, rfl, hown4, hb4⟩; have HB4 : Hid (Below w3.heap.size w3 w4) := (by first | exact below_next (al (Below.refl _ _).drew _) hb4 | exact below_next (al (Below.refl _ _) _).drew hb4); obtain ⟨a4, c4, e4, hc4, hn4, hr4⟩ := OwnE.val hown4; rw [← HL.out] at e4 hc4; subst e4; have HRE : Hid _ := replace_s (HI3.out.below HB4.out) p' hp a4 L c4 _ HL.out hr4 hc4 hn4 HFI.out hS.2; clear hown4 hb4 hc4 hn4 hr4)
      go_wp2_with fail
      refine hK.out _ _ (by exact trivial) ?_
      clear hK K
      intro hHeld2
      clear hHeld
      have hHeld := hHeld2
      clear hHeld2
      try simp only [Act.put, List.setIfInBounds_toArray, List.set_cons_zero, List.set_cons_succ]
      refine wpAnyH_done (by kernel_rfl) ?_ _
      refine NoPanic.normal ?_
      go_wp2
      go_ret
      exact ⟨rfl, HIX.out, ((Chg.of_below HB3.out).trans (Chg.of_below (F := foot g v) HB4.out) (fun i hi => .inl hi)).trans HCH.out (fun i hi => .inl hi)⟩
  case true =>
    obtain ⟨bh, hbh⟩ : ∃ bh : Nat, bh = (i' + 1) := ⟨_, rfl⟩
    have hbK : bh ≤ K0 := by rcases hiK with ⟨h1, h2⟩; first | (have := h2 rfl; omega) | omega
    have hwb : IntKind.i64.wrap ((i' : Int) + 1) = (bh : Int) := by rw [IntKind.wrap_i64]; omega
    have hi1 : i' ≤ K0 := hiK.1
    have hic : i' ≤ c := by omega
    have hbc : bh ≤ c := by omega
    have hi0i : (0 : Int) ≤ (i' : Int) := by omega
    have hb0i : (0 : Int) ≤ (bh : Int) := by omega
    have hiKi : (i' : Int) ≤ (K0 : Int) := by omega
    have hbKi : (bh : Int) ≤ (K0 : Int) := by omega
    have HBH : Hid (bh = (i' + 1)) := hbh
    clear hbh hiK
    by_cases hbc2 : c = bh
    · subst hbc2
      have HCA : Hid (∀ u, Below w3.heap.size w3 u → u.heap[w3.heap.size]? = some (.cells #[.slice (some ⟨b4, o4, none⟩) i' c, .slice (some ⟨w2.heap.size, 0, none⟩) 1 1, .slice (some ⟨b4, o4, none⟩) 0 0] tPg (0, 0)) → Calls Try.prog 38 #[.slice (some ⟨w3.heap.size, 0, none⟩) 3 3] u fun e u' => ∃ v', e = .returned v' ∧ OwnE u' u.heap.size v' (putL P[p'] i' true (mkE (s1, s2) n)) ∧ Below u.heap.size u u') := fun u hu hh => by
        have h9 := concatE_t w3.heap.size 0 3 [⟨some ⟨b4, o4, none⟩, c, P[p'].take i'⟩, ⟨some ⟨w2.heap.size, 0, none⟩, 1, [mkE (s1, s2) n]⟩, ⟨some ⟨b4, o4, none⟩, 0, P[p'].drop c⟩] u (by simp) (fun j hj => by
          match j, hj with
          | 0, _ => exact ⟨by rw [cell_of_row _ _ _ _ _ _ hh]; simp [PartE.v, List.length_take]; rw [← HK0.out]; omega, (HR3.out.below hu).take _, fun h => by cases h⟩
          | 1, _ => exact ⟨by rw [cell_of_row _ _ _ _ _ _ hh]; rfl, HE3.out.below hu, fun h => by cases h⟩
          | 2, _ => exact ⟨by rw [cell_of_row _ _ _ _ _ _ hh]; simp [PartE.v, List.length_drop]; have := HK0.out; omega, by have e8 : P[p'].drop c = [] := List.drop_eq_nil_of_le (by have := HK0.out; omega); rw [e8]; exact fun j hj => absurd hj (Nat.not_lt_zero _), fun h => by cases h⟩) (by have := HK0.out; simp [catE, List.length_take, List.length_drop]; omega)
        have e9 : catE [⟨some ⟨b4, o4, none⟩, c, P[p'].take i'⟩, ⟨some ⟨w2.heap.size, 0, none⟩, 1, [mkE (s1, s2) n]⟩, ⟨some ⟨b4, o4, none⟩, 0, P[p'].drop c⟩] = putL P[p'] i' true (mkE (s1, s2) n) := by rw [HBH.out]; simp [catE, putL]
        rw [e9] at h9
        exact h9
      go_wp2_with (first | (refine wpList_load_mid rfl tSt _ rfl w.heap.size 0 rfl (sc (s1, s2)) _ hl4 Try.underlying34 rfl info_st ?_))
      rw [← hw3]
      obtain ⟨L, hL⟩ : ∃ L, L = (putL P[p'] i' true (mkE (s1, s2) n)).length := ⟨_, rfl⟩
      have HL : Hid _ := hL
      have HFI : Hid (L ≤ S) := by rw [hL]; exact hfit
      clear hL hw3
      refine wp_region_noPanic ?_
      refine wp_region_held_drew (S := (fun _ => True)) (by kernel_rfl) (by exact trivial) (fun hHeld => ?_)
      refine take_at (i := 0) 60 (v := ?_) rfl rfl (by kernel_rfl) (by kernel_rfl) (by kernel_rfl) (fun _ _ _ h => h) (by rfl) ?_ hHeld ?_
      rotate_left
      · (intro w hSw; (try dsimp only at hSw); go_simp; try with_reducible rfl)
      simp only [Act.put, List.setIfInBounds_toArray, List.set_cons_zero, List.set_cons_succ]
      refine take_at (i := 1) 61 (v := ?_) rfl rfl (by kernel_rfl) (by kernel_rfl) (by kernel_rfl) (fun _ _ _ h => h) (by rfl) ?_ hHeld ?_
      rotate_left
      · (intro w hSw; (try dsimp only at hSw); go_simp; try with_reducible rfl)
      simp only [Act.put, List.setIfInBounds_toArray, List.set_cons_zero, List.set_cons_succ]
      refine take_at (i := 2) 62 (v := ?_) rfl rfl (by kernel_rfl) (by kernel_rfl) (by kernel_rfl) (fun _ _ _ h => h) (by rfl) ?_ hHeld ?_
      rotate_left
      · (intro w hSw; (try dsimp only at hSw); go_simp; try with_reducible rfl)
      simp only [Act.put, List.setIfInBounds_toArray, List.set_cons_zero, List.set_cons_succ]
      refine take_at (i := 3) 63 (v := ?_) rfl rfl (by kernel_rfl) (by kernel_rfl) (by kernel_rfl) (fun _ _ _ h => h) (by rfl) ?_ hHeld ?_
      rotate_left
      · (intro w hSw; (try dsimp only at hSw); go_simp; try with_reducible rfl)
      simp only [Act.put, List.setIfInBounds_toArray, List.set_cons_zero, List.set_cons_succ]
      refine take_at (i := 4) 64 (v := ?_) rfl rfl (by kernel_rfl) (by kernel_rfl) (by kernel_rfl) (fun _ _ _ h => h) (by rfl) ?_ hHeld ?_
      rotate_left
      · (intro w hSw; (try dsimp only at hSw); go_simp; try with_reducible rfl)
      simp only [Act.put, List.setIfInBounds_toArray, List.set_cons_zero, List.set_cons_succ]
      refine take_at (i := 5) 65 (v := ?_) rfl rfl (by kernel_rfl) (by kernel_rfl) (by kernel_rfl) (fun _ _ _ h => h) (by rfl) ?_ hHeld ?_
      rotate_left
      · (intro w hSw; (try dsimp only at hSw); go_simp; try with_reducible rfl)
      simp only [Act.put, List.setIfInBounds_toArray, List.set_cons_zero, List.set_cons_succ]
      refine take_at (i := 6) 66 (v := ?_) rfl rfl (by kernel_rfl) (by kernel_rfl) (by kernel_rfl) (fun _ _ _ h => h) (by rfl) ?_ hHeld ?_
      rotate_left
      · (intro w hSw; (try dsimp only at hSw); go_simp; try with_reducible rfl)
      simp only [Act.put, List.setIfInBounds_toArray, List.set_cons_zero, List.set_cons_succ]
      refine take_at (i := 7) 67 (v := ?_) rfl rfl (by kernel_rfl) (by kernel_rfl) (by kernel_rfl) (fun _ _ _ h => h) (by rfl) ?_ hHeld ?_
      rotate_left
      · (intro w hSw; (try dsimp only at hSw); go_simp; try with_reducible rfl)
      simp only [Act.put, List.setIfInBounds_toArray, List.set_cons_zero, List.set_cons_succ]
      refine take_at (i := 8) 68 (v := ?_) rfl rfl (by kernel_rfl) (by kernel_rfl) (by kernel_rfl) (fun _ _ _ h => h) (by rfl) ?_ hHeld ?_
      rotate_left
      · (intro w hSw; (try dsimp only at hSw); go_simp; try with_reducible rfl)
      simp only [Act.put, List.setIfInBounds_toArray, List.set_cons_zero, List.set_cons_succ]
      refine run_at (i := 9) rfl (by kernel_rfl) (by rfl) (fun K hK => ?_)
      simp only [List.getElem_toArray, List.getElem_cons_zero, List.getElem_cons_succ]
      go_simp
      go_wp2_with fail
      refine hK.out _ _ (by exact trivial) ?_
      clear hK K
      intro hHeld2
      clear hHeld
      have hHeld := hHeld2
      clear hHeld2
      try simp only [Act.put, List.setIfInBounds_toArray, List.set_cons_zero, List.set_cons_succ]
      refine run_at (i := 10) rfl (by kernel_rfl) (by rfl) (fun K hK => ?_)
      simp only [List.getElem_toArray, List.getElem_cons_zero, List.getElem_cons_succ]
      go_simp
      first | (go_at_call 37; refine Calls.mono HRE.out ?_; rintro e w5 ⟨rfl, hix, hch⟩; have HIX : Hid _ := hix; have HCH : Hid _ := hch; clear hix hch) | (go_at_call 38; refine Calls.mono (HCA.out _ (by first | exact al (Below.refl _ _).drew _ | exact (al (Below.refl _ _) _).drew) (by exact heap_alloc_new w3 _)) ?_; rintro e w4 ⟨v4, rfl, hown4, hb4⟩; have HB4 : Hid (Below w3.heap.size w3 w4) := (by first | exact below_next (al (Below.refl _ _).drew _) hb4 | exact below_next (al (Below.refl _ _) _).drew hb4); obtain ⟨a4, c4, e4, hc4, hn4, hr4⟩ := OwnE.val hown4; rw [← HL.out] at e4 hc4; subst e4; have HRE : Hid _ := replace_s (HI3.out.below HB4.out) p' hp a4 L c4 _ HL.out hr4 hc4 hn4 HFI.out hS.2; clear hown4 hb4 hc4 hn4 hr4)
      go_wp2_with fail
      refine hK.out _ _ (by exact trivial) ?_
      clear hK K
      intro hHeld2
      clear hHeld
      have hHeld := hHeld2
      clear hHeld2
      try simp only [Act.put, List.setIfInBounds_toArray, List.set_cons_zero, List.set_cons_succ]
      refine run_at (i := 11) rfl (by kernel_rfl) (by rfl) (fun K hK => ?_)
      simp only [List.getElem_toArray, List.getElem_cons_zero, List.getElem_cons_succ]
      go_simp
      first | (go_at_call 37; refine Calls.mono HRE.out ?_; rintro e w5 ⟨rfl, hix, hch⟩; have HIX : Hid _ := hix; have HCH : Hid _ := hch; clear hix hch) | (go_at_call 38; refine Calls.mono (HCA.out _ (by first | exact al (Below.refl _ _).drew _ | exact (al (Below.refl _ _) _).drew) (by exact heap_alloc_new w3 _)) ?_; rintro e w4 ⟨v4, rfl, hown4, hb4⟩; have HB4 : Hid (Below w3.heap.size w3 w4) := (by first | exact below_next (al (Below.refl _ _).drew _) hb4 | exact below_next (al (Below.refl _ _) _).drew hb4); obtain ⟨a4, c4, e4, hc4, hn4, hr4⟩ := OwnE.val hown4; rw [← HL.out] at e4 hc4; subst e4; have HRE : Hid _ := replace_s (HI3.out.below HB4.out) p' hp a4 L c4 _ HL.out hr4 hc4 hn4 HFI.out hS.2; clear hown4 hb4 hc4 hn4 hr4)
      go_wp2_with fail
      refine hK.out _ _ (by exact trivial) ?_
      clear hK K
      intro hHeld2
      clear hHeld
      have hHeld := hHeld2
      clear hHeld2
      try simp only [Act.put, List.setIfInBounds_toArray, List.set_cons_zero, List.set_cons_succ]
      refine wpAnyH_done (by kernel_rfl) ?_ _
      refine NoPanic.normal ?_
      go_wp2
      go_ret
      exact ⟨rfl, HIX.out, ((Chg.of_below HB3.out).trans (Chg.of_below (F := foot g v) HB4.out) (fun i hi => .inl hi)).trans HCH.out (fun i hi => .inl hi)⟩
    · have HCA : Hid (∀ u, Below w3.heap.size w3 u → u.heap[w3.heap.size]? = some (.cells #[.slice (some ⟨b4, o4, none⟩) i' c, .slice (some ⟨w2.heap.size, 0, none⟩) 1 1, .slice (some ⟨b4, o4 + bh * 3, none⟩) (K0 - bh) (c - bh)] tPg (0, 0)) → Calls Try.prog 38 #[.slice (some ⟨w3.heap.size, 0, none⟩) 3 3] u fun e u' => ∃ v', e = .returned v' ∧ OwnE u' u.heap.size v' (putL P[p'] i' true (mkE (s1, s2) n)) ∧ Below u.heap.size u u') := fun u hu hh => by
        have h9 := concatE_t w3.heap.size 0 3 [⟨some ⟨b4, o4, none⟩, c, P[p'].take i'⟩, ⟨some ⟨w2.heap.size, 0, none⟩, 1, [mkE (s1, s2) n]⟩, ⟨some ⟨b4, o4 + bh * 3, none⟩, (c - bh), P[p'].drop bh⟩] u (by simp) (fun j hj => by
          match j, hj with
          | 0, _ => exact ⟨by rw [cell_of_row _ _ _ _ _ _ hh]; simp [PartE.v, List.length_take]; rw [← HK0.out]; omega, (HR3.out.below hu).take _, fun h => by cases h⟩
          | 1, _ => exact ⟨by rw [cell_of_row _ _ _ _ _ _ hh]; rfl, HE3.out.below hu, fun h => by cases h⟩
          | 2, _ => exact ⟨by rw [cell_of_row _ _ _ _ _ _ hh]; simp [PartE.v, List.length_drop, HK0.out], (HR3.out.below hu).drop _, fun h => by cases h⟩) (by have := HK0.out; simp [catE, List.length_take, List.length_drop]; omega)
        have e9 : catE [⟨some ⟨b4, o4, none⟩, c, P[p'].take i'⟩, ⟨some ⟨w2.heap.size, 0, none⟩, 1, [mkE (s1, s2) n]⟩, ⟨some ⟨b4, o4 + bh * 3, none⟩, (c - bh), P[p'].drop bh⟩] = putL P[p'] i' true (mkE (s1, s2) n) := by rw [HBH.out]; simp [catE, putL]
        rw [e9] at h9
        exact h9
      go_wp2_with (first | (refine wpList_load_mid rfl tSt _ rfl w.heap.size 0 rfl (sc (s1, s2)) _ hl4 Try.underlying34 rfl info_st ?_))
      rw [← hw3]
      obtain ⟨L, hL⟩ : ∃ L, L = (putL P[p'] i' true (mkE (s1, s2) n)).length := ⟨_, rfl⟩
      have HL : Hid _ := hL
      have HFI : Hid (L ≤ S) := by rw [hL]; exact hfit
      clear hL hw3
      refine wp_region_noPanic ?_
      refine wp_region_held_drew (S := (fun _ => True)) (by kernel_rfl) (by exact trivial) (fun hHeld => ?_)
      refine take_at (i := 0) 60 (v := ?_) rfl rfl (by kernel_rfl) (by kernel_rfl) (by kernel_rfl) (fun _ _ _ h => h) (by rfl) ?_ hHeld ?_
      rotate_left
      · (intro w hSw; (try dsimp only at hSw); go_simp; try with_reducible rfl)
      simp only [Act.put, List.setIfInBounds_toArray, List.set_cons_zero, List.set_cons_succ]
      refine take_at (i := 1) 61 (v := ?_) rfl rfl (by kernel_rfl) (by kernel_rfl) (by kernel_rfl) (fun _ _ _ h => h) (by rfl) ?_ hHeld ?_
      rotate_left
      · (intro w hSw; (try dsimp only at hSw); go_simp; try with_reducible rfl)
      simp only [Act.put, List.setIfInBounds_toArray, List.set_cons_zero, List.set_cons_succ]
      refine take_at (i := 2) 62 (v := ?_) rfl rfl (by kernel_rfl) (by kernel_rfl) (by kernel_rfl) (fun _ _ _ h => h) (by rfl) ?_ hHeld ?_
      rotate_left
      · (intro w hSw; (try dsimp only at hSw); go_simp; try with_reducible rfl)
      simp only [Act.put, List.setIfInBounds_toArray, List.set_cons_zero, List.set_cons_succ]
      refine take_at (i := 3) 63 (v := ?_) rfl rfl (by kernel_rfl) (by kernel_rfl) (by kernel_rfl) (fun _ _ _ h => h) (by rfl) ?_ hHeld ?_
      rotate_left
      · (intro w hSw; (try dsimp only at hSw); go_simp; try with_reducible rfl)
      simp only [Act.put, List.setIfInBounds_toArray, List.set_cons_zero, List.set_cons_succ]
      refine take_at (i := 4) 64 (v := ?_) rfl rfl (by kernel_rfl) (by kernel_rfl) (by kernel_rfl) (fun _ _ _ h => h) (by rfl) ?_ hHeld ?_
      rotate_left
      · (intro w hSw; (try dsimp only at hSw); go_simp; try with_reducible rfl)
      simp only [Act.put, List.setIfInBounds_toArray, List.set_cons_zero, List.set_cons_succ]
      refine take_at (i := 5) 65 (v := ?_) rfl rfl (by kernel_rfl) (by kernel_rfl) (by kernel_rfl) (fun _ _ _ h => h) (by rfl) ?_ hHeld ?_
      rotate_left
      · (intro w hSw; (try dsimp only at hSw); go_simp; try with_reducible rfl)
      simp only [Act.put, List.setIfInBounds_toArray, List.set_cons_zero, List.set_cons_succ]
      refine take_at (i := 6) 66 (v := ?_) rfl rfl (by kernel_rfl) (by kernel_rfl) (by kernel_rfl) (fun _ _ _ h => h) (by rfl) ?_ hHeld ?_
      rotate_left
      · (intro w hSw; (try dsimp only at hSw); go_simp; try with_reducible rfl)
      simp only [Act.put, List.setIfInBounds_toArray, List.set_cons_zero, List.set_cons_succ]
      refine take_at (i := 7) 67 (v := ?_) rfl rfl (by kernel_rfl) (by kernel_rfl) (by kernel_rfl) (fun _ _ _ h => h) (by rfl) ?_ hHeld ?_
      rotate_left
      · (intro w hSw; (try dsimp only at hSw); go_simp; try with_reducible rfl)
      simp only [Act.put, List.setIfInBounds_toArray, List.set_cons_zero, List.set_cons_succ]
      refine take_at (i := 8) 68 (v := ?_) rfl rfl (by kernel_rfl) (by kernel_rfl) (by kernel_rfl) (fun _ _ _ h => h) (by rfl) ?_ hHeld ?_
      rotate_left
      · (intro w hSw; (try dsimp only at hSw); go_simp; try with_reducible rfl)
      simp only [Act.put, List.setIfInBounds_toArray, List.set_cons_zero, List.set_cons_succ]
      refine run_at (i := 9) rfl (by kernel_rfl) (by rfl) (fun K hK => ?_)
      simp only [List.getElem_toArray, List.getElem_cons_zero, List.getElem_cons_succ]
      go_simp
      go_wp2_with fail
      refine hK.out _ _ (by exact trivial) ?_
      clear hK K
      intro hHeld2
      clear hHeld
      have hHeld := hHeld2
      clear hHeld2
      try simp only [Act.put, List.setIfInBounds_toArray, List.set_cons_zero, List.set_cons_succ]
      refine run_at (i := 10) rfl (by kernel_rfl) (by rfl) (fun K hK => ?_)
      simp only [List.getElem_toArray, List.getElem_cons_zero, List.getElem_cons_succ]
      go_simp
      first | (go_at_call 37; refine Calls.mono HRE.out ?_; rintro e w5 ⟨rfl, hix, hch⟩; have HIX : Hid _ := hix; have HCH : Hid _ := hch; clear hix hch) | (go_at_call 38; refine Calls.mono (HCA.out _ (by first | exact al (Below.refl _ _).drew _ | exact (al (Below.refl _ _) _).drew) (by exact heap_alloc_new w3 _)) ?_; rintro e w4 ⟨v4, rfl, hown4, hb4⟩; have HB4 : Hid (Below w3.heap.size w3 w4) := (by first | exact below_next (al (Below.refl _ _).drew _) hb4 | exact below_next (al (Below.refl _ _) _).drew hb4); obtain ⟨a4, c4, e4, hc4, hn4, hr4⟩ := OwnE.val hown4; rw [← HL.out] at e4 hc4; subst e4; have HRE : Hid _ := replace_s (HI3.out.below HB4.out) p' hp a4 L c4 _ HL.out hr4 hc4 hn4 HFI.out hS.2; clear hown4 hb4 hc4 hn4 hr4)
      go_wp2_with fail
      refine hK.out _ _ (by exact trivial) ?_
      clear hK K
      intro hHeld2
      clear hHeld
      have hHeld := hHeld2
      clear hHeld2
      try simp only [Act.put, List.setIfInBounds_toArray, List.set_cons_zero, List.set_cons_succ]
      refine run_at (i := 11) rfl (by kernel_rfl) (by rfl) (fun K hK => ?_)
      simp only [List.getElem_toArray, List.getElem_cons_zero, List.getElem_cons_succ]
      go_simp
      first | (go_at_call 37; refine Calls.mono HRE.out ?_; rintro e w5 ⟨rfl, hix, hch⟩; have HIX : Hid _ := hix; have HCH : Hid _ := hch; clear hix hch) | (go_at_call 38; refine Calls.mono (HCA.out _ (by first | exact al (Below.refl _ _).drew _ | exact (al (Below.refl _ _) _).drew) (by exact heap_alloc_new w3 _)) ?_; rintro e w4 ⟨v4, rfl, hown4, hb4⟩; have HB4 : Hid (Below w3.heap.size w3 w4) := (by first | exact below_next (al (Below.refl _ _).drew _) hb4 | exact below_next (al (Below.refl _ _) _).drew hb4); obtain ⟨a4, c4, e4, hc4, hn4, hr4⟩ := OwnE.val hown4; rw [← HL.out] at e4 hc4; subst e4; have HRE : Hid _ := replace_s (HI3.out.below HB4.out) p' hp a4 L c4 _ HL.out hr4 hc4 hn4 HFI.out hS.2; clear hown4 hb4 hc4 hn4 hr4)
      go_wp2_with fail
      refine hK.out _ _ (by exact trivial) ?_
      clear hK K
      intro hHeld2
      clear hHeld
      have hHeld := hHeld2
      clear hHeld2
      try simp only [Act.put, List.setIfInBounds_toArray, List.set_cons_zero, List.set_cons_succ]
      refine wpAnyH_done (by kernel_rfl) ?_ _
      refine NoPanic.normal ?_
      go_wp2
      go_ret
      exact ⟨rfl, HIX.out, ((Chg.of_below HB3.out).trans (Chg.of_below (F := foot g v) HB4.out) (fun i hi => .inl hi)).trans HCH.out (fun i hi => .inl hi)⟩
end
end Go.Proofs.Ytibolgpaolnheaa.Str
