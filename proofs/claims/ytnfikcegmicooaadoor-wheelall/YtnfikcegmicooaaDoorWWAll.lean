import Derived.Test.YtnfikcegmicooaaDoorLwF
import Derived.Test.YtnfikcegmicooaaDoorOpenW
namespace Go.Proofs.YtnfikcegmicooaaDoor
set_option linter.unusedVariables false
set_option linter.unusedSimpArgs false
open Go.RowKit Go.Maps Go.Shelf
set_option maxRecDepth 20000 in
set_option maxHeartbeats 6400000 in
theorem wheelAll_walk (n0 n1 : Int) (a : Option Addr) (len cap : Nat) (xs : List Wop) (w : World) (w0 : (Lit.int .u64 n0).wf = true) (w1 : (Lit.int .u64 n1).wf = true) (hx : len = xs.length) (hr : RdW w a xs) (hc : len ≤ 4398046511103) (ht : TabZ w) :
    Calls Tryd.prog 8 #[.int .u64 n0, .int .u64 n1, .slice a len cap] w fun e w' => e = .returned (.bool true) ∧ Below w.heap.size w w' := by
  obtain ⟨x0, rfl, -⟩ := u64_of w0
  obtain ⟨x1, rfl, -⟩ := u64_of w1
  have HT : Hid _ := ht
  have HX : Hid _ := hx
  have HRD : Hid _ := hr
  clear ht w0 w1 hx hr
  go_enter Tryd.func8, Tryd.ntmps8
  go_wp2_with fail
  refine Calls.mono (two_t x0 x1 w HT.out) ?_
  rintro e w2 ⟨g1, g2, p, m, q, N, S, V, v, rfl, h2, hS2, hb2⟩
  have H2 : Hid _ := h2
  have HS2 : Hid _ := hS2
  have HB2 : Hid _ := hb2
  clear h2 hS2 hb2
  go_wp2
  go_loopw [10] (fun i wr => ∃ (j : Nat) (N S : Nat → Nat) (L : Nat → List Tm) (V : Nat → Nat → Nat → Value) (v : Nat → Value), j ≤ len ∧ i = .int .i64 (j : Int) ∧ Pr w.heap.size wr g1 g2 p m q N S L V v ∧ Below w.heap.size w wr ∧ (∀ i, (L i).length ≤ j) ∧ ∀ i, S i ≤ j) (fun i _ => len - (intOf i).toNat)
  case atStart => exact ⟨0, N, S, _, V, v, Nat.zero_le _, rfl, H2.out, HB2.out, fun i => by simp, fun i => Nat.le_of_eq (HS2.out i)⟩
  case round =>
    obtain ⟨j, N, S, L, V, v, hj, rfl, hP, hB, hLj, hSj⟩ := hrel
    have HPR : Hid _ := hP
    have HB : Hid _ := hB
    clear hP hB
    by_cases hlt : j < len
    · have hj1 : j < xs.length := by rw [← HX.out]; exact hlt
      obtain ⟨b, o, hab, hok, hrg⟩ := HRD.out j hj1
      obtain ⟨t, hT⟩ : ∃ t, t = xs[j] := ⟨_, rfl⟩
      rw [← hT] at hok hrg
      clear hT
      subst hab
      have hk0 := hrg 0 _ rfl
      have hk1 := hrg 1 _ rfl
      have hk2 := hrg 2 _ rfl
      have hk3 := hrg 3 _ rfl
      rw [Nat.add_zero] at hk0
      have hbl : b < w.heap.size := World.block_lt_of_cell? w _ hk0
      have HSC : Hid (∀ u : World, Below w.heap.size w u → u.cell? ⟨b, o + j * 4, none⟩ = some (.int .i64 t.on) ∧ u.cell? ⟨b, o + j * 4 + 1, none⟩ = some (.int .i64 t.kind) ∧ u.cell? ⟨b, o + j * 4 + 2, none⟩ = some (.int .i64 t.id) ∧ u.cell? ⟨b, o + j * 4 + 3, none⟩ = some (.int .u64 (t.at_ : Int))) := fun u hu =>
        ⟨(hu.cell (p := ⟨b, _, none⟩) hbl).trans hk0, (hu.cell (p := ⟨b, _, none⟩) hbl).trans hk1, (hu.cell (p := ⟨b, _, none⟩) hbl).trans hk2, (hu.cell (p := ⟨b, _, none⟩) hbl).trans hk3⟩
      obtain ⟨r0, r1, r2, r3⟩ := HSC.out wr HB.out
      obtain ⟨i, hi, hand⟩ := and1 t.on
      have hii : (i : Int) < 2 := by omega
      have HS : Hid (∀ (u : World) (N S : Nat → Nat) (L : Nat → List Tm) (V : Nat → Nat → Nat → Value) (v : Nat → Value), Pr w.heap.size u g1 g2 p m q N S L V v → Below w.heap.size w u → u.cell? ⟨g1, i, none⟩ = some (ptr (p i)) ∧ u.cell? ⟨g2, i, none⟩ = some (ptr (q i)) ∧ u.cell? ⟨g1, 0, none⟩ = some (ptr (p 0)) ∧ u.cell? ⟨g2, 0, none⟩ = some (ptr (q 0)) ∧ u.cell? ⟨g1, 1, none⟩ = some (ptr (p 1)) ∧ u.cell? ⟨g2, 1, none⟩ = some (ptr (q 1)) ∧ u.cell? ⟨b, o + j * 4, none⟩ = some (.int .i64 t.on) ∧ u.cell? ⟨b, o + j * 4 + 1, none⟩ = some (.int .i64 t.kind) ∧ u.cell? ⟨b, o + j * 4 + 2, none⟩ = some (.int .i64 t.id) ∧ u.cell? ⟨b, o + j * 4 + 3, none⟩ = some (.int .u64 (t.at_ : Int))) := fun u N S L V v hu hb =>
        ⟨hu.c1 hi, hu.c2 hi, hu.c1 (by decide), hu.c2 (by decide), hu.c1 (by decide), hu.c2 (by decide), HSC.out u hb⟩
      have hSS := HS.out wr N S L V v HPR.out HB.out
      have HOK : Hid _ := hok
      have HLJ : Hid _ := And.intro hLj hSj
      clear hok hrg hk0 hk1 hk2 hk3 hLj hSj
      go_wp2_with (simp only [hand])
      refine wp_region_noPanic ?_
      refine wp_region_held_drew (S := (fun u => u.cell? ⟨g1, i, none⟩ = some (ptr (p i)) ∧ u.cell? ⟨g2, i, none⟩ = some (ptr (q i)) ∧ u.cell? ⟨g1, 0, none⟩ = some (ptr (p 0)) ∧ u.cell? ⟨g2, 0, none⟩ = some (ptr (q 0)) ∧ u.cell? ⟨g1, 1, none⟩ = some (ptr (p 1)) ∧ u.cell? ⟨g2, 1, none⟩ = some (ptr (q 1)) ∧ u.cell? ⟨b, o + j * 4, none⟩ = some (.int .i64 t.on) ∧ u.cell? ⟨b, o + j * 4 + 1, none⟩ = some (.int .i64 t.kind) ∧ u.cell? ⟨b, o + j * 4 + 2, none⟩ = some (.int .i64 t.id) ∧ u.cell? ⟨b, o + j * 4 + 3, none⟩ = some (.int .u64 (t.at_ : Int)))) (by kernel_rfl) (by first | exact hSS | exact hS4 | exact hS5 | exact hS6) (fun hHeld => ?_)
      refine take_at (i := 0) 33 (v := ?_) rfl rfl (by kernel_rfl) (by kernel_rfl) (by kernel_rfl) (fun _ _ _ h => h) (by rfl) ?_ hHeld ?_
      rotate_left
      · (intro w hSw; (try dsimp only at hSw); go_simp; try with_reducible rfl)
      simp only [Act.put, List.setIfInBounds_toArray, List.set_cons_zero, List.set_cons_succ]
      refine take_at (i := 1) 34 (v := ?_) rfl rfl (by kernel_rfl) (by kernel_rfl) (by kernel_rfl) (fun _ _ _ h => h) (by rfl) ?_ hHeld ?_
      rotate_left
      · (intro w hSw; (try dsimp only at hSw); go_simp; try with_reducible rfl)
      simp only [Act.put, List.setIfInBounds_toArray, List.set_cons_zero, List.set_cons_succ]
      refine take_at (i := 2) 35 (v := ?_) rfl rfl (by kernel_rfl) (by kernel_rfl) (by kernel_rfl) (fun _ _ _ h => h) (by rfl) ?_ hHeld ?_
      rotate_left
      · (intro w hSw; (try dsimp only at hSw); go_simp; try with_reducible rfl)
      simp only [Act.put, List.setIfInBounds_toArray, List.set_cons_zero, List.set_cons_succ]
      refine take_at (i := 3) 36 (v := ?_) rfl rfl (by kernel_rfl) (by kernel_rfl) (by kernel_rfl) (fun _ _ _ h => h) (by rfl) ?_ hHeld ?_
      rotate_left
      · (intro w hSw; (try dsimp only at hSw); go_simp; try with_reducible rfl)
      simp only [Act.put, List.setIfInBounds_toArray, List.set_cons_zero, List.set_cons_succ]
      refine take_at (i := 4) 37 (v := ?_) rfl rfl (by kernel_rfl) (by kernel_rfl) (by kernel_rfl) (fun _ _ _ h => h) (by rfl) ?_ hHeld ?_
      rotate_left
      · (intro w hSw; (try dsimp only at hSw); go_simp; try with_reducible rfl)
      simp only [Act.put, List.setIfInBounds_toArray, List.set_cons_zero, List.set_cons_succ]
      refine take_at (i := 5) 38 (v := ?_) rfl rfl (by kernel_rfl) (by kernel_rfl) (by kernel_rfl) (fun _ _ _ h => h) (by rfl) ?_ hHeld ?_
      rotate_left
      · (intro w hSw; (try dsimp only at hSw); go_simp; try with_reducible rfl)
      simp only [Act.put, List.setIfInBounds_toArray, List.set_cons_zero, List.set_cons_succ]
      refine take_at (i := 6) 39 (v := ?_) rfl rfl (by kernel_rfl) (by kernel_rfl) (by kernel_rfl) (fun _ _ _ h => h) (by rfl) ?_ hHeld ?_
      rotate_left
      · (intro w hSw; (try dsimp only at hSw); go_simp; try with_reducible rfl)
      simp only [Act.put, List.setIfInBounds_toArray, List.set_cons_zero, List.set_cons_succ]
      refine take_at (i := 7) 40 (v := ?_) rfl rfl (by kernel_rfl) (by kernel_rfl) (by kernel_rfl) (fun _ _ _ h => h) (by rfl) ?_ hHeld ?_
      rotate_left
      · (intro w hSw; (try dsimp only at hSw); go_simp; try with_reducible rfl)
      simp only [Act.put, List.setIfInBounds_toArray, List.set_cons_zero, List.set_cons_succ]
      refine take_at (i := 8) 41 (v := ?_) rfl rfl (by kernel_rfl) (by kernel_rfl) (by kernel_rfl) (fun _ _ _ h => h) (by rfl) ?_ hHeld ?_
      rotate_left
      · (intro w hSw; (try dsimp only at hSw); go_simp; try with_reducible rfl)
      simp only [Act.put, List.setIfInBounds_toArray, List.set_cons_zero, List.set_cons_succ]
      refine take_at (i := 9) 42 (v := ?_) rfl rfl (by kernel_rfl) (by kernel_rfl) (by kernel_rfl) (fun _ _ _ h => h) (by rfl) ?_ hHeld ?_
      rotate_left
      · (intro w hSw; (try dsimp only at hSw); go_simp; try with_reducible rfl)
      simp only [Act.put, List.setIfInBounds_toArray, List.set_cons_zero, List.set_cons_succ]
      refine take_at (i := 10) 43 (v := ?_) rfl rfl (by kernel_rfl) (by kernel_rfl) (by kernel_rfl) (fun _ _ _ h => h) (by rfl) ?_ hHeld ?_
      rotate_left
      · (intro w hSw; (try dsimp only at hSw); go_simp; try with_reducible rfl)
      simp only [Act.put, List.setIfInBounds_toArray, List.set_cons_zero, List.set_cons_succ]
      refine take_at (i := 11) 44 (v := ?_) rfl rfl (by kernel_rfl) (by kernel_rfl) (by kernel_rfl) (fun _ _ _ h => h) (by rfl) ?_ hHeld ?_
      rotate_left
      · (intro w hSw; (try dsimp only at hSw); go_simp; try with_reducible rfl)
      simp only [Act.put, List.setIfInBounds_toArray, List.set_cons_zero, List.set_cons_succ]
      refine run_at (i := 12) rfl (by kernel_rfl) (by rfl) (fun K hK => ?_)
      simp only [List.getElem_toArray, List.getElem_cons_zero, List.getElem_cons_succ]
      go_simp
      first | (go_at_call 25; refine Calls.mono (plays_t (Wt.below (HPR.out.wt i hi) (Below.refl _ _).drew) (RfW.below (HPR.out.rf i hi) (Below.refl _ _).drew) (TabZ.below HPR.out.tab (Below.refl _ _).drew) t.on t.kind t.id t.at_ HOK.out.2.2.1 (by have := HLJ.out.1 i; omega) (by have := HLJ.out.2 i; omega)) ?_; rintro e w4 ⟨rfl, N4, S4, L4, V4, v4, hw4, hr4, hps4, hs4, hl4⟩; have hst4 := Pr.step (Pr.below HPR.out (Below.refl _ _).drew) hi hw4 hr4 hps4; have HPR4 : Hid _ := hst4.1; have HB4 : Hid (Below w.heap.size w w4) := (HB.out.trans (Below.refl _ _).drew).trans hst4.2; have hS4 := HS.out w4 _ _ _ _ _ HPR4.out HB4.out; have HSL4 : Hid _ := And.intro hs4 hl4; clear hw4 hr4 hps4 hst4 hs4 hl4) | (go_at_call 22; first | (refine Calls.mono (shows_t (HPR5.out.wt 1 (Nat.lt_succ_self 1)) (HPR5.out.rf 1 (Nat.lt_succ_self 1)) HPR5.out.tab) ?_; rintro e w6 ⟨rfl, hb6⟩; have HPR6 : Hid _ := Pr.below HPR5.out hb6; have HB6 : Hid (Below w.heap.size w w6) := below_next HB5.out hb6; have hS6 := HS.out w6 _ _ _ _ _ HPR6.out HB6.out; clear hb6) | (refine Calls.mono (shows_t (HPR4.out.wt 0 (Nat.zero_lt_succ 1)) (HPR4.out.rf 0 (Nat.zero_lt_succ 1)) HPR4.out.tab) ?_; rintro e w5 ⟨rfl, hb5⟩; have HPR5 : Hid _ := Pr.below HPR4.out hb5; have HB5 : Hid (Below w.heap.size w w5) := below_next HB4.out hb5; have hS5 := HS.out w5 _ _ _ _ _ HPR5.out HB5.out; clear hb5))
      go_wp2_with fail
      refine hK.out _ _ (by first | exact hSS | exact hS4 | exact hS5 | exact hS6) ?_
      clear hK K
      intro hHeld2
      clear hHeld
      have hHeld := hHeld2
      clear hHeld2
      try simp only [Act.put, List.setIfInBounds_toArray, List.set_cons_zero, List.set_cons_succ]
      refine take_at (i := 13) 46 (v := ?_) rfl rfl (by kernel_rfl) (by kernel_rfl) (by kernel_rfl) (fun _ _ _ h => h) (by rfl) ?_ hHeld ?_
      rotate_left
      · (intro w hSw; (try dsimp only at hSw); go_simp; try with_reducible rfl)
      simp only [Act.put, List.setIfInBounds_toArray, List.set_cons_zero, List.set_cons_succ]
      refine take_at (i := 14) 47 (v := ?_) rfl rfl (by kernel_rfl) (by kernel_rfl) (by kernel_rfl) (fun _ _ _ h => h) (by rfl) ?_ hHeld ?_
      rotate_left
      · (intro w hSw; (try dsimp only at hSw); go_simp; try with_reducible rfl)
      simp only [Act.put, List.setIfInBounds_toArray, List.set_cons_zero, List.set_cons_succ]
      refine take_at (i := 15) 48 (v := ?_) rfl rfl (by kernel_rfl) (by kernel_rfl) (by kernel_rfl) (fun _ _ _ h => h) (by rfl) ?_ hHeld ?_
      rotate_left
      · (intro w hSw; (try dsimp only at hSw); go_simp; try with_reducible rfl)
      simp only [Act.put, List.setIfInBounds_toArray, List.set_cons_zero, List.set_cons_succ]
      refine take_at (i := 16) 49 (v := ?_) rfl rfl (by kernel_rfl) (by kernel_rfl) (by kernel_rfl) (fun _ _ _ h => h) (by rfl) ?_ hHeld ?_
      rotate_left
      · (intro w hSw; (try dsimp only at hSw); go_simp; try with_reducible rfl)
      simp only [Act.put, List.setIfInBounds_toArray, List.set_cons_zero, List.set_cons_succ]
      refine take_at (i := 17) 50 (v := ?_) rfl rfl (by kernel_rfl) (by kernel_rfl) (by kernel_rfl) (fun _ _ _ h => h) (by rfl) ?_ hHeld ?_
      rotate_left
      · (intro w hSw; (try dsimp only at hSw); go_simp; try with_reducible rfl)
      simp only [Act.put, List.setIfInBounds_toArray, List.set_cons_zero, List.set_cons_succ]
      refine take_at (i := 18) 51 (v := ?_) rfl rfl (by kernel_rfl) (by kernel_rfl) (by kernel_rfl) (fun _ _ _ h => h) (by rfl) ?_ hHeld ?_
      rotate_left
      · (intro w hSw; (try dsimp only at hSw); go_simp; try with_reducible rfl)
      simp only [Act.put, List.setIfInBounds_toArray, List.set_cons_zero, List.set_cons_succ]
      refine take_at (i := 19) 52 (v := ?_) rfl rfl (by kernel_rfl) (by kernel_rfl) (by kernel_rfl) (fun _ _ _ h => h) (by rfl) ?_ hHeld ?_
      rotate_left
      · (intro w hSw; (try dsimp only at hSw); go_simp; try with_reducible rfl)
      simp only [Act.put, List.setIfInBounds_toArray, List.set_cons_zero, List.set_cons_succ]
      refine take_at (i := 20) 53 (v := ?_) rfl rfl (by kernel_rfl) (by kernel_rfl) (by kernel_rfl) (fun _ _ _ h => h) (by rfl) ?_ hHeld ?_
      rotate_left
      · (intro w hSw; (try dsimp only at hSw); go_simp; try with_reducible rfl)
      simp only [Act.put, List.setIfInBounds_toArray, List.set_cons_zero, List.set_cons_succ]
      refine run_at (i := 21) rfl (by kernel_rfl) (by rfl) (fun K hK => ?_)
      simp only [List.getElem_toArray, List.getElem_cons_zero, List.getElem_cons_succ]
      go_simp
      first | (go_at_call 25; refine Calls.mono (plays_t (Wt.below (HPR.out.wt i hi) (Below.refl _ _).drew) (RfW.below (HPR.out.rf i hi) (Below.refl _ _).drew) (TabZ.below HPR.out.tab (Below.refl _ _).drew) t.on t.kind t.id t.at_ HOK.out.2.2.1 (by have := HLJ.out.1 i; omega) (by have := HLJ.out.2 i; omega)) ?_; rintro e w4 ⟨rfl, N4, S4, L4, V4, v4, hw4, hr4, hps4, hs4, hl4⟩; have hst4 := Pr.step (Pr.below HPR.out (Below.refl _ _).drew) hi hw4 hr4 hps4; have HPR4 : Hid _ := hst4.1; have HB4 : Hid (Below w.heap.size w w4) := (HB.out.trans (Below.refl _ _).drew).trans hst4.2; have hS4 := HS.out w4 _ _ _ _ _ HPR4.out HB4.out; have HSL4 : Hid _ := And.intro hs4 hl4; clear hw4 hr4 hps4 hst4 hs4 hl4) | (go_at_call 22; first | (refine Calls.mono (shows_t (HPR5.out.wt 1 (Nat.lt_succ_self 1)) (HPR5.out.rf 1 (Nat.lt_succ_self 1)) HPR5.out.tab) ?_; rintro e w6 ⟨rfl, hb6⟩; have HPR6 : Hid _ := Pr.below HPR5.out hb6; have HB6 : Hid (Below w.heap.size w w6) := below_next HB5.out hb6; have hS6 := HS.out w6 _ _ _ _ _ HPR6.out HB6.out; clear hb6) | (refine Calls.mono (shows_t (HPR4.out.wt 0 (Nat.zero_lt_succ 1)) (HPR4.out.rf 0 (Nat.zero_lt_succ 1)) HPR4.out.tab) ?_; rintro e w5 ⟨rfl, hb5⟩; have HPR5 : Hid _ := Pr.below HPR4.out hb5; have HB5 : Hid (Below w.heap.size w w5) := below_next HB4.out hb5; have hS5 := HS.out w5 _ _ _ _ _ HPR5.out HB5.out; clear hb5))
      go_wp2_with fail
      refine hK.out _ _ (by first | exact hSS | exact hS4 | exact hS5 | exact hS6) ?_
      clear hK K
      intro hHeld2
      clear hHeld
      have hHeld := hHeld2
      clear hHeld2
      try simp only [Act.put, List.setIfInBounds_toArray, List.set_cons_zero, List.set_cons_succ]
      refine take_at (i := 22) 55 (v := ?_) rfl rfl (by kernel_rfl) (by kernel_rfl) (by kernel_rfl) (fun _ _ _ h => h) (by rfl) ?_ hHeld ?_
      rotate_left
      · (intro w hSw; (try dsimp only at hSw); go_simp; try with_reducible rfl)
      simp only [Act.put, List.setIfInBounds_toArray, List.set_cons_zero, List.set_cons_succ]
      refine take_at (i := 23) 56 (v := ?_) rfl rfl (by kernel_rfl) (by kernel_rfl) (by kernel_rfl) (fun _ _ _ h => h) (by rfl) ?_ hHeld ?_
      rotate_left
      · (intro w hSw; (try dsimp only at hSw); go_simp; try with_reducible rfl)
      simp only [Act.put, List.setIfInBounds_toArray, List.set_cons_zero, List.set_cons_succ]
      refine take_at (i := 24) 57 (v := ?_) rfl rfl (by kernel_rfl) (by kernel_rfl) (by kernel_rfl) (fun _ _ _ h => h) (by rfl) ?_ hHeld ?_
      rotate_left
      · (intro w hSw; (try dsimp only at hSw); go_simp; try with_reducible rfl)
      simp only [Act.put, List.setIfInBounds_toArray, List.set_cons_zero, List.set_cons_succ]
      refine take_at (i := 25) 58 (v := ?_) rfl rfl (by kernel_rfl) (by kernel_rfl) (by kernel_rfl) (fun _ _ _ h => h) (by rfl) ?_ hHeld ?_
      rotate_left
      · (intro w hSw; (try dsimp only at hSw); go_simp; try with_reducible rfl)
      simp only [Act.put, List.setIfInBounds_toArray, List.set_cons_zero, List.set_cons_succ]
      refine take_at (i := 26) 59 (v := ?_) rfl rfl (by kernel_rfl) (by kernel_rfl) (by kernel_rfl) (fun _ _ _ h => h) (by rfl) ?_ hHeld ?_
      rotate_left
      · (intro w hSw; (try dsimp only at hSw); go_simp; try with_reducible rfl)
      simp only [Act.put, List.setIfInBounds_toArray, List.set_cons_zero, List.set_cons_succ]
      refine take_at (i := 27) 60 (v := ?_) rfl rfl (by kernel_rfl) (by kernel_rfl) (by kernel_rfl) (fun _ _ _ h => h) (by rfl) ?_ hHeld ?_
      rotate_left
      · (intro w hSw; (try dsimp only at hSw); go_simp; try with_reducible rfl)
      simp only [Act.put, List.setIfInBounds_toArray, List.set_cons_zero, List.set_cons_succ]
      refine take_at (i := 28) 61 (v := ?_) rfl rfl (by kernel_rfl) (by kernel_rfl) (by kernel_rfl) (fun _ _ _ h => h) (by rfl) ?_ hHeld ?_
      rotate_left
      · (intro w hSw; (try dsimp only at hSw); go_simp; try with_reducible rfl)
      simp only [Act.put, List.setIfInBounds_toArray, List.set_cons_zero, List.set_cons_succ]
      refine take_at (i := 29) 62 (v := ?_) rfl rfl (by kernel_rfl) (by kernel_rfl) (by kernel_rfl) (fun _ _ _ h => h) (by rfl) ?_ hHeld ?_
      rotate_left
      · (intro w hSw; (try dsimp only at hSw); go_simp; try with_reducible rfl)
      simp only [Act.put, List.setIfInBounds_toArray, List.set_cons_zero, List.set_cons_succ]
      refine take_at (i := 30) 63 (v := ?_) rfl rfl (by kernel_rfl) (by kernel_rfl) (by kernel_rfl) (fun _ _ _ h => h) (by rfl) ?_ hHeld ?_
      rotate_left
      · (intro w hSw; (try dsimp only at hSw); go_simp; try with_reducible rfl)
      simp only [Act.put, List.setIfInBounds_toArray, List.set_cons_zero, List.set_cons_succ]
      refine run_at (i := 31) rfl (by kernel_rfl) (by rfl) (fun K hK => ?_)
      simp only [List.getElem_toArray, List.getElem_cons_zero, List.getElem_cons_succ]
      go_simp
      first | (go_at_call 25; refine Calls.mono (plays_t (Wt.below (HPR.out.wt i hi) (Below.refl _ _).drew) (RfW.below (HPR.out.rf i hi) (Below.refl _ _).drew) (TabZ.below HPR.out.tab (Below.refl _ _).drew) t.on t.kind t.id t.at_ HOK.out.2.2.1 (by have := HLJ.out.1 i; omega) (by have := HLJ.out.2 i; omega)) ?_; rintro e w4 ⟨rfl, N4, S4, L4, V4, v4, hw4, hr4, hps4, hs4, hl4⟩; have hst4 := Pr.step (Pr.below HPR.out (Below.refl _ _).drew) hi hw4 hr4 hps4; have HPR4 : Hid _ := hst4.1; have HB4 : Hid (Below w.heap.size w w4) := (HB.out.trans (Below.refl _ _).drew).trans hst4.2; have hS4 := HS.out w4 _ _ _ _ _ HPR4.out HB4.out; have HSL4 : Hid _ := And.intro hs4 hl4; clear hw4 hr4 hps4 hst4 hs4 hl4) | (go_at_call 22; first | (refine Calls.mono (shows_t (HPR5.out.wt 1 (Nat.lt_succ_self 1)) (HPR5.out.rf 1 (Nat.lt_succ_self 1)) HPR5.out.tab) ?_; rintro e w6 ⟨rfl, hb6⟩; have HPR6 : Hid _ := Pr.below HPR5.out hb6; have HB6 : Hid (Below w.heap.size w w6) := below_next HB5.out hb6; have hS6 := HS.out w6 _ _ _ _ _ HPR6.out HB6.out; clear hb6) | (refine Calls.mono (shows_t (HPR4.out.wt 0 (Nat.zero_lt_succ 1)) (HPR4.out.rf 0 (Nat.zero_lt_succ 1)) HPR4.out.tab) ?_; rintro e w5 ⟨rfl, hb5⟩; have HPR5 : Hid _ := Pr.below HPR4.out hb5; have HB5 : Hid (Below w.heap.size w w5) := below_next HB4.out hb5; have hS5 := HS.out w5 _ _ _ _ _ HPR5.out HB5.out; clear hb5))
      go_wp2_with fail
      refine hK.out _ _ (by first | exact hSS | exact hS4 | exact hS5 | exact hS6) ?_
      clear hK K
      intro hHeld2
      clear hHeld
      have hHeld := hHeld2
      clear hHeld2
      try simp only [Act.put, List.setIfInBounds_toArray, List.set_cons_zero, List.set_cons_succ]
      refine take_at (i := 32) 65 (v := ?_) rfl rfl (by kernel_rfl) (by kernel_rfl) (by kernel_rfl) (fun _ _ _ h => h) (by rfl) ?_ hHeld ?_
      rotate_left
      · (intro w hSw; (try dsimp only at hSw); go_simp; try with_reducible rfl)
      simp only [Act.put, List.setIfInBounds_toArray, List.set_cons_zero, List.set_cons_succ]
      refine take_at (i := 33) 66 (v := ?_) rfl rfl (by kernel_rfl) (by kernel_rfl) (by kernel_rfl) (fun _ _ _ h => h) (by rfl) ?_ hHeld ?_
      rotate_left
      · (intro w hSw; (try dsimp only at hSw); go_simp; try with_reducible rfl)
      simp only [Act.put, List.setIfInBounds_toArray, List.set_cons_zero, List.set_cons_succ]
      refine wpAnyH_done (by kernel_rfl) ?_ _
      refine NoPanic.normal ?_
      go_wp2
      go_roundw
      case rel =>
        refine ⟨j + 1, _, _, _, _, _, hlt, by go_num, HPR6.out, HB6.out, fun y => ?_, fun y => ?_⟩
        · by_cases e : y = i
          · subst e
            rw [upd_same]
            have := HSL4.out.2
            have := HLJ.out.1 y
            omega
          · rw [upd_other _ e]
            have := HLJ.out.1 y
            omega
        · by_cases e : y = i
          · subst e
            rw [upd_same]
            have := HSL4.out.1
            have := HLJ.out.2 y
            omega
          · rw [upd_other _ e]
            have := HLJ.out.2 y
            omega
      case measure => simp [intOf]; omega
    · have hjn : j = len := by omega
      have HS : Hid (∀ (u : World), Pr w.heap.size u g1 g2 p m q N S L V v → u.cell? ⟨g1, 0, none⟩ = some (ptr (p 0)) ∧ u.cell? ⟨g2, 0, none⟩ = some (ptr (q 0)) ∧ u.cell? ⟨g1, 1, none⟩ = some (ptr (p 1)) ∧ u.cell? ⟨g2, 1, none⟩ = some (ptr (q 1))) := fun u hu => ⟨hu.c1 (by decide), hu.c2 (by decide), hu.c1 (by decide), hu.c2 (by decide)⟩
      have hSS := HS.out wr HPR.out
      clear hLj hSj
      go_wp2
      refine wp_region_noPanic ?_
      refine wp_region_held_drew (S := (fun u => u.cell? ⟨g1, 0, none⟩ = some (ptr (p 0)) ∧ u.cell? ⟨g2, 0, none⟩ = some (ptr (q 0)) ∧ u.cell? ⟨g1, 1, none⟩ = some (ptr (p 1)) ∧ u.cell? ⟨g2, 1, none⟩ = some (ptr (q 1)))) (by kernel_rfl) (by first | exact hSS | exact hS5 | exact hS6) (fun hHeld => ?_)
      refine take_at (i := 0) 67 (v := ?_) rfl rfl (by kernel_rfl) (by kernel_rfl) (by kernel_rfl) (fun _ _ _ h => h) (by rfl) ?_ hHeld ?_
      rotate_left
      · (intro w hSw; (try dsimp only at hSw); go_simp; try with_reducible rfl)
      simp only [Act.put, List.setIfInBounds_toArray, List.set_cons_zero, List.set_cons_succ]
      refine take_at (i := 1) 68 (v := ?_) rfl rfl (by kernel_rfl) (by kernel_rfl) (by kernel_rfl) (fun _ _ _ h => h) (by rfl) ?_ hHeld ?_
      rotate_left
      · (intro w hSw; (try dsimp only at hSw); go_simp; try with_reducible rfl)
      simp only [Act.put, List.setIfInBounds_toArray, List.set_cons_zero, List.set_cons_succ]
      refine take_at (i := 2) 69 (v := ?_) rfl rfl (by kernel_rfl) (by kernel_rfl) (by kernel_rfl) (fun _ _ _ h => h) (by rfl) ?_ hHeld ?_
      rotate_left
      · (intro w hSw; (try dsimp only at hSw); go_simp; try with_reducible rfl)
      simp only [Act.put, List.setIfInBounds_toArray, List.set_cons_zero, List.set_cons_succ]
      refine take_at (i := 3) 70 (v := ?_) rfl rfl (by kernel_rfl) (by kernel_rfl) (by kernel_rfl) (fun _ _ _ h => h) (by rfl) ?_ hHeld ?_
      rotate_left
      · (intro w hSw; (try dsimp only at hSw); go_simp; try with_reducible rfl)
      simp only [Act.put, List.setIfInBounds_toArray, List.set_cons_zero, List.set_cons_succ]
      refine take_at (i := 4) 71 (v := ?_) rfl rfl (by kernel_rfl) (by kernel_rfl) (by kernel_rfl) (fun _ _ _ h => h) (by rfl) ?_ hHeld ?_
      rotate_left
      · (intro w hSw; (try dsimp only at hSw); go_simp; try with_reducible rfl)
      simp only [Act.put, List.setIfInBounds_toArray, List.set_cons_zero, List.set_cons_succ]
      refine take_at (i := 5) 72 (v := ?_) rfl rfl (by kernel_rfl) (by kernel_rfl) (by kernel_rfl) (fun _ _ _ h => h) (by rfl) ?_ hHeld ?_
      rotate_left
      · (intro w hSw; (try dsimp only at hSw); go_simp; try with_reducible rfl)
      simp only [Act.put, List.setIfInBounds_toArray, List.set_cons_zero, List.set_cons_succ]
      refine run_at (i := 6) rfl (by kernel_rfl) (by rfl) (fun K hK => ?_)
      simp only [List.getElem_toArray, List.getElem_cons_zero, List.getElem_cons_succ]
      go_simp
      (go_at_call 22; first | (refine Calls.mono (shows_t (HPR5.out.wt 1 (Nat.lt_succ_self 1)) (HPR5.out.rf 1 (Nat.lt_succ_self 1)) HPR5.out.tab) ?_; rintro e w6 ⟨rfl, hb6⟩; have HPR6 : Hid _ := Pr.below HPR5.out hb6; have HB6 : Hid (Below w.heap.size w w6) := below_next HB5.out hb6; have hS6 := HS.out w6 HPR6.out; clear hb6) | (refine Calls.mono (shows_t (Wt.below (HPR.out.wt 0 (Nat.zero_lt_succ 1)) (Below.refl _ _).drew) (RfW.below (HPR.out.rf 0 (Nat.zero_lt_succ 1)) (Below.refl _ _).drew) (TabZ.below HPR.out.tab (Below.refl _ _).drew)) ?_; rintro e w5 ⟨rfl, hb5⟩; have HPR5 : Hid _ := Pr.below (Pr.below HPR.out (Below.refl _ _).drew) hb5; have HB5 : Hid (Below w.heap.size w w5) := below_next (HB.out.trans (Below.refl _ _).drew) hb5; have hS5 := HS.out w5 HPR5.out; clear hb5))
      go_wp2_with fail
      refine hK.out _ _ (by first | exact hSS | exact hS5 | exact hS6) ?_
      clear hK K
      intro hHeld2
      clear hHeld
      have hHeld := hHeld2
      clear hHeld2
      try simp only [Act.put, List.setIfInBounds_toArray, List.set_cons_zero, List.set_cons_succ]
      refine take_at (i := 7) 74 (v := ?_) rfl rfl (by kernel_rfl) (by kernel_rfl) (by kernel_rfl) (fun _ _ _ h => h) (by rfl) ?_ hHeld ?_
      rotate_left
      · (intro w hSw; (try dsimp only at hSw); go_simp; try with_reducible rfl)
      simp only [Act.put, List.setIfInBounds_toArray, List.set_cons_zero, List.set_cons_succ]
      refine take_at (i := 8) 75 (v := ?_) rfl rfl (by kernel_rfl) (by kernel_rfl) (by kernel_rfl) (fun _ _ _ h => h) (by rfl) ?_ hHeld ?_
      rotate_left
      · (intro w hSw; (try dsimp only at hSw); go_simp; try with_reducible rfl)
      simp only [Act.put, List.setIfInBounds_toArray, List.set_cons_zero, List.set_cons_succ]
      refine take_at (i := 9) 76 (v := ?_) rfl rfl (by kernel_rfl) (by kernel_rfl) (by kernel_rfl) (fun _ _ _ h => h) (by rfl) ?_ hHeld ?_
      rotate_left
      · (intro w hSw; (try dsimp only at hSw); go_simp; try with_reducible rfl)
      simp only [Act.put, List.setIfInBounds_toArray, List.set_cons_zero, List.set_cons_succ]
      refine take_at (i := 10) 77 (v := ?_) rfl rfl (by kernel_rfl) (by kernel_rfl) (by kernel_rfl) (fun _ _ _ h => h) (by rfl) ?_ hHeld ?_
      rotate_left
      · (intro w hSw; (try dsimp only at hSw); go_simp; try with_reducible rfl)
      simp only [Act.put, List.setIfInBounds_toArray, List.set_cons_zero, List.set_cons_succ]
      refine take_at (i := 11) 78 (v := ?_) rfl rfl (by kernel_rfl) (by kernel_rfl) (by kernel_rfl) (fun _ _ _ h => h) (by rfl) ?_ hHeld ?_
      rotate_left
      · (intro w hSw; (try dsimp only at hSw); go_simp; try with_reducible rfl)
      simp only [Act.put, List.setIfInBounds_toArray, List.set_cons_zero, List.set_cons_succ]
      refine take_at (i := 12) 79 (v := ?_) rfl rfl (by kernel_rfl) (by kernel_rfl) (by kernel_rfl) (fun _ _ _ h => h) (by rfl) ?_ hHeld ?_
      rotate_left
      · (intro w hSw; (try dsimp only at hSw); go_simp; try with_reducible rfl)
      simp only [Act.put, List.setIfInBounds_toArray, List.set_cons_zero, List.set_cons_succ]
      refine take_at (i := 13) 80 (v := ?_) rfl rfl (by kernel_rfl) (by kernel_rfl) (by kernel_rfl) (fun _ _ _ h => h) (by rfl) ?_ hHeld ?_
      rotate_left
      · (intro w hSw; (try dsimp only at hSw); go_simp; try with_reducible rfl)
      simp only [Act.put, List.setIfInBounds_toArray, List.set_cons_zero, List.set_cons_succ]
      refine run_at (i := 14) rfl (by kernel_rfl) (by rfl) (fun K hK => ?_)
      simp only [List.getElem_toArray, List.getElem_cons_zero, List.getElem_cons_succ]
      go_simp
      (go_at_call 22; first | (refine Calls.mono (shows_t (HPR5.out.wt 1 (Nat.lt_succ_self 1)) (HPR5.out.rf 1 (Nat.lt_succ_self 1)) HPR5.out.tab) ?_; rintro e w6 ⟨rfl, hb6⟩; have HPR6 : Hid _ := Pr.below HPR5.out hb6; have HB6 : Hid (Below w.heap.size w w6) := below_next HB5.out hb6; have hS6 := HS.out w6 HPR6.out; clear hb6) | (refine Calls.mono (shows_t (Wt.below (HPR.out.wt 0 (Nat.zero_lt_succ 1)) (Below.refl _ _).drew) (RfW.below (HPR.out.rf 0 (Nat.zero_lt_succ 1)) (Below.refl _ _).drew) (TabZ.below HPR.out.tab (Below.refl _ _).drew)) ?_; rintro e w5 ⟨rfl, hb5⟩; have HPR5 : Hid _ := Pr.below (Pr.below HPR.out (Below.refl _ _).drew) hb5; have HB5 : Hid (Below w.heap.size w w5) := below_next (HB.out.trans (Below.refl _ _).drew) hb5; have hS5 := HS.out w5 HPR5.out; clear hb5))
      go_wp2_with fail
      refine hK.out _ _ (by first | exact hSS | exact hS5 | exact hS6) ?_
      clear hK K
      intro hHeld2
      clear hHeld
      have hHeld := hHeld2
      clear hHeld2
      try simp only [Act.put, List.setIfInBounds_toArray, List.set_cons_zero, List.set_cons_succ]
      refine take_at (i := 15) 82 (v := ?_) rfl rfl (by kernel_rfl) (by kernel_rfl) (by kernel_rfl) (fun _ _ _ h => h) (by rfl) ?_ hHeld ?_
      rotate_left
      · (intro w hSw; (try dsimp only at hSw); go_simp; try with_reducible rfl)
      simp only [Act.put, List.setIfInBounds_toArray, List.set_cons_zero, List.set_cons_succ]
      refine take_at (i := 16) 6 (v := ?_) rfl rfl (by kernel_rfl) (by kernel_rfl) (by kernel_rfl) (fun _ _ _ h => h) (by rfl) ?_ hHeld ?_
      rotate_left
      · (intro w hSw; (try dsimp only at hSw); go_simp; try with_reducible rfl)
      simp only [Act.put, List.setIfInBounds_toArray, List.set_cons_zero, List.set_cons_succ]
      refine wpAnyH_done (by kernel_rfl) ?_ _
      refine NoPanic.normal ?_
      go_wp2
      go_ret
      exact ⟨rfl, HB6.out⟩
end Go.Proofs.YtnfikcegmicooaaDoor
