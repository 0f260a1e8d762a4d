import Derived.Test.YtnfikcegmicooabDoorLwF
import Derived.Test.YtnfikcegmicooabDoorOpenW
namespace Go.Proofs.YtnfikcegmicooabDoor
set_option linter.unusedVariables false
set_option linter.unusedSimpArgs false
open Go.RowKit Go.Maps Go.Shelf
set_option maxRecDepth 20000 in
set_option maxHeartbeats 1600000 in
theorem some_t (g0 : Nat) (k kind : Int) (bb : Bool) (hbb : bb = decide (k = kind)) (w : World) (hc : w.cell? ⟨g0, 0, none⟩ = some (.int .i64 k)) :
    Calls Tryd.prog 16 #[.slice (some ⟨g0, 0, none⟩) 1 1, .int .i64 kind] w fun e w' => e = .returned (.bool bb) ∧ w' = w := by
  go_enter Tryd.func16, Tryd.ntmps16
  go_wp2
  go_loop [5] (fun i => i = .int .i64 0 ∨ (i = .int .i64 1 ∧ k ≠ kind)) (fun i => 1 - (intOf i).toNat)
  case atStart => exact .inl rfl
  case round =>
    rcases hrel with rfl | ⟨rfl, hne⟩
    · by_cases h : k = kind
      · subst h
        obtain rfl : bb = true := by rw [hbb]; simp
        clear hbb
        go_wp2
        go_ret
        exact ⟨rfl, rfl⟩
      · have hb : (k == kind) = false := by simp [h]
        go_wp2
        go_round
        case rel => exact .inr ⟨rfl, h⟩
        case measure => simp [intOf]
    · obtain rfl : bb = false := by rw [hbb]; simp [hne]
      clear hbb
      go_wp2
      go_ret
      exact ⟨rfl, rfl⟩
set_option maxRecDepth 20000 in
set_option maxHeartbeats 6400000 in
theorem holds_t (x0 x1 : Nat) (a : Option Addr) (len cap g0 : Nat) (k : Int) (xs : List Wop) (w : World) (hx : len = xs.length) (hr : RdW w a xs) (hc : len ≤ 4398046511103) (hk : w.cell? ⟨g0, 0, none⟩ = some (.int .i64 k)) (ht : TabZ w) :
    Calls Tryd.prog 7 #[.int .u64 (x0 : Int), .int .u64 (x1 : Int), .slice a len cap, .slice (some ⟨g0, 0, none⟩) 1 1] w fun e w' => e = .returned (.bool true) ∧ Below w.heap.size w w' := by
  have HT : Hid _ := ht
  have HX : Hid _ := hx
  have HRD : Hid _ := hr
  have hgl : g0 < w.heap.size := World.block_lt_of_cell? w _ hk
  have HKK : Hid (∀ u : World, Below w.heap.size w u → u.cell? ⟨g0, 0, none⟩ = some (.int .i64 k)) := fun u hu => (hu.cell (p := ⟨g0, 0, none⟩) hgl).trans hk
  clear ht hx hr hk
  go_enter Tryd.func7, Tryd.ntmps7
  go_wp2_with fail
  refine Calls.mono (two_t x0 x1 w HT.out) ?_
  rintro e w2 ⟨g1, g2, p, m, q, N, S, V, v, rfl, h2, hS2, hb2⟩
  have HPR : Hid _ := h2
  have HS2 : Hid _ := hS2
  have HB : Hid _ := hb2
  clear h2 hS2 hb2
  have HS : Hid (∀ (u : World), Pr w.heap.size u g1 g2 p m q N S (fun _ => []) V v → u.cell? ⟨g1, 0, none⟩ = some (ptr (p 0)) ∧ u.cell? ⟨g2, 0, none⟩ = some (ptr (q 0)) ∧ u.cell? ⟨g1, 1, none⟩ = some (ptr (p 1)) ∧ u.cell? ⟨g2, 1, none⟩ = some (ptr (q 1))) := fun u hu => ⟨hu.c1 (by decide), hu.c2 (by decide), hu.c1 (by decide), hu.c2 (by decide)⟩
  have hSS := HS.out w2 HPR.out
  go_wp2
  refine wp_region_noPanic ?_
  refine wp_region_held_drew (S := (fun u => u.cell? ⟨g1, 0, none⟩ = some (ptr (p 0)) ∧ u.cell? ⟨g2, 0, none⟩ = some (ptr (q 0)) ∧ u.cell? ⟨g1, 1, none⟩ = some (ptr (p 1)) ∧ u.cell? ⟨g2, 1, none⟩ = some (ptr (q 1)))) (by kernel_rfl) (by first | exact hSS | exact hS5 | exact hS6) (fun hHeld => ?_)
  refine take_at (i := 0) 23 (v := ?_) rfl rfl (by kernel_rfl) (by kernel_rfl) (by kernel_rfl) (fun _ _ _ h => h) (by rfl) ?_ hHeld ?_
  rotate_left
  · (intro w hSw; (try dsimp only at hSw); go_simp; try with_reducible rfl)
  simp only [Act.put, List.setIfInBounds_toArray, List.set_cons_zero, List.set_cons_succ]
  refine take_at (i := 1) 24 (v := ?_) rfl rfl (by kernel_rfl) (by kernel_rfl) (by kernel_rfl) (fun _ _ _ h => h) (by rfl) ?_ hHeld ?_
  rotate_left
  · (intro w hSw; (try dsimp only at hSw); go_simp; try with_reducible rfl)
  simp only [Act.put, List.setIfInBounds_toArray, List.set_cons_zero, List.set_cons_succ]
  refine take_at (i := 2) 25 (v := ?_) rfl rfl (by kernel_rfl) (by kernel_rfl) (by kernel_rfl) (fun _ _ _ h => h) (by rfl) ?_ hHeld ?_
  rotate_left
  · (intro w hSw; (try dsimp only at hSw); go_simp; try with_reducible rfl)
  simp only [Act.put, List.setIfInBounds_toArray, List.set_cons_zero, List.set_cons_succ]
  refine take_at (i := 3) 26 (v := ?_) rfl rfl (by kernel_rfl) (by kernel_rfl) (by kernel_rfl) (fun _ _ _ h => h) (by rfl) ?_ hHeld ?_
  rotate_left
  · (intro w hSw; (try dsimp only at hSw); go_simp; try with_reducible rfl)
  simp only [Act.put, List.setIfInBounds_toArray, List.set_cons_zero, List.set_cons_succ]
  refine take_at (i := 4) 27 (v := ?_) rfl rfl (by kernel_rfl) (by kernel_rfl) (by kernel_rfl) (fun _ _ _ h => h) (by rfl) ?_ hHeld ?_
  rotate_left
  · (intro w hSw; (try dsimp only at hSw); go_simp; try with_reducible rfl)
  simp only [Act.put, List.setIfInBounds_toArray, List.set_cons_zero, List.set_cons_succ]
  refine take_at (i := 5) 28 (v := ?_) rfl rfl (by kernel_rfl) (by kernel_rfl) (by kernel_rfl) (fun _ _ _ h => h) (by rfl) ?_ hHeld ?_
  rotate_left
  · (intro w hSw; (try dsimp only at hSw); go_simp; try with_reducible rfl)
  simp only [Act.put, List.setIfInBounds_toArray, List.set_cons_zero, List.set_cons_succ]
  refine take_at (i := 6) 29 (v := ?_) rfl rfl (by kernel_rfl) (by kernel_rfl) (by kernel_rfl) (fun _ _ _ h => h) (by rfl) ?_ hHeld ?_
  rotate_left
  · (intro w hSw; (try dsimp only at hSw); go_simp; try with_reducible rfl)
  simp only [Act.put, List.setIfInBounds_toArray, List.set_cons_zero, List.set_cons_succ]
  refine take_at (i := 7) 30 (v := ?_) rfl rfl (by kernel_rfl) (by kernel_rfl) (by kernel_rfl) (fun _ _ _ h => h) (by rfl) ?_ hHeld ?_
  rotate_left
  · (intro w hSw; (try dsimp only at hSw); go_simp; try with_reducible rfl)
  simp only [Act.put, List.setIfInBounds_toArray, List.set_cons_zero, List.set_cons_succ]
  refine take_at (i := 8) 31 (v := ?_) rfl rfl (by kernel_rfl) (by kernel_rfl) (by kernel_rfl) (fun _ _ _ h => h) (by rfl) ?_ hHeld ?_
  rotate_left
  · (intro w hSw; (try dsimp only at hSw); go_simp; try with_reducible rfl)
  simp only [Act.put, List.setIfInBounds_toArray, List.set_cons_zero, List.set_cons_succ]
  refine run_at (i := 9) rfl (by kernel_rfl) (by rfl) (fun K hK => ?_)
  simp only [List.getElem_toArray, List.getElem_cons_zero, List.getElem_cons_succ]
  go_simp
  (go_at_call 15; first | (refine Calls.mono (shows_t (HPR5.out.wt 1 (Nat.lt_succ_self 1)) (HPR5.out.rf 1 (Nat.lt_succ_self 1)) HPR5.out.tab) ?_; rintro e w6 ⟨rfl, hb6⟩; have HPR6 : Hid _ := Pr.below HPR5.out hb6; have HB6 : Hid (Below w.heap.size w w6) := below_next HB5.out hb6; have hS6 := HS.out w6 HPR6.out; clear hb6) | (refine Calls.mono (shows_t (Wt.below (HPR.out.wt 0 (Nat.zero_lt_succ 1)) (Below.refl _ _).drew) (RfW.below (HPR.out.rf 0 (Nat.zero_lt_succ 1)) (Below.refl _ _).drew) (TabZ.below HPR.out.tab (Below.refl _ _).drew)) ?_; rintro e w5 ⟨rfl, hb5⟩; have HPR5 : Hid _ := Pr.below (Pr.below HPR.out (Below.refl _ _).drew) hb5; have HB5 : Hid (Below w.heap.size w w5) := below_next (HB.out.trans (Below.refl _ _).drew) hb5; have hS5 := HS.out w5 HPR5.out; clear hb5))
  go_wp2_with fail
  refine hK.out _ _ (by first | exact hSS | exact hS5 | exact hS6) ?_
  clear hK K
  intro hHeld2
  clear hHeld
  have hHeld := hHeld2
  clear hHeld2
  try simp only [Act.put, List.setIfInBounds_toArray, List.set_cons_zero, List.set_cons_succ]
  refine take_at (i := 10) 33 (v := ?_) rfl rfl (by kernel_rfl) (by kernel_rfl) (by kernel_rfl) (fun _ _ _ h => h) (by rfl) ?_ hHeld ?_
  rotate_left
  · (intro w hSw; (try dsimp only at hSw); go_simp; try with_reducible rfl)
  simp only [Act.put, List.setIfInBounds_toArray, List.set_cons_zero, List.set_cons_succ]
  refine take_at (i := 11) 34 (v := ?_) rfl rfl (by kernel_rfl) (by kernel_rfl) (by kernel_rfl) (fun _ _ _ h => h) (by rfl) ?_ hHeld ?_
  rotate_left
  · (intro w hSw; (try dsimp only at hSw); go_simp; try with_reducible rfl)
  simp only [Act.put, List.setIfInBounds_toArray, List.set_cons_zero, List.set_cons_succ]
  refine take_at (i := 12) 35 (v := ?_) rfl rfl (by kernel_rfl) (by kernel_rfl) (by kernel_rfl) (fun _ _ _ h => h) (by rfl) ?_ hHeld ?_
  rotate_left
  · (intro w hSw; (try dsimp only at hSw); go_simp; try with_reducible rfl)
  simp only [Act.put, List.setIfInBounds_toArray, List.set_cons_zero, List.set_cons_succ]
  refine take_at (i := 13) 36 (v := ?_) rfl rfl (by kernel_rfl) (by kernel_rfl) (by kernel_rfl) (fun _ _ _ h => h) (by rfl) ?_ hHeld ?_
  rotate_left
  · (intro w hSw; (try dsimp only at hSw); go_simp; try with_reducible rfl)
  simp only [Act.put, List.setIfInBounds_toArray, List.set_cons_zero, List.set_cons_succ]
  refine take_at (i := 14) 37 (v := ?_) rfl rfl (by kernel_rfl) (by kernel_rfl) (by kernel_rfl) (fun _ _ _ h => h) (by rfl) ?_ hHeld ?_
  rotate_left
  · (intro w hSw; (try dsimp only at hSw); go_simp; try with_reducible rfl)
  simp only [Act.put, List.setIfInBounds_toArray, List.set_cons_zero, List.set_cons_succ]
  refine take_at (i := 15) 38 (v := ?_) rfl rfl (by kernel_rfl) (by kernel_rfl) (by kernel_rfl) (fun _ _ _ h => h) (by rfl) ?_ hHeld ?_
  rotate_left
  · (intro w hSw; (try dsimp only at hSw); go_simp; try with_reducible rfl)
  simp only [Act.put, List.setIfInBounds_toArray, List.set_cons_zero, List.set_cons_succ]
  refine take_at (i := 16) 39 (v := ?_) rfl rfl (by kernel_rfl) (by kernel_rfl) (by kernel_rfl) (fun _ _ _ h => h) (by rfl) ?_ hHeld ?_
  rotate_left
  · (intro w hSw; (try dsimp only at hSw); go_simp; try with_reducible rfl)
  simp only [Act.put, List.setIfInBounds_toArray, List.set_cons_zero, List.set_cons_succ]
  refine take_at (i := 17) 40 (v := ?_) rfl rfl (by kernel_rfl) (by kernel_rfl) (by kernel_rfl) (fun _ _ _ h => h) (by rfl) ?_ hHeld ?_
  rotate_left
  · (intro w hSw; (try dsimp only at hSw); go_simp; try with_reducible rfl)
  simp only [Act.put, List.setIfInBounds_toArray, List.set_cons_zero, List.set_cons_succ]
  refine take_at (i := 18) 41 (v := ?_) rfl rfl (by kernel_rfl) (by kernel_rfl) (by kernel_rfl) (fun _ _ _ h => h) (by rfl) ?_ hHeld ?_
  rotate_left
  · (intro w hSw; (try dsimp only at hSw); go_simp; try with_reducible rfl)
  simp only [Act.put, List.setIfInBounds_toArray, List.set_cons_zero, List.set_cons_succ]
  refine run_at (i := 19) rfl (by kernel_rfl) (by rfl) (fun K hK => ?_)
  simp only [List.getElem_toArray, List.getElem_cons_zero, List.getElem_cons_succ]
  go_simp
  (go_at_call 15; first | (refine Calls.mono (shows_t (HPR5.out.wt 1 (Nat.lt_succ_self 1)) (HPR5.out.rf 1 (Nat.lt_succ_self 1)) HPR5.out.tab) ?_; rintro e w6 ⟨rfl, hb6⟩; have HPR6 : Hid _ := Pr.below HPR5.out hb6; have HB6 : Hid (Below w.heap.size w w6) := below_next HB5.out hb6; have hS6 := HS.out w6 HPR6.out; clear hb6) | (refine Calls.mono (shows_t (Wt.below (HPR.out.wt 0 (Nat.zero_lt_succ 1)) (Below.refl _ _).drew) (RfW.below (HPR.out.rf 0 (Nat.zero_lt_succ 1)) (Below.refl _ _).drew) (TabZ.below HPR.out.tab (Below.refl _ _).drew)) ?_; rintro e w5 ⟨rfl, hb5⟩; have HPR5 : Hid _ := Pr.below (Pr.below HPR.out (Below.refl _ _).drew) hb5; have HB5 : Hid (Below w.heap.size w w5) := below_next (HB.out.trans (Below.refl _ _).drew) hb5; have hS5 := HS.out w5 HPR5.out; clear hb5))
  go_wp2_with fail
  refine hK.out _ _ (by first | exact hSS | exact hS5 | exact hS6) ?_
  clear hK K
  intro hHeld2
  clear hHeld
  have hHeld := hHeld2
  clear hHeld2
  try simp only [Act.put, List.setIfInBounds_toArray, List.set_cons_zero, List.set_cons_succ]
  refine take_at (i := 20) 43 (v := ?_) rfl rfl (by kernel_rfl) (by kernel_rfl) (by kernel_rfl) (fun _ _ _ h => h) (by rfl) ?_ hHeld ?_
  rotate_left
  · (intro w hSw; (try dsimp only at hSw); go_simp; try with_reducible rfl)
  simp only [Act.put, List.setIfInBounds_toArray, List.set_cons_zero, List.set_cons_succ]
  refine take_at (i := 21) 44 (v := ?_) rfl rfl (by kernel_rfl) (by kernel_rfl) (by kernel_rfl) (fun _ _ _ h => h) (by rfl) ?_ hHeld ?_
  rotate_left
  · (intro w hSw; (try dsimp only at hSw); go_simp; try with_reducible rfl)
  simp only [Act.put, List.setIfInBounds_toArray, List.set_cons_zero, List.set_cons_succ]
  refine wpAnyH_done (by kernel_rfl) ?_ _
  refine NoPanic.normal ?_
  go_wp2
  clear hSS hS5 hS6 HS
  go_loopw [12] (fun i wr => ∃ (j : Nat) (N S : Nat → Nat) (L : Nat → List Tm) (V : Nat → Nat → Nat → Value) (v : Nat → Value), j ≤ len ∧ i = .int .i64 (j : Int) ∧ Pr w.heap.size wr g1 g2 p m q N S L V v ∧ Below w.heap.size w wr ∧ (∀ i, (L i).length ≤ j) ∧ ∀ i, S i ≤ j) (fun i _ => len - (intOf i).toNat)
  case atStart => exact ⟨0, N, S, _, V, v, Nat.zero_le _, rfl, HPR6.out, HB6.out, fun i => by simp, fun i => Nat.le_of_eq (HS2.out i)⟩
  case round =>
    clear HPR6 HB6 HPR5 HB5 HPR HB HS2
    obtain ⟨j, N, S, L, V, v, hj, rfl, hP, hB, hLj, hSj⟩ := hrel
    have HPR : Hid _ := hP
    have HB : Hid _ := hB
    clear hP hB
    by_cases hlt : j < len
    · have hj1 : j < xs.length := by rw [← HX.out]; exact hlt
      obtain ⟨b, o, hab, hok, hrg⟩ := HRD.out j hj1
      obtain ⟨t, hT⟩ : ∃ t, t = xs[j] := ⟨_, rfl⟩
      rw [← hT] at hok hrg
      clear hT
      subst hab
      have hk0 := hrg 0 _ rfl
      have hk1 := hrg 1 _ rfl
      have hk2 := hrg 2 _ rfl
      have hk3 := hrg 3 _ rfl
      rw [Nat.add_zero] at hk0
      have hbl : b < w.heap.size := World.block_lt_of_cell? w _ hk0
      have r0 := (HB.out.cell (p := ⟨b, _, none⟩) hbl).trans hk0
      have r1 := (HB.out.cell (p := ⟨b, _, none⟩) hbl).trans hk1
      have r2 := (HB.out.cell (p := ⟨b, _, none⟩) hbl).trans hk2
      have r3 := (HB.out.cell (p := ⟨b, _, none⟩) hbl).trans hk3
      have hbr : b < wr.heap.size := Nat.lt_of_lt_of_le hbl HB.out.size
      obtain ⟨i, hi, hand⟩ := and1 t.on
      have hii : (i : Int) < 2 := by omega
      have HOK : Hid _ := hok
      have HLJ : Hid _ := And.intro hLj hSj
      obtain ⟨P, hPP⟩ : ∃ P, P = wr.heap.size := ⟨_, rfl⟩
      obtain ⟨w3, hw3⟩ : ∃ w3, w3 = wr.alloc (Obj.cells #[.int .i64 t.on, .int .i64 t.kind, .int .i64 t.id, .int .u64 (t.at_ : Int)] 34) := ⟨_, rfl⟩
      have hA3 : w3.heap[P]? = some (.cells #[.int .i64 t.on, .int .i64 t.kind, .int .i64 t.id, .int .u64 (t.at_ : Int)] 34 (0, 0)) := by rw [hw3, hPP]; exact heap_alloc_new wr _
      have hb3 : Below wr.heap.size wr w3 := by rw [hw3]; exact al (Below.refl _ _) _
      have HPR3 : Hid _ := Pr.below HPR.out hb3
      have HB3 : Hid (Below w.heap.size w w3) := below_next HB.out hb3
      have HS : Hid (∀ (u : World) (N S : Nat → Nat) (L : Nat → List Tm) (V : Nat → Nat → Nat → Value) (v : Nat → Value), Pr w.heap.size u g1 g2 p m q N S L V v → u.heap[P]? = w3.heap[P]? → u.cell? ⟨g1, i, none⟩ = some (ptr (p i)) ∧ u.cell? ⟨g2, i, none⟩ = some (ptr (q i)) ∧ u.cell? ⟨P, 0, none⟩ = some (.int .i64 t.on) ∧ u.cell? ⟨P, 1, none⟩ = some (.int .i64 t.kind) ∧ u.cell? ⟨P, 2, none⟩ = some (.int .i64 t.id) ∧ u.cell? ⟨P, 3, none⟩ = some (.int .u64 (t.at_ : Int))) := fun u N S L V v hu hb => by
        obtain ⟨z0, z1, z2, z3⟩ := cell4 (hb.trans hA3)
        exact ⟨hu.c1 hi, hu.c2 hi, z0, z1, z2, z3⟩
      have hSS := HS.out w3 N S L V v HPR3.out rfl
      have HPL : Hid (P < w3.heap.size) := (Array.getElem?_eq_some_iff.1 hA3).1
      have HPF : Hid (∀ y, ftP (p i) (m i) (V i) (q i) (v i) y → y < P) := fun y hy => by rw [hPP]; exact HPR.out.ftlt hi hy
      clear hok hrg hk0 hk1 hk2 hk3 hLj hSj hA3 hb3
      go_wp2_with (simp only [hand])
      rw [← hw3]
      rw [← hPP]
      clear hw3 hPP r0 r1 r2 r3
      refine wp_region_noPanic ?_
      refine wp_region_held_drew (S := (fun u => u.cell? ⟨g1, i, none⟩ = some (ptr (p i)) ∧ u.cell? ⟨g2, i, none⟩ = some (ptr (q i)) ∧ u.cell? ⟨P, 0, none⟩ = some (.int .i64 t.on) ∧ u.cell? ⟨P, 1, none⟩ = some (.int .i64 t.kind) ∧ u.cell? ⟨P, 2, none⟩ = some (.int .i64 t.id) ∧ u.cell? ⟨P, 3, none⟩ = some (.int .u64 (t.at_ : Int)))) (by kernel_rfl) (by first | exact hSS | exact hS4) (fun hHeld => ?_)
      refine take_at (i := 0) 58 (v := ?_) rfl rfl (by kernel_rfl) (by kernel_rfl) (by kernel_rfl) (fun _ _ _ h => h) (by rfl) ?_ hHeld ?_
      rotate_left
      · (intro w hSw; (try dsimp only at hSw); go_simp; try with_reducible rfl)
      simp only [Act.put, List.setIfInBounds_toArray, List.set_cons_zero, List.set_cons_succ]
      refine take_at (i := 1) 59 (v := ?_) rfl rfl (by kernel_rfl) (by kernel_rfl) (by kernel_rfl) (fun _ _ _ h => h) (by rfl) ?_ hHeld ?_
      rotate_left
      · (intro w hSw; (try dsimp only at hSw); go_simp; try with_reducible rfl)
      simp only [Act.put, List.setIfInBounds_toArray, List.set_cons_zero, List.set_cons_succ]
      refine take_at (i := 2) 60 (v := ?_) rfl rfl (by kernel_rfl) (by kernel_rfl) (by kernel_rfl) (fun _ _ _ h => h) (by rfl) ?_ hHeld ?_
      rotate_left
      · (intro w hSw; (try dsimp only at hSw); go_simp; try with_reducible rfl)
      simp only [Act.put, List.setIfInBounds_toArray, List.set_cons_zero, List.set_cons_succ]
      refine take_at (i := 3) 61 (v := ?_) rfl rfl (by kernel_rfl) (by kernel_rfl) (by kernel_rfl) (fun _ _ _ h => h) (by rfl) ?_ hHeld ?_
      rotate_left
      · (intro w hSw; (try dsimp only at hSw); go_simp; try with_reducible rfl)
      simp only [Act.put, List.setIfInBounds_toArray, List.set_cons_zero, List.set_cons_succ]
      refine take_at (i := 4) 62 (v := ?_) rfl rfl (by kernel_rfl) (by kernel_rfl) (by kernel_rfl) (fun _ _ _ h => h) (by rfl) ?_ hHeld ?_
      rotate_left
      · (intro w hSw; (try dsimp only at hSw); go_simp; try with_reducible rfl)
      simp only [Act.put, List.setIfInBounds_toArray, List.set_cons_zero, List.set_cons_succ]
      refine take_at (i := 5) 63 (v := ?_) rfl rfl (by kernel_rfl) (by kernel_rfl) (by kernel_rfl) (fun _ _ _ h => h) (by rfl) ?_ hHeld ?_
      rotate_left
      · (intro w hSw; (try dsimp only at hSw); go_simp; try with_reducible rfl)
      simp only [Act.put, List.setIfInBounds_toArray, List.set_cons_zero, List.set_cons_succ]
      refine take_at (i := 6) 64 (v := ?_) rfl rfl (by kernel_rfl) (by kernel_rfl) (by kernel_rfl) (fun _ _ _ h => h) (by rfl) ?_ hHeld ?_
      rotate_left
      · (intro w hSw; (try dsimp only at hSw); go_simp; try with_reducible rfl)
      simp only [Act.put, List.setIfInBounds_toArray, List.set_cons_zero, List.set_cons_succ]
      refine take_at (i := 7) 65 (v := ?_) rfl rfl (by kernel_rfl) (by kernel_rfl) (by kernel_rfl) (fun _ _ _ h => h) (by rfl) ?_ hHeld ?_
      rotate_left
      · (intro w hSw; (try dsimp only at hSw); go_simp; try with_reducible rfl)
      simp only [Act.put, List.setIfInBounds_toArray, List.set_cons_zero, List.set_cons_succ]
      refine take_at (i := 8) 66 (v := ?_) rfl rfl (by kernel_rfl) (by kernel_rfl) (by kernel_rfl) (fun _ _ _ h => h) (by rfl) ?_ hHeld ?_
      rotate_left
      · (intro w hSw; (try dsimp only at hSw); go_simp; try with_reducible rfl)
      simp only [Act.put, List.setIfInBounds_toArray, List.set_cons_zero, List.set_cons_succ]
      refine run_at (i := 9) rfl (by kernel_rfl) (by rfl) (fun K hK => ?_)
      simp only [List.getElem_toArray, List.getElem_cons_zero, List.getElem_cons_succ]
      go_simp
      (go_at_call 12; refine Calls.mono (plays_t (Wt.below (HPR3.out.wt i hi) (Below.refl _ _).drew) (RfW.below (HPR3.out.rf i hi) (Below.refl _ _).drew) (TabZ.below HPR3.out.tab (Below.refl _ _).drew) t.on t.kind t.id t.at_ HOK.out.2.2.1 (by have := HLJ.out.1 i; omega) (by have := HLJ.out.2 i; omega)) ?_; rintro e w4 ⟨rfl, N4, S4, L4, V4, v4, hw4, hr4, hps4, hs4, hl4⟩; have hst4 := Pr.step (Pr.below HPR3.out (Below.refl _ _).drew) hi hw4 hr4 hps4; have HPR4 : Hid _ := hst4.1; have HB4 : Hid (Below w.heap.size w w4) := (HB3.out.trans (Below.refl _ _).drew).trans hst4.2; have HP4 : Hid (w4.heap[P]? = w3.heap[P]?) := hps4.chg.block P HPL.out (fun h9 => Nat.lt_irrefl _ (HPF.out P h9)); have HP4l : Hid (P < w4.heap.size) := Nat.lt_of_lt_of_le HPL.out hps4.chg.size; have hS4 := HS.out w4 _ _ _ _ _ HPR4.out HP4.out; have HSL4 : Hid _ := And.intro hs4 hl4; clear hw4 hr4 hps4 hst4 hs4 hl4)
      go_wp2_with fail
      refine hK.out _ _ (by first | exact hSS | exact hS4) ?_
      clear hK K
      intro hHeld2
      clear hHeld
      have hHeld := hHeld2
      clear hHeld2
      try simp only [Act.put, List.setIfInBounds_toArray, List.set_cons_zero, List.set_cons_succ]
      refine take_at (i := 10) 15 (v := ?_) rfl rfl (by kernel_rfl) (by kernel_rfl) (by kernel_rfl) (fun _ _ _ h => h) (by rfl) ?_ hHeld ?_
      rotate_left
      · (intro w hSw; (try dsimp only at hSw); go_simp; try with_reducible rfl)
      simp only [Act.put, List.setIfInBounds_toArray, List.set_cons_zero, List.set_cons_succ]
      refine wpAnyH_done (by kernel_rfl) ?_ _
      refine NoPanic.normal ?_
      go_wp2
      clear hSS
      have HREL : Hid (∀ y, ((upd L i L4) y).length ≤ j + 1 ∧ (upd S i S4) y ≤ j + 1) := fun y => by
        have a1 := HSL4.out.1
        have a2 := HSL4.out.2
        have a3 := HLJ.out.1 y
        have a4 := HLJ.out.2 y
        have a5 := HLJ.out.1 i
        have a6 := HLJ.out.2 i
        by_cases e : y = i
        · subst e
          rw [upd_same, upd_same]
          exact ⟨by omega, by omega⟩
        · rw [upd_other _ e, upd_other _ e]
          exact ⟨by omega, by omega⟩
      have hkk := HKK.out w4 HB4.out
      have hkk' := hkk
      obtain ⟨bb, hbb⟩ : ∃ bb, bb = decide (k = t.kind) := ⟨_, rfl⟩
      have HBB : Hid _ := hbb
      clear hbb
      rcases bb with _ | _
      · have hp1 := hS4.2.2.2.1
        go_quiet ((go_at_call 16; exact Calls.quiet_of_same (some_t g0 k t.kind false HBB.out _ hkk)))
        go_wp2
        go_roundw
        case rel => exact ⟨j + 1, _, _, _, _, _, hlt, by go_num, Pr.below HPR4.out (Drw.below ⟨_, rfl⟩ _), HB4.out.trans (Drw.below ⟨_, rfl⟩ _), fun y => (HREL.out y).1, fun y => (HREL.out y).2⟩
        case measure => simp [intOf]; omega
      · clear hkk'
        refine wp_region_noPanic ?_
        refine wp_region_held_drew (S := (fun u => u.cell? ⟨g1, i, none⟩ = some (ptr (p i)) ∧ u.cell? ⟨g2, i, none⟩ = some (ptr (q i)) ∧ u.cell? ⟨P, 0, none⟩ = some (.int .i64 t.on) ∧ u.cell? ⟨P, 1, none⟩ = some (.int .i64 t.kind) ∧ u.cell? ⟨P, 2, none⟩ = some (.int .i64 t.id) ∧ u.cell? ⟨P, 3, none⟩ = some (.int .u64 (t.at_ : Int)))) (by kernel_rfl) (by first | exact hS4 | exact hS5) (fun hHeld => ?_)
        refine take_at (i := 0) 68 (v := ?_) rfl rfl (by kernel_rfl) (by kernel_rfl) (by kernel_rfl) (fun _ _ _ h => h) (by rfl) ?_ hHeld ?_
        rotate_left
        · (intro w hSw; (try dsimp only at hSw); go_simp; try with_reducible rfl)
        simp only [Act.put, List.setIfInBounds_toArray, List.set_cons_zero, List.set_cons_succ]
        refine take_at (i := 1) 69 (v := ?_) rfl rfl (by kernel_rfl) (by kernel_rfl) (by kernel_rfl) (fun _ _ _ h => h) (by rfl) ?_ hHeld ?_
        rotate_left
        · (intro w hSw; (try dsimp only at hSw); go_simp; try with_reducible rfl)
        simp only [Act.put, List.setIfInBounds_toArray, List.set_cons_zero, List.set_cons_succ]
        refine take_at (i := 2) 70 (v := ?_) rfl rfl (by kernel_rfl) (by kernel_rfl) (by kernel_rfl) (fun _ _ _ h => h) (by rfl) ?_ hHeld ?_
        rotate_left
        · (intro w hSw; (try dsimp only at hSw); go_simp; try with_reducible rfl)
        simp only [Act.put, List.setIfInBounds_toArray, List.set_cons_zero, List.set_cons_succ]
        refine run_at (i := 3) rfl (by kernel_rfl) (by rfl) (fun K hK => ?_)
        simp only [List.getElem_toArray, List.getElem_cons_zero, List.getElem_cons_succ]
        go_simp
        first | (go_at_call 16; refine Calls.mono (some_t g0 k t.kind true HBB.out _ hkk) ?_; rintro e u4 ⟨rfl, hq4⟩; have hq4 := hq4.symm; subst hq4) | (go_at_call 15; refine Calls.mono (shows_t (Wt.below (HPR4.out.wt i hi) (Below.refl _ _).drew) (RfW.below (HPR4.out.rf i hi) (Below.refl _ _).drew) (TabZ.below HPR4.out.tab (Below.refl _ _).drew)) ?_; rintro e w5 ⟨rfl, hb5⟩; have HPR5 : Hid _ := Pr.below (Pr.below HPR4.out (Below.refl _ _).drew) hb5; have HB5 : Hid (Below w.heap.size w w5) := below_next (HB4.out.trans (Below.refl _ _).drew) hb5; have hS5 := HS.out w5 _ _ _ _ _ HPR5.out ((hb5.block P HP4l.out).trans HP4.out); clear hb5)
        go_wp2_with fail
        refine hK.out _ _ (by first | exact hS4 | exact hS5) ?_
        clear hK K
        intro hHeld2
        clear hHeld
        have hHeld := hHeld2
        clear hHeld2
        try simp only [Act.put, List.setIfInBounds_toArray, List.set_cons_zero, List.set_cons_succ]
        refine take_at (i := 4) 72 (v := ?_) rfl rfl (by kernel_rfl) (by kernel_rfl) (by kernel_rfl) (fun _ _ _ h => h) (by rfl) ?_ hHeld ?_
        rotate_left
        · (intro w hSw; (try dsimp only at hSw); go_simp; try with_reducible rfl)
        simp only [Act.put, List.setIfInBounds_toArray, List.set_cons_zero, List.set_cons_succ]
        refine take_at (i := 5) 73 (v := ?_) rfl rfl (by kernel_rfl) (by kernel_rfl) (by kernel_rfl) (fun _ _ _ h => h) (by rfl) ?_ hHeld ?_
        rotate_left
        · (intro w hSw; (try dsimp only at hSw); go_simp; try with_reducible rfl)
        simp only [Act.put, List.setIfInBounds_toArray, List.set_cons_zero, List.set_cons_succ]
        refine take_at (i := 6) 74 (v := ?_) rfl rfl (by kernel_rfl) (by kernel_rfl) (by kernel_rfl) (fun _ _ _ h => h) (by rfl) ?_ hHeld ?_
        rotate_left
        · (intro w hSw; (try dsimp only at hSw); go_simp; try with_reducible rfl)
        simp only [Act.put, List.setIfInBounds_toArray, List.set_cons_zero, List.set_cons_succ]
        refine take_at (i := 7) 75 (v := ?_) rfl rfl (by kernel_rfl) (by kernel_rfl) (by kernel_rfl) (fun _ _ _ h => h) (by rfl) ?_ hHeld ?_
        rotate_left
        · (intro w hSw; (try dsimp only at hSw); go_simp; try with_reducible rfl)
        simp only [Act.put, List.setIfInBounds_toArray, List.set_cons_zero, List.set_cons_succ]
        refine take_at (i := 8) 76 (v := ?_) rfl rfl (by kernel_rfl) (by kernel_rfl) (by kernel_rfl) (fun _ _ _ h => h) (by rfl) ?_ hHeld ?_
        rotate_left
        · (intro w hSw; (try dsimp only at hSw); go_simp; try with_reducible rfl)
        simp only [Act.put, List.setIfInBounds_toArray, List.set_cons_zero, List.set_cons_succ]
        refine take_at (i := 9) 77 (v := ?_) rfl rfl (by kernel_rfl) (by kernel_rfl) (by kernel_rfl) (fun _ _ _ h => h) (by rfl) ?_ hHeld ?_
        rotate_left
        · (intro w hSw; (try dsimp only at hSw); go_simp; try with_reducible rfl)
        simp only [Act.put, List.setIfInBounds_toArray, List.set_cons_zero, List.set_cons_succ]
        refine take_at (i := 10) 78 (v := ?_) rfl rfl (by kernel_rfl) (by kernel_rfl) (by kernel_rfl) (fun _ _ _ h => h) (by rfl) ?_ hHeld ?_
        rotate_left
        · (intro w hSw; (try dsimp only at hSw); go_simp; try with_reducible rfl)
        simp only [Act.put, List.setIfInBounds_toArray, List.set_cons_zero, List.set_cons_succ]
        refine take_at (i := 11) 79 (v := ?_) rfl rfl (by kernel_rfl) (by kernel_rfl) (by kernel_rfl) (fun _ _ _ h => h) (by rfl) ?_ hHeld ?_
        rotate_left
        · (intro w hSw; (try dsimp only at hSw); go_simp; try with_reducible rfl)
        simp only [Act.put, List.setIfInBounds_toArray, List.set_cons_zero, List.set_cons_succ]
        refine take_at (i := 12) 80 (v := ?_) rfl rfl (by kernel_rfl) (by kernel_rfl) (by kernel_rfl) (fun _ _ _ h => h) (by rfl) ?_ hHeld ?_
        rotate_left
        · (intro w hSw; (try dsimp only at hSw); go_simp; try with_reducible rfl)
        simp only [Act.put, List.setIfInBounds_toArray, List.set_cons_zero, List.set_cons_succ]
        refine take_at (i := 13) 81 (v := ?_) rfl rfl (by kernel_rfl) (by kernel_rfl) (by kernel_rfl) (fun _ _ _ h => h) (by rfl) ?_ hHeld ?_
        rotate_left
        · (intro w hSw; (try dsimp only at hSw); go_simp; try with_reducible rfl)
        simp only [Act.put, List.setIfInBounds_toArray, List.set_cons_zero, List.set_cons_succ]
        refine take_at (i := 14) 82 (v := ?_) rfl rfl (by kernel_rfl) (by kernel_rfl) (by kernel_rfl) (fun _ _ _ h => h) (by rfl) ?_ hHeld ?_
        rotate_left
        · (intro w hSw; (try dsimp only at hSw); go_simp; try with_reducible rfl)
        simp only [Act.put, List.setIfInBounds_toArray, List.set_cons_zero, List.set_cons_succ]
        refine take_at (i := 15) 83 (v := ?_) rfl rfl (by kernel_rfl) (by kernel_rfl) (by kernel_rfl) (fun _ _ _ h => h) (by rfl) ?_ hHeld ?_
        rotate_left
        · (intro w hSw; (try dsimp only at hSw); go_simp; try with_reducible rfl)
        simp only [Act.put, List.setIfInBounds_toArray, List.set_cons_zero, List.set_cons_succ]
        refine run_at (i := 16) rfl (by kernel_rfl) (by rfl) (fun K hK => ?_)
        simp only [List.getElem_toArray, List.getElem_cons_zero, List.getElem_cons_succ]
        go_simp
        first | (go_at_call 16; refine Calls.mono (some_t g0 k t.kind true HBB.out _ hkk) ?_; rintro e u4 ⟨rfl, hq4⟩; have hq4 := hq4.symm; subst hq4) | (go_at_call 15; refine Calls.mono (shows_t (Wt.below (HPR4.out.wt i hi) (Below.refl _ _).drew) (RfW.below (HPR4.out.rf i hi) (Below.refl _ _).drew) (TabZ.below HPR4.out.tab (Below.refl _ _).drew)) ?_; rintro e w5 ⟨rfl, hb5⟩; have HPR5 : Hid _ := Pr.below (Pr.below HPR4.out (Below.refl _ _).drew) hb5; have HB5 : Hid (Below w.heap.size w w5) := below_next (HB4.out.trans (Below.refl _ _).drew) hb5; have hS5 := HS.out w5 _ _ _ _ _ HPR5.out ((hb5.block P HP4l.out).trans HP4.out); clear hb5)
        go_wp2_with fail
        refine hK.out _ _ (by first | exact hS4 | exact hS5) ?_
        clear hK K
        intro hHeld2
        clear hHeld
        have hHeld := hHeld2
        clear hHeld2
        try simp only [Act.put, List.setIfInBounds_toArray, List.set_cons_zero, List.set_cons_succ]
        refine take_at (i := 17) 85 (v := ?_) rfl rfl (by kernel_rfl) (by kernel_rfl) (by kernel_rfl) (fun _ _ _ h => h) (by rfl) ?_ hHeld ?_
        rotate_left
        · (intro w hSw; (try dsimp only at hSw); go_simp; try with_reducible rfl)
        simp only [Act.put, List.setIfInBounds_toArray, List.set_cons_zero, List.set_cons_succ]
        refine take_at (i := 18) 86 (v := ?_) rfl rfl (by kernel_rfl) (by kernel_rfl) (by kernel_rfl) (fun _ _ _ h => h) (by rfl) ?_ hHeld ?_
        rotate_left
        · (intro w hSw; (try dsimp only at hSw); go_simp; try with_reducible rfl)
        simp only [Act.put, List.setIfInBounds_toArray, List.set_cons_zero, List.set_cons_succ]
        refine take_at (i := 19) 87 (v := ?_) rfl rfl (by kernel_rfl) (by kernel_rfl) (by kernel_rfl) (fun _ _ _ h => h) (by rfl) ?_ hHeld ?_
        rotate_left
        · (intro w hSw; (try dsimp only at hSw); go_simp; try with_reducible rfl)
        simp only [Act.put, List.setIfInBounds_toArray, List.set_cons_zero, List.set_cons_succ]
        refine wpAnyH_done (by kernel_rfl) ?_ _
        refine NoPanic.normal ?_
        go_wp2
        go_roundw
        case rel => exact ⟨j + 1, _, _, _, _, _, hlt, by go_num, HPR5.out, HB5.out, fun y => (HREL.out y).1, fun y => (HREL.out y).2⟩
        case measure => simp [intOf]; omega
    · have hjn : j = len := by omega
      clear hLj hSj
      go_wp2_with fail
      refine Calls.mono (knows_t wr HPR.out.tab) ?_
      rintro e w5 ⟨rfl, hb5⟩
      have HB5 : Hid (Below w.heap.size w w5) := below_next HB.out hb5
      clear hb5
      go_wp2
      go_ret
      exact ⟨rfl, HB5.out⟩
end Go.Proofs.YtnfikcegmicooabDoor
