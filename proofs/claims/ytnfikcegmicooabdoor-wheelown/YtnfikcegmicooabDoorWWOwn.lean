import Derived.Test.YtnfikcegmicooabDoorLwI
import Derived.Test.YtnfikcegmicooabDoorAI3
import Derived.Test.YtnfikcegmicooabDoorOpenW
namespace Go.Proofs.YtnfikcegmicooabDoor
set_option linter.unusedVariables false
set_option linter.unusedSimpArgs false
open Go.RowKit Go.Maps Go.Shelf
set_option maxRecDepth 20000 in
set_option maxHeartbeats 6400000 in
theorem wheelOwn_walk (n0 n1 : Int) (a : Option Addr) (len cap : Nat) (xs : List Wop) (w : World) (w0 : (Lit.int .u64 n0).wf = true) (w1 : (Lit.int .u64 n1).wf = true) (hx : len = xs.length) (hr : RdW w a xs) (hc : len ≤ 4398046511103) (ht : TabZ w) :
    Calls Tryd.prog 6 #[.int .u64 n0, .int .u64 n1, .slice a len cap] w fun e w' => e = .returned (.bool true) ∧ Below w.heap.size w w' := by
  obtain ⟨x0, rfl, -⟩ := u64_of w0
  obtain ⟨x1, rfl, -⟩ := u64_of w1
  have HT : Hid _ := ht
  have HX : Hid _ := hx
  have HRD : Hid _ := hr
  clear ht w0 w1 hx hr
  go_enter Tryd.func6, Tryd.ntmps6
  go_wp2_with fail
  refine Calls.mono (two_t x0 x1 w HT.out) ?_
  rintro e w2 ⟨g1, g2, p, m, q, N, S, V, v, rfl, h2, hS2, hb2⟩
  have H2 : Hid _ := h2
  have HS2 : Hid _ := hS2
  have HB2 : Hid _ := hb2
  clear h2 hS2 hb2
  go_wp2_with fail
  refine Calls.mono (knows_t w2 H2.out.tab) ?_
  rintro e w3 ⟨rfl, hb3⟩
  have H3 : Hid _ := H2.out.below hb3
  have HB3 : Hid (Below w.heap.size w w3) := below_next HB2.out hb3
  clear hb3
  go_wp2
  go_loopw [10, 11, 12] (fun tv wv i wr => ∃ (j : Nat) (N S : Nat → Nat) (L : Nat → List Tm) (V : Nat → Nat → Nat → Value) (v : Nat → Value) (vs us : List Value) (Ds : List (List Int)), j ≤ len ∧ i = .int .i64 (j : Int) ∧ Pr w.heap.size wr g1 g2 p m q N S L V v ∧ Tl w.heap.size wr tv wv vs us Ds Ds ∧ Below w.heap.size w wr ∧ (∀ i, (L i).length ≤ j) ∧ (∀ i, S i ≤ j) ∧ Ds.length ≤ j) (fun _ _ i _ => len - (intOf i).toNat)
  case atStart => exact ⟨0, N, S, _, V, v, [], [], [], Nat.zero_le _, rfl, H3.out, Tl.nil _ _, HB3.out, fun i => by simp, fun i => Nat.le_of_eq (HS2.out i), Nat.le_refl _⟩
  case round =>
    clear H2 HS2 HB2 H3 HB3
    obtain ⟨j, N, S, L, V, v, vs, us, Ds, hj, rfl, hP, hTl, hB, hLj, hSj, hDj⟩ := hrel
    have HPR : Hid _ := hP
    have HTL : Hid _ := hTl
    have HB : Hid _ := hB
    clear hP hTl hB
    by_cases hlt : j < len
    · have hj1 : j < xs.length := by rw [← HX.out]; exact hlt
      obtain ⟨b, o, hab, hok, hrg⟩ := HRD.out j hj1
      obtain ⟨t, hT⟩ : ∃ t, t = xs[j] := ⟨_, rfl⟩
      rw [← hT] at hok hrg
      clear hT
      subst hab
      have hk0 := hrg 0 _ rfl
      have hk1 := hrg 1 _ rfl
      have hk2 := hrg 2 _ rfl
      have hk3 := hrg 3 _ rfl
      rw [Nat.add_zero] at hk0
      have hbl : b < w.heap.size := World.block_lt_of_cell? w _ hk0
      have HSC : Hid (∀ u : World, Below w.heap.size w u → u.cell? ⟨b, o + j * 4, none⟩ = some (.int .i64 t.on) ∧ u.cell? ⟨b, o + j * 4 + 1, none⟩ = some (.int .i64 t.kind) ∧ u.cell? ⟨b, o + j * 4 + 2, none⟩ = some (.int .i64 t.id) ∧ u.cell? ⟨b, o + j * 4 + 3, none⟩ = some (.int .u64 (t.at_ : Int))) := fun u hu =>
        ⟨(hu.cell (p := ⟨b, _, none⟩) hbl).trans hk0, (hu.cell (p := ⟨b, _, none⟩) hbl).trans hk1, (hu.cell (p := ⟨b, _, none⟩) hbl).trans hk2, (hu.cell (p := ⟨b, _, none⟩) hbl).trans hk3⟩
      obtain ⟨r0, r1, r2, r3⟩ := HSC.out wr HB.out
      have hbr : b < wr.heap.size := Nat.lt_of_lt_of_le hbl HB.out.size
      obtain ⟨i, hi, hand⟩ := and1 t.on
      have hii : (i : Int) < 2 := by omega
      have HOK : Hid _ := hok
      have HLJ : Hid _ := And.intro hLj (And.intro hSj hDj)
      have HLV : Hid (vs.length ≤ j ∧ us.length ≤ j) := (show _ from ⟨by rw [HTL.out.lv]; exact hDj, by rw [HTL.out.lu]; exact hDj⟩)
      clear hok hrg hk0 hk1 hk2 hk3 hLj hSj hDj
      by_cases hk3 : t.kind = 3
      · rw [hk3] at r1
        have HSA : Hid (∀ (u : World) {N S : Nat → Nat} {L : Nat → List Tm} {V : Nat → Nat → Nat → Value} {v : Nat → Value} {N' : Nat → Nat} {L' : Nat → List Tm}, Pq w.heap.size u g1 g2 p m q N S L V v N' L' → Below w.heap.size w u → u.cell? ⟨g1, i, none⟩ = some (ptr (p i)) ∧ u.cell? ⟨g2, i, none⟩ = some (ptr (q i)) ∧ u.cell? ⟨b, o + j * 4 + 3, none⟩ = some (.int .u64 (t.at_ : Int))) := fun u _ _ _ _ _ _ _ hu hb => ⟨hu.c1 hi, hu.c2 hi, (HSC.out u hb).2.2.2⟩
        have HPQ : Hid _ := HPR.out.toq
        have hSS := HSA.out wr HPQ.out HB.out
        go_wp2_with (simp only [hand])
        refine wp_region_noPanic ?_
        refine wp_region_held_drew (S := (fun u => u.cell? ⟨g1, i, none⟩ = some (ptr (p i)) ∧ u.cell? ⟨g2, i, none⟩ = some (ptr (q i)) ∧ u.cell? ⟨b, o + j * 4 + 3, none⟩ = some (.int .u64 (t.at_ : Int)))) (by kernel_rfl) (by first | exact hSS | exact hS4 | exact HSX.out _ | exact hS5) (fun hHeld => ?_)
        refine take_at (i := 0) 46 (v := ?_) rfl rfl (by kernel_rfl) (by kernel_rfl) (by kernel_rfl) (fun _ _ _ h => h) (by rfl) ?_ hHeld ?_
        rotate_left
        · (intro w hSw; (try dsimp only at hSw); go_simp; try with_reducible rfl)
        simp only [Act.put, List.setIfInBounds_toArray, List.set_cons_zero, List.set_cons_succ]
        refine take_at (i := 1) 47 (v := ?_) rfl rfl (by kernel_rfl) (by kernel_rfl) (by kernel_rfl) (fun _ _ _ h => h) (by rfl) ?_ hHeld ?_
        rotate_left
        · (intro w hSw; (try dsimp only at hSw); go_simp; try with_reducible rfl)
        simp only [Act.put, List.setIfInBounds_toArray, List.set_cons_zero, List.set_cons_succ]
        refine take_at (i := 2) 48 (v := ?_) rfl rfl (by kernel_rfl) (by kernel_rfl) (by kernel_rfl) (fun _ _ _ h => h) (by rfl) ?_ hHeld ?_
        rotate_left
        · (intro w hSw; (try dsimp only at hSw); go_simp; try with_reducible rfl)
        simp only [Act.put, List.setIfInBounds_toArray, List.set_cons_zero, List.set_cons_succ]
        refine take_at (i := 3) 49 (v := ?_) rfl rfl (by kernel_rfl) (by kernel_rfl) (by kernel_rfl) (fun _ _ _ h => h) (by rfl) ?_ hHeld ?_
        rotate_left
        · (intro w hSw; (try dsimp only at hSw); go_simp; try with_reducible rfl)
        simp only [Act.put, List.setIfInBounds_toArray, List.set_cons_zero, List.set_cons_succ]
        refine take_at (i := 4) 50 (v := ?_) rfl rfl (by kernel_rfl) (by kernel_rfl) (by kernel_rfl) (fun _ _ _ h => h) (by rfl) ?_ hHeld ?_
        rotate_left
        · (intro w hSw; (try dsimp only at hSw); go_simp; try with_reducible rfl)
        simp only [Act.put, List.setIfInBounds_toArray, List.set_cons_zero, List.set_cons_succ]
        refine take_at (i := 5) 51 (v := ?_) rfl rfl (by kernel_rfl) (by kernel_rfl) (by kernel_rfl) (fun _ _ _ h => h) (by rfl) ?_ hHeld ?_
        rotate_left
        · (intro w hSw; (try dsimp only at hSw); go_simp; try with_reducible rfl)
        simp only [Act.put, List.setIfInBounds_toArray, List.set_cons_zero, List.set_cons_succ]
        refine take_at (i := 6) 52 (v := ?_) rfl rfl (by kernel_rfl) (by kernel_rfl) (by kernel_rfl) (fun _ _ _ h => h) (by rfl) ?_ hHeld ?_
        rotate_left
        · (intro w hSw; (try dsimp only at hSw); go_simp; try with_reducible rfl)
        simp only [Act.put, List.setIfInBounds_toArray, List.set_cons_zero, List.set_cons_succ]
        refine take_at (i := 7) 53 (v := ?_) rfl rfl (by kernel_rfl) (by kernel_rfl) (by kernel_rfl) (fun _ _ _ h => h) (by rfl) ?_ hHeld ?_
        rotate_left
        · (intro w hSw; (try dsimp only at hSw); go_simp; try with_reducible rfl)
        simp only [Act.put, List.setIfInBounds_toArray, List.set_cons_zero, List.set_cons_succ]
        refine take_at (i := 8) 54 (v := ?_) rfl rfl (by kernel_rfl) (by kernel_rfl) (by kernel_rfl) (fun _ _ _ h => h) (by rfl) ?_ hHeld ?_
        rotate_left
        · (intro w hSw; (try dsimp only at hSw); go_simp; try with_reducible rfl)
        simp only [Act.put, List.setIfInBounds_toArray, List.set_cons_zero, List.set_cons_succ]
        refine take_at (i := 9) 55 (v := ?_) rfl rfl (by kernel_rfl) (by kernel_rfl) (by kernel_rfl) (fun _ _ _ h => h) (by rfl) ?_ hHeld ?_
        rotate_left
        · (intro w hSw; (try dsimp only at hSw); go_simp; try with_reducible rfl)
        simp only [Act.put, List.setIfInBounds_toArray, List.set_cons_zero, List.set_cons_succ]
        refine run_at (i := 10) rfl (by kernel_rfl) (by rfl) (fun K hK => ?_)
        simp only [List.getElem_toArray, List.getElem_cons_zero, List.getElem_cons_succ]
        go_simp
        first | (go_at_call 10; refine Calls.mono (own_adv (Pq.below HPQ.out (Below.refl _ _).drew) (Tl.below HTL.out (Below.refl _ _).drew) hi t.at_ (by have := HLJ.out.1 i; omega)) ?_; rintro e w4 ⟨az4, nz4, cz4, D4, V4, rfl, hD4, hz4, hap4, hpq4, htl4, hb4⟩; have HPQ4 : Hid _ := hpq4; have HTL4 : Hid _ := htl4; have HB4 : Hid (Below w.heap.size w w4) := (HB.out.trans (Below.refl _ _).drew).trans hb4; have hS4 := HSA.out w4 HPQ4.out HB4.out; have HSX : Hid (∀ ob : Obj, (w4.alloc ob).cell? ⟨g1, i, none⟩ = some (ptr (p i)) ∧ (w4.alloc ob).cell? ⟨g2, i, none⟩ = some (ptr (q i)) ∧ (w4.alloc ob).cell? ⟨b, o + j * 4 + 3, none⟩ = some (.int .u64 (t.at_ : Int))) := (fun ob => HSA.out _ (Pq.below HPQ4.out (al (Below.refl _ _) ob)) (below_next HB4.out (al (Below.refl _ _) ob))); have HZ4 : Hid _ := And.intro hz4 (And.intro hap4 hD4); clear hpq4 htl4 hb4 hz4 hap4 hD4) | (refine wp_list (B := w.heap.size) _ _ (by rfl) _ vs (.slice az4 nz4 cz4) w4.heap.size (by rfl) (Tl.below HTL4.out (al (Below.refl _ _) _)).rt (by rfl) (heap_alloc_new w4 _) (by rfl) (by have := HLV.out.1; omega) (Nat.le_trans HB4.out.size (al (Below.refl _ _) _).size) ?_; intro tv5 w5 hown5 hg5 hnew5; have HPQ5 : Hid _ := Pq.grownL (Pq.below HPQ4.out (al (Below.refl _ _) _)) (Tl.below HTL4.out (al (Below.refl _ _) _)).rt hg5; have HTL5 : Hid _ := Tl.told (Tl.below HTL4.out (al (Below.refl _ _) _)) (rowZ_below HZ4.out.1 (al (Below.refl _ _) _)) (by rw [List.length_map]; exact Nat.le_trans (adv_len HZ4.out.2.2) (by have := HLJ.out.1 i; omega)) HZ4.out.2.1 hg5 hown5 hnew5 (Nat.le_refl _); have HB5 : Hid (Below w.heap.size w w5) := (below_next HB4.out (al (Below.refl _ _) _)).grown hg5 (Nat.le_trans HB4.out.size (al (Below.refl _ _) _).size) (fun y e => (World.ownsRow.lt HTL4.out.rt y e).1); have hS5 := HSA.out w5 HPQ5.out HB5.out; clear hown5 hg5 hnew5)
        go_wp2_with fail
        refine hK.out _ _ (by first | exact hSS | exact hS4 | exact HSX.out _ | exact hS5) ?_
        clear hK K
        intro hHeld2
        clear hHeld
        have hHeld := hHeld2
        clear hHeld2
        try simp only [Act.put, List.setIfInBounds_toArray, List.set_cons_zero, List.set_cons_succ]
        refine run_at (i := 11) rfl (by kernel_rfl) (by rfl) (fun K hK => ?_)
        simp only [List.getElem_toArray, List.getElem_cons_zero, List.getElem_cons_succ]
        go_simp
        go_wp2_with fail
        refine hK.out _ _ (by first | exact hSS | exact hS4 | exact HSX.out _ | exact hS5) ?_
        clear hK K
        intro hHeld2
        clear hHeld
        have hHeld := hHeld2
        clear hHeld2
        try simp only [Act.put, List.setIfInBounds_toArray, List.set_cons_zero, List.set_cons_succ]
        refine run_at (i := 12) rfl (by kernel_rfl) (by rfl) (fun K hK => ?_)
        simp only [List.getElem_toArray, List.getElem_cons_zero, List.getElem_cons_succ]
        first | (go_at_call 10; refine Calls.mono (own_adv (Pq.below HPQ.out (Below.refl _ _).drew) (Tl.below HTL.out (Below.refl _ _).drew) hi t.at_ (by have := HLJ.out.1 i; omega)) ?_; rintro e w4 ⟨az4, nz4, cz4, D4, V4, rfl, hD4, hz4, hap4, hpq4, htl4, hb4⟩; have HPQ4 : Hid _ := hpq4; have HTL4 : Hid _ := htl4; have HB4 : Hid (Below w.heap.size w w4) := (HB.out.trans (Below.refl _ _).drew).trans hb4; have hS4 := HSA.out w4 HPQ4.out HB4.out; have HSX : Hid (∀ ob : Obj, (w4.alloc ob).cell? ⟨g1, i, none⟩ = some (ptr (p i)) ∧ (w4.alloc ob).cell? ⟨g2, i, none⟩ = some (ptr (q i)) ∧ (w4.alloc ob).cell? ⟨b, o + j * 4 + 3, none⟩ = some (.int .u64 (t.at_ : Int))) := (fun ob => HSA.out _ (Pq.below HPQ4.out (al (Below.refl _ _) ob)) (below_next HB4.out (al (Below.refl _ _) ob))); have HZ4 : Hid _ := And.intro hz4 (And.intro hap4 hD4); clear hpq4 htl4 hb4 hz4 hap4 hD4) | (refine wp_list (B := w.heap.size) _ _ (by rfl) _ vs (.slice az4 nz4 cz4) w4.heap.size (by rfl) (Tl.below HTL4.out (al (Below.refl _ _) _)).rt (by rfl) (heap_alloc_new w4 _) (by rfl) (by have := HLV.out.1; omega) (Nat.le_trans HB4.out.size (al (Below.refl _ _) _).size) ?_; intro tv5 w5 hown5 hg5 hnew5; have HPQ5 : Hid _ := Pq.grownL (Pq.below HPQ4.out (al (Below.refl _ _) _)) (Tl.below HTL4.out (al (Below.refl _ _) _)).rt hg5; have HTL5 : Hid _ := Tl.told (Tl.below HTL4.out (al (Below.refl _ _) _)) (rowZ_below HZ4.out.1 (al (Below.refl _ _) _)) (by rw [List.length_map]; exact Nat.le_trans (adv_len HZ4.out.2.2) (by have := HLJ.out.1 i; omega)) HZ4.out.2.1 hg5 hown5 hnew5 (Nat.le_refl _); have HB5 : Hid (Below w.heap.size w w5) := (below_next HB4.out (al (Below.refl _ _) _)).grown hg5 (Nat.le_trans HB4.out.size (al (Below.refl _ _) _).size) (fun y e => (World.ownsRow.lt HTL4.out.rt y e).1); have hS5 := HSA.out w5 HPQ5.out HB5.out; clear hown5 hg5 hnew5)
        refine hK.out _ _ (by first | exact hSS | exact hS4 | exact HSX.out _ | exact hS5) ?_
        clear hK K
        intro hHeld2
        clear hHeld
        have hHeld := hHeld2
        clear hHeld2
        try simp only [Act.put, List.setIfInBounds_toArray, List.set_cons_zero, List.set_cons_succ]
        refine take_at (i := 13) 10 (v := ?_) rfl rfl (by kernel_rfl) (by kernel_rfl) (by kernel_rfl) (fun _ _ _ h => h) (by rfl) ?_ hHeld ?_
        rotate_left
        · (intro w hSw; (try dsimp only at hSw); go_simp; try with_reducible rfl)
        simp only [Act.put, List.setIfInBounds_toArray, List.set_cons_zero, List.set_cons_succ]
        refine wpAnyH_done (by kernel_rfl) ?_ _
        refine NoPanic.normal ?_
        go_wp2
        refine wp_region_noPanic ?_
        refine wp_region_held_drew (S := (fun u => u.cell? ⟨g1, i, none⟩ = some (ptr (p i)) ∧ u.cell? ⟨g2, i, none⟩ = some (ptr (q i)) ∧ u.cell? ⟨b, o + j * 4 + 3, none⟩ = some (.int .u64 (t.at_ : Int)))) (by kernel_rfl) (by first | exact hS5 | exact hS6 | exact HSY.out _ | exact hS7) (fun hHeld => ?_)
        refine take_at (i := 0) 59 (v := ?_) rfl rfl (by kernel_rfl) (by kernel_rfl) (by kernel_rfl) (fun _ _ _ h => h) (by rfl) ?_ hHeld ?_
        rotate_left
        · (intro w hSw; (try dsimp only at hSw); go_simp; try with_reducible rfl)
        simp only [Act.put, List.setIfInBounds_toArray, List.set_cons_zero, List.set_cons_succ]
        refine take_at (i := 1) 60 (v := ?_) rfl rfl (by kernel_rfl) (by kernel_rfl) (by kernel_rfl) (fun _ _ _ h => h) (by rfl) ?_ hHeld ?_
        rotate_left
        · (intro w hSw; (try dsimp only at hSw); go_simp; try with_reducible rfl)
        simp only [Act.put, List.setIfInBounds_toArray, List.set_cons_zero, List.set_cons_succ]
        refine take_at (i := 2) 61 (v := ?_) rfl rfl (by kernel_rfl) (by kernel_rfl) (by kernel_rfl) (fun _ _ _ h => h) (by rfl) ?_ hHeld ?_
        rotate_left
        · (intro w hSw; (try dsimp only at hSw); go_simp; try with_reducible rfl)
        simp only [Act.put, List.setIfInBounds_toArray, List.set_cons_zero, List.set_cons_succ]
        refine take_at (i := 3) 62 (v := ?_) rfl rfl (by kernel_rfl) (by kernel_rfl) (by kernel_rfl) (fun _ _ _ h => h) (by rfl) ?_ hHeld ?_
        rotate_left
        · (intro w hSw; (try dsimp only at hSw); go_simp; try with_reducible rfl)
        simp only [Act.put, List.setIfInBounds_toArray, List.set_cons_zero, List.set_cons_succ]
        refine take_at (i := 4) 63 (v := ?_) rfl rfl (by kernel_rfl) (by kernel_rfl) (by kernel_rfl) (fun _ _ _ h => h) (by rfl) ?_ hHeld ?_
        rotate_left
        · (intro w hSw; (try dsimp only at hSw); go_simp; try with_reducible rfl)
        simp only [Act.put, List.setIfInBounds_toArray, List.set_cons_zero, List.set_cons_succ]
        refine take_at (i := 5) 64 (v := ?_) rfl rfl (by kernel_rfl) (by kernel_rfl) (by kernel_rfl) (fun _ _ _ h => h) (by rfl) ?_ hHeld ?_
        rotate_left
        · (intro w hSw; (try dsimp only at hSw); go_simp; try with_reducible rfl)
        simp only [Act.put, List.setIfInBounds_toArray, List.set_cons_zero, List.set_cons_succ]
        refine take_at (i := 6) 65 (v := ?_) rfl rfl (by kernel_rfl) (by kernel_rfl) (by kernel_rfl) (fun _ _ _ h => h) (by rfl) ?_ hHeld ?_
        rotate_left
        · (intro w hSw; (try dsimp only at hSw); go_simp; try with_reducible rfl)
        simp only [Act.put, List.setIfInBounds_toArray, List.set_cons_zero, List.set_cons_succ]
        refine take_at (i := 7) 66 (v := ?_) rfl rfl (by kernel_rfl) (by kernel_rfl) (by kernel_rfl) (fun _ _ _ h => h) (by rfl) ?_ hHeld ?_
        rotate_left
        · (intro w hSw; (try dsimp only at hSw); go_simp; try with_reducible rfl)
        simp only [Act.put, List.setIfInBounds_toArray, List.set_cons_zero, List.set_cons_succ]
        refine take_at (i := 8) 67 (v := ?_) rfl rfl (by kernel_rfl) (by kernel_rfl) (by kernel_rfl) (fun _ _ _ h => h) (by rfl) ?_ hHeld ?_
        rotate_left
        · (intro w hSw; (try dsimp only at hSw); go_simp; try with_reducible rfl)
        simp only [Act.put, List.setIfInBounds_toArray, List.set_cons_zero, List.set_cons_succ]
        refine take_at (i := 9) 68 (v := ?_) rfl rfl (by kernel_rfl) (by kernel_rfl) (by kernel_rfl) (fun _ _ _ h => h) (by rfl) ?_ hHeld ?_
        rotate_left
        · (intro w hSw; (try dsimp only at hSw); go_simp; try with_reducible rfl)
        simp only [Act.put, List.setIfInBounds_toArray, List.set_cons_zero, List.set_cons_succ]
        refine run_at (i := 10) rfl (by kernel_rfl) (by rfl) (fun K hK => ?_)
        simp only [List.getElem_toArray, List.getElem_cons_zero, List.getElem_cons_succ]
        go_simp
        first | (go_at_call 11; refine Calls.mono (own_radv (Pq.below HPQ5.out (Below.refl _ _).drew) (Tl.below HTL5.out (Below.refl _ _).drew) hi (HPR.out.wt i hi).ord t.at_ (by have := HLJ.out.1 i; omega)) ?_; rintro e w6 ⟨az6, nz6, cz6, D6, v6, rfl, hD6, hz6, hpq6, htl6, hb6, -⟩; rw [hD6.uniq HZ4.out.2.2] at hz6; have HPQ6 : Hid _ := hpq6; have HTL6 : Hid _ := htl6; have HB6 : Hid (Below w.heap.size w w6) := (HB5.out.trans (Below.refl _ _).drew).trans hb6; have hS6 := HSA.out w6 HPQ6.out HB6.out; have HSY : Hid (∀ ob : Obj, (w6.alloc ob).cell? ⟨g1, i, none⟩ = some (ptr (p i)) ∧ (w6.alloc ob).cell? ⟨g2, i, none⟩ = some (ptr (q i)) ∧ (w6.alloc ob).cell? ⟨b, o + j * 4 + 3, none⟩ = some (.int .u64 (t.at_ : Int))) := (fun ob => HSA.out _ (Pq.below HPQ6.out (al (Below.refl _ _) ob)) (below_next HB6.out (al (Below.refl _ _) ob))); have HZ6 : Hid _ := hz6; clear hpq6 htl6 hb6 hz6 hD6) | (refine wp_list (B := w.heap.size) _ _ (by rfl) _ us (.slice az6 nz6 cz6) w6.heap.size (by rfl) (Tl.below HTL6.out (al (Below.refl _ _) _)).ru (by rfl) (heap_alloc_new w6 _) (by rfl) (by have := HLV.out.2; omega) (Nat.le_trans HB6.out.size (al (Below.refl _ _) _).size) ?_; intro wv7 w7 hown7 hg7 hnew7; have HPQ7 : Hid _ := Pq.grownL (Pq.below HPQ6.out (al (Below.refl _ _) _)) (Tl.below HTL6.out (al (Below.refl _ _) _)).ru hg7; have HTL7 : Hid _ := Tl.want (Tl.below HTL6.out (al (Below.refl _ _) _)) (rowZ_below HZ6.out (al (Below.refl _ _) _)) hg7 hown7 hnew7 (Nat.le_refl _); have HB7 : Hid (Below w.heap.size w w7) := (below_next HB6.out (al (Below.refl _ _) _)).grown hg7 (Nat.le_trans HB6.out.size (al (Below.refl _ _) _).size) (fun y e => (World.ownsRow.lt HTL6.out.ru y e).1); have hS7 := HSA.out w7 HPQ7.out HB7.out; clear hown7 hg7 hnew7)
        go_wp2_with fail
        refine hK.out _ _ (by first | exact hS5 | exact hS6 | exact HSY.out _ | exact hS7) ?_
        clear hK K
        intro hHeld2
        clear hHeld
        have hHeld := hHeld2
        clear hHeld2
        try simp only [Act.put, List.setIfInBounds_toArray, List.set_cons_zero, List.set_cons_succ]
        refine run_at (i := 11) rfl (by kernel_rfl) (by rfl) (fun K hK => ?_)
        simp only [List.getElem_toArray, List.getElem_cons_zero, List.getElem_cons_succ]
        go_simp
        go_wp2_with fail
        refine hK.out _ _ (by first | exact hS5 | exact hS6 | exact HSY.out _ | exact hS7) ?_
        clear hK K
        intro hHeld2
        clear hHeld
        have hHeld := hHeld2
        clear hHeld2
        try simp only [Act.put, List.setIfInBounds_toArray, List.set_cons_zero, List.set_cons_succ]
        refine run_at (i := 12) rfl (by kernel_rfl) (by rfl) (fun K hK => ?_)
        simp only [List.getElem_toArray, List.getElem_cons_zero, List.getElem_cons_succ]
        first | (go_at_call 11; refine Calls.mono (own_radv (Pq.below HPQ5.out (Below.refl _ _).drew) (Tl.below HTL5.out (Below.refl _ _).drew) hi (HPR.out.wt i hi).ord t.at_ (by have := HLJ.out.1 i; omega)) ?_; rintro e w6 ⟨az6, nz6, cz6, D6, v6, rfl, hD6, hz6, hpq6, htl6, hb6, -⟩; rw [hD6.uniq HZ4.out.2.2] at hz6; have HPQ6 : Hid _ := hpq6; have HTL6 : Hid _ := htl6; have HB6 : Hid (Below w.heap.size w w6) := (HB5.out.trans (Below.refl _ _).drew).trans hb6; have hS6 := HSA.out w6 HPQ6.out HB6.out; have HSY : Hid (∀ ob : Obj, (w6.alloc ob).cell? ⟨g1, i, none⟩ = some (ptr (p i)) ∧ (w6.alloc ob).cell? ⟨g2, i, none⟩ = some (ptr (q i)) ∧ (w6.alloc ob).cell? ⟨b, o + j * 4 + 3, none⟩ = some (.int .u64 (t.at_ : Int))) := (fun ob => HSA.out _ (Pq.below HPQ6.out (al (Below.refl _ _) ob)) (below_next HB6.out (al (Below.refl _ _) ob))); have HZ6 : Hid _ := hz6; clear hpq6 htl6 hb6 hz6 hD6) | (refine wp_list (B := w.heap.size) _ _ (by rfl) _ us (.slice az6 nz6 cz6) w6.heap.size (by rfl) (Tl.below HTL6.out (al (Below.refl _ _) _)).ru (by rfl) (heap_alloc_new w6 _) (by rfl) (by have := HLV.out.2; omega) (Nat.le_trans HB6.out.size (al (Below.refl _ _) _).size) ?_; intro wv7 w7 hown7 hg7 hnew7; have HPQ7 : Hid _ := Pq.grownL (Pq.below HPQ6.out (al (Below.refl _ _) _)) (Tl.below HTL6.out (al (Below.refl _ _) _)).ru hg7; have HTL7 : Hid _ := Tl.want (Tl.below HTL6.out (al (Below.refl _ _) _)) (rowZ_below HZ6.out (al (Below.refl _ _) _)) hg7 hown7 hnew7 (Nat.le_refl _); have HB7 : Hid (Below w.heap.size w w7) := (below_next HB6.out (al (Below.refl _ _) _)).grown hg7 (Nat.le_trans HB6.out.size (al (Below.refl _ _) _).size) (fun y e => (World.ownsRow.lt HTL6.out.ru y e).1); have hS7 := HSA.out w7 HPQ7.out HB7.out; clear hown7 hg7 hnew7)
        refine hK.out _ _ (by first | exact hS5 | exact hS6 | exact HSY.out _ | exact hS7) ?_
        clear hK K
        intro hHeld2
        clear hHeld
        have hHeld := hHeld2
        clear hHeld2
        try simp only [Act.put, List.setIfInBounds_toArray, List.set_cons_zero, List.set_cons_succ]
        refine take_at (i := 13) 11 (v := ?_) rfl rfl (by kernel_rfl) (by kernel_rfl) (by kernel_rfl) (fun _ _ _ h => h) (by rfl) ?_ hHeld ?_
        rotate_left
        · (intro w hSw; (try dsimp only at hSw); go_simp; try with_reducible rfl)
        simp only [Act.put, List.setIfInBounds_toArray, List.set_cons_zero, List.set_cons_succ]
        refine wpAnyH_done (by kernel_rfl) ?_ _
        refine NoPanic.normal ?_
        go_wp2
        go_roundw
        case rel =>
          refine ⟨j + 1, _, S, _, _, _, _, _, _, hlt, by go_num, Pq.pr HPQ7.out (fun _ _ => ⟨rfl, rfl⟩), HTL7.out, HB7.out, fun y => ?_, fun y => ?_, ?_⟩
          · by_cases e : y = i
            · subst e
              rw [upd_same]
              have := advL_len (L y) (N y) t.at_
              have := HLJ.out.1 y
              omega
            · rw [upd_other _ e]
              have := HLJ.out.1 y
              omega
          · have := HLJ.out.2.1 y
            omega
          · rw [List.length_append, List.length_singleton]
            have := HLJ.out.2.2
            omega
        case measure => simp [intOf]; omega
      · have hk3b : (t.kind == 3) = false := by simp [hk3]
        have HSA : Hid (∀ (u : World) {N S : Nat → Nat} {L : Nat → List Tm} {V : Nat → Nat → Nat → Value} {v : Nat → Value}, Pr w.heap.size u g1 g2 p m q N S L V v → Below w.heap.size w u → u.cell? ⟨g1, i, none⟩ = some (ptr (p i)) ∧ u.cell? ⟨g2, i, none⟩ = some (ptr (q i)) ∧ u.cell? ⟨b, o + j * 4, none⟩ = some (.int .i64 t.on) ∧ u.cell? ⟨b, o + j * 4 + 1, none⟩ = some (.int .i64 t.kind) ∧ u.cell? ⟨b, o + j * 4 + 2, none⟩ = some (.int .i64 t.id) ∧ u.cell? ⟨b, o + j * 4 + 3, none⟩ = some (.int .u64 (t.at_ : Int))) := fun u _ _ _ _ _ hu hb => ⟨hu.c1 hi, hu.c2 hi, HSC.out u hb⟩
        have hSS := HSA.out wr HPR.out HB.out
        go_wp2_with (simp only [hand])
        refine wp_region_noPanic ?_
        refine wp_region_held_drew (S := (fun u => u.cell? ⟨g1, i, none⟩ = some (ptr (p i)) ∧ u.cell? ⟨g2, i, none⟩ = some (ptr (q i)) ∧ u.cell? ⟨b, o + j * 4, none⟩ = some (.int .i64 t.on) ∧ u.cell? ⟨b, o + j * 4 + 1, none⟩ = some (.int .i64 t.kind) ∧ u.cell? ⟨b, o + j * 4 + 2, none⟩ = some (.int .i64 t.id) ∧ u.cell? ⟨b, o + j * 4 + 3, none⟩ = some (.int .u64 (t.at_ : Int)))) (by kernel_rfl) (by first | exact hSS | exact hS4) (fun hHeld => ?_)
        refine take_at (i := 0) 72 (v := ?_) rfl rfl (by kernel_rfl) (by kernel_rfl) (by kernel_rfl) (fun _ _ _ h => h) (by rfl) ?_ hHeld ?_
        rotate_left
        · (intro w hSw; (try dsimp only at hSw); go_simp; try with_reducible rfl)
        simp only [Act.put, List.setIfInBounds_toArray, List.set_cons_zero, List.set_cons_succ]
        refine take_at (i := 1) 73 (v := ?_) rfl rfl (by kernel_rfl) (by kernel_rfl) (by kernel_rfl) (fun _ _ _ h => h) (by rfl) ?_ hHeld ?_
        rotate_left
        · (intro w hSw; (try dsimp only at hSw); go_simp; try with_reducible rfl)
        simp only [Act.put, List.setIfInBounds_toArray, List.set_cons_zero, List.set_cons_succ]
        refine take_at (i := 2) 74 (v := ?_) rfl rfl (by kernel_rfl) (by kernel_rfl) (by kernel_rfl) (fun _ _ _ h => h) (by rfl) ?_ hHeld ?_
        rotate_left
        · (intro w hSw; (try dsimp only at hSw); go_simp; try with_reducible rfl)
        simp only [Act.put, List.setIfInBounds_toArray, List.set_cons_zero, List.set_cons_succ]
        refine take_at (i := 3) 75 (v := ?_) rfl rfl (by kernel_rfl) (by kernel_rfl) (by kernel_rfl) (fun _ _ _ h => h) (by rfl) ?_ hHeld ?_
        rotate_left
        · (intro w hSw; (try dsimp only at hSw); go_simp; try with_reducible rfl)
        simp only [Act.put, List.setIfInBounds_toArray, List.set_cons_zero, List.set_cons_succ]
        refine take_at (i := 4) 76 (v := ?_) rfl rfl (by kernel_rfl) (by kernel_rfl) (by kernel_rfl) (fun _ _ _ h => h) (by rfl) ?_ hHeld ?_
        rotate_left
        · (intro w hSw; (try dsimp only at hSw); go_simp; try with_reducible rfl)
        simp only [Act.put, List.setIfInBounds_toArray, List.set_cons_zero, List.set_cons_succ]
        refine take_at (i := 5) 77 (v := ?_) rfl rfl (by kernel_rfl) (by kernel_rfl) (by kernel_rfl) (fun _ _ _ h => h) (by rfl) ?_ hHeld ?_
        rotate_left
        · (intro w hSw; (try dsimp only at hSw); go_simp; try with_reducible rfl)
        simp only [Act.put, List.setIfInBounds_toArray, List.set_cons_zero, List.set_cons_succ]
        refine take_at (i := 6) 78 (v := ?_) rfl rfl (by kernel_rfl) (by kernel_rfl) (by kernel_rfl) (fun _ _ _ h => h) (by rfl) ?_ hHeld ?_
        rotate_left
        · (intro w hSw; (try dsimp only at hSw); go_simp; try with_reducible rfl)
        simp only [Act.put, List.setIfInBounds_toArray, List.set_cons_zero, List.set_cons_succ]
        refine take_at (i := 7) 79 (v := ?_) rfl rfl (by kernel_rfl) (by kernel_rfl) (by kernel_rfl) (fun _ _ _ h => h) (by rfl) ?_ hHeld ?_
        rotate_left
        · (intro w hSw; (try dsimp only at hSw); go_simp; try with_reducible rfl)
        simp only [Act.put, List.setIfInBounds_toArray, List.set_cons_zero, List.set_cons_succ]
        refine take_at (i := 8) 80 (v := ?_) rfl rfl (by kernel_rfl) (by kernel_rfl) (by kernel_rfl) (fun _ _ _ h => h) (by rfl) ?_ hHeld ?_
        rotate_left
        · (intro w hSw; (try dsimp only at hSw); go_simp; try with_reducible rfl)
        simp only [Act.put, List.setIfInBounds_toArray, List.set_cons_zero, List.set_cons_succ]
        refine take_at (i := 9) 81 (v := ?_) rfl rfl (by kernel_rfl) (by kernel_rfl) (by kernel_rfl) (fun _ _ _ h => h) (by rfl) ?_ hHeld ?_
        rotate_left
        · (intro w hSw; (try dsimp only at hSw); go_simp; try with_reducible rfl)
        simp only [Act.put, List.setIfInBounds_toArray, List.set_cons_zero, List.set_cons_succ]
        refine take_at (i := 10) 82 (v := ?_) rfl rfl (by kernel_rfl) (by kernel_rfl) (by kernel_rfl) (fun _ _ _ h => h) (by rfl) ?_ hHeld ?_
        rotate_left
        · (intro w hSw; (try dsimp only at hSw); go_simp; try with_reducible rfl)
        simp only [Act.put, List.setIfInBounds_toArray, List.set_cons_zero, List.set_cons_succ]
        refine take_at (i := 11) 83 (v := ?_) rfl rfl (by kernel_rfl) (by kernel_rfl) (by kernel_rfl) (fun _ _ _ h => h) (by rfl) ?_ hHeld ?_
        rotate_left
        · (intro w hSw; (try dsimp only at hSw); go_simp; try with_reducible rfl)
        simp only [Act.put, List.setIfInBounds_toArray, List.set_cons_zero, List.set_cons_succ]
        refine run_at (i := 12) rfl (by kernel_rfl) (by rfl) (fun K hK => ?_)
        simp only [List.getElem_toArray, List.getElem_cons_zero, List.getElem_cons_succ]
        go_simp
        first | (go_at_call 12; refine Calls.mono (plays_t (Wt.below (HPR.out.wt i hi) (Below.refl _ _).drew) (RfW.below (HPR.out.rf i hi) (Below.refl _ _).drew) (TabZ.below HPR.out.tab (Below.refl _ _).drew) t.on t.kind t.id t.at_ HOK.out.2.2.1 (by have := HLJ.out.1 i; omega) (by have := HLJ.out.2.1 i; omega)) ?_; rintro e w4 ⟨rfl, N4, S4, L4, V4, v4, hw4, hr4, hps4, hs4, hl4⟩; have hst4 := Pr.step (Pr.below HPR.out (Below.refl _ _).drew) hi hw4 hr4 hps4; have HPR4 : Hid _ := hst4.1; have HTL4 : Hid _ := Tl.st (Tl.below HTL.out (Below.refl _ _).drew) (Pq.below HPR.out.toq (Below.refl _ _).drew) hi hps4.chg; have HB4 : Hid (Below w.heap.size w w4) := (HB.out.trans (Below.refl _ _).drew).trans hst4.2; have hS4 := HSA.out w4 HPR4.out HB4.out; have HSL4 : Hid _ := And.intro hs4 hl4; clear hw4 hr4 hps4 hst4 hs4 hl4)
        go_wp2_with fail
        refine hK.out _ _ (by first | exact hSS | exact hS4) ?_
        clear hK K
        intro hHeld2
        clear hHeld
        have hHeld := hHeld2
        clear hHeld2
        try simp only [Act.put, List.setIfInBounds_toArray, List.set_cons_zero, List.set_cons_succ]
        refine take_at (i := 13) 85 (v := ?_) rfl rfl (by kernel_rfl) (by kernel_rfl) (by kernel_rfl) (fun _ _ _ h => h) (by rfl) ?_ hHeld ?_
        rotate_left
        · (intro w hSw; (try dsimp only at hSw); go_simp; try with_reducible rfl)
        simp only [Act.put, List.setIfInBounds_toArray, List.set_cons_zero, List.set_cons_succ]
        refine wpAnyH_done (by kernel_rfl) ?_ _
        refine NoPanic.normal ?_
        go_wp2
        go_roundw
        case rel =>
          refine ⟨j + 1, _, _, _, _, _, _, _, _, hlt, by go_num, HPR4.out, HTL4.out, HB4.out, fun y => ?_, fun y => ?_, ?_⟩
          · by_cases e : y = i
            · subst e
              rw [upd_same]
              have := HSL4.out.2
              have := HLJ.out.1 y
              omega
            · rw [upd_other _ e]
              have := HLJ.out.1 y
              omega
          · by_cases e : y = i
            · subst e
              rw [upd_same]
              have := HSL4.out.1
              have := HLJ.out.2.1 y
              omega
            · rw [upd_other _ e]
              have := HLJ.out.2.1 y
              omega
          · have := HLJ.out.2.2
            omega
        case measure => simp [intOf]; omega
    · have hjn : j = len := by omega
      obtain ⟨ta, tc, hv, htc, -⟩ := rowI_val HTL.out.rt
      obtain ⟨ua, uc, hu, huc, -⟩ := rowI_val HTL.out.ru
      have hlu : us.length = vs.length := by rw [HTL.out.lu, HTL.out.lv]
      obtain ⟨n9, hn9⟩ : ∃ n9, n9 = vs.length := ⟨_, rfl⟩
      rw [hlu, ← hn9] at hu
      rw [← hn9] at hv
      subst hv
      subst hu
      have hn9b : n9 ≤ len := by rw [hn9, HTL.out.lv]; omega
      have HN9 : Hid _ := And.intro hn9 hlu
      obtain ⟨wz, hwz⟩ : ∃ wz, wz = wr := ⟨_, rfl⟩
      rw [← hwz] at HPR HTL HB
      rw [← hwz]
      clear hwz hn9 hlu hSj hDj htc huc
      go_wp2
      clear hjn hlt
      go_loopw [14] (fun i wt => ∃ k : Nat, k ≤ n9 ∧ i = .int .i64 (k : Int) ∧ Below wz.heap.size wz wt) (fun i _ => n9 - (intOf i).toNat)
      case atStart => exact ⟨0, Nat.zero_le _, rfl, Below.refl _ _⟩
      case round =>
        obtain ⟨k, hk, rfl, hd⟩ := hrel
        have HD : Hid _ := hd
        clear hd
        by_cases hlk : k < n9
        · have hkv : k < vs.length := by rw [← HN9.out.1]; exact hlk
          have hku : k < us.length := by rw [HN9.out.2]; exact hkv
          have hkD : k < Ds.length := by rw [← HTL.out.lv]; exact hkv
          have ho1 := HTL.out.ov k hkv hkD
          have ho2 := HTL.out.ou k hku hkD
          have hDb := HTL.out.bd Ds[k] (List.getElem_mem _)
          obtain ⟨D, hDD⟩ : ∃ D, D = Ds[k] := ⟨_, rfl⟩
          rw [← hDD] at ho1 ho2 hDb
          obtain ⟨y1, hy1⟩ : ∃ y1, y1 = vs[k] := ⟨_, rfl⟩
          obtain ⟨y2, hy2⟩ : ∃ y2, y2 = us[k] := ⟨_, rfl⟩
          rw [← hy1] at ho1
          rw [← hy2] at ho2
          obtain ⟨a1, c1, e1, -⟩ := OwnZ.rd ho1
          obtain ⟨a2, c2, e2, -⟩ := OwnZ.rd ho2
          obtain ⟨n1, hn1⟩ : ∃ n1, n1 = D.length := ⟨_, rfl⟩
          rw [← hn1] at e1 e2
          have hr1 := HTL.out.rt
          have hr2 := HTL.out.ru
          obtain ⟨gt, hgt⟩ : ∃ gt, ta = some ⟨gt, 0, none⟩ := by
            rcases hr1.2 with ⟨e, h0⟩ | ⟨g9, c9, cur, e, -⟩
            · omega
            · cases e; exact ⟨_, rfl⟩
          obtain ⟨gu, hgu⟩ : ∃ gu, ua = some ⟨gu, 0, none⟩ := by
            rcases hr2.2 with ⟨e, h0⟩ | ⟨g9, c9, cur, e, -⟩
            · omega
            · cases e; exact ⟨_, rfl⟩
          subst hgt
          subst hgu
          have HSA : Hid (∀ u : World, Below wz.heap.size wz u → u.cell? ⟨gt, k, none⟩ = some (.slice a1 n1 c1) ∧ u.cell? ⟨gu, k, none⟩ = some (.slice a2 n1 c2)) := fun u hu => by
            have h1 := (Tl.below HTL.out hu).rt
            have h2 := (Tl.below HTL.out hu).ru
            rw [← HN9.out.1] at h1
            rw [HN9.out.2, ← HN9.out.1] at h2
            refine ⟨?_, ?_⟩
            · rw [World.ownsRow.cellAt h1 k (by omega), List.getElem?_eq_getElem hkv, ← hy1, e1]
            · rw [World.ownsRow.cellAt h2 k (by omega), List.getElem?_eq_getElem hku, ← hy2, e2]
          have HO : Hid (OwnZ wz w.heap.size (.slice a1 n1 c1) D ∧ OwnZ wz w.heap.size (.slice a2 n1 c2) D) := (show _ ∧ _ by rw [← e1, ← e2]; exact ⟨ho1, ho2⟩)
          have hSS := HSA.out wr HD.out
          have hDb2 : D.length ≤ 9223372036854775806 := by omega
          clear ho1 ho2 hDD hy1 hy2 e1 e2 hn1 hr1 hr2 hDb
          go_wp2
          refine wp_region_noPanic ?_
          refine wp_region_held_drew (S := (fun u => u.cell? ⟨gt, k, none⟩ = some (.slice a1 n1 c1) ∧ u.cell? ⟨gu, k, none⟩ = some (.slice a2 n1 c2))) (by kernel_rfl) (by first | exact hSS | exact hS5) (fun hHeld => ?_)
          refine take_at (i := 0) 92 (v := ?_) rfl rfl (by kernel_rfl) (by kernel_rfl) (by kernel_rfl) (fun _ _ _ h => h) (by rfl) ?_ hHeld ?_
          rotate_left
          · (intro w hSw; (try dsimp only at hSw); go_simp; try with_reducible rfl)
          simp only [Act.put, List.setIfInBounds_toArray, List.set_cons_zero, List.set_cons_succ]
          refine take_at (i := 1) 93 (v := ?_) rfl rfl (by kernel_rfl) (by kernel_rfl) (by kernel_rfl) (fun _ _ _ h => h) (by rfl) ?_ hHeld ?_
          rotate_left
          · (intro w hSw; (try dsimp only at hSw); go_simp; try with_reducible rfl)
          simp only [Act.put, List.setIfInBounds_toArray, List.set_cons_zero, List.set_cons_succ]
          refine take_at (i := 2) 94 (v := ?_) rfl rfl (by kernel_rfl) (by kernel_rfl) (by kernel_rfl) (fun _ _ _ h => h) (by rfl) ?_ hHeld ?_
          rotate_left
          · (intro w hSw; (try dsimp only at hSw); go_simp; try with_reducible rfl)
          simp only [Act.put, List.setIfInBounds_toArray, List.set_cons_zero, List.set_cons_succ]
          refine take_at (i := 3) 95 (v := ?_) rfl rfl (by kernel_rfl) (by kernel_rfl) (by kernel_rfl) (fun _ _ _ h => h) (by rfl) ?_ hHeld ?_
          rotate_left
          · (intro w hSw; (try dsimp only at hSw); go_simp; try with_reducible rfl)
          simp only [Act.put, List.setIfInBounds_toArray, List.set_cons_zero, List.set_cons_succ]
          refine take_at (i := 4) 96 (v := ?_) rfl rfl (by kernel_rfl) (by kernel_rfl) (by kernel_rfl) (fun _ _ _ h => h) (by rfl) ?_ hHeld ?_
          rotate_left
          · (intro w hSw; (try dsimp only at hSw); go_simp; try with_reducible rfl)
          simp only [Act.put, List.setIfInBounds_toArray, List.set_cons_zero, List.set_cons_succ]
          refine take_at (i := 5) 97 (v := ?_) rfl rfl (by kernel_rfl) (by kernel_rfl) (by kernel_rfl) (fun _ _ _ h => h) (by rfl) ?_ hHeld ?_
          rotate_left
          · (intro w hSw; (try dsimp only at hSw); go_simp; try with_reducible rfl)
          simp only [Act.put, List.setIfInBounds_toArray, List.set_cons_zero, List.set_cons_succ]
          refine take_at (i := 6) 98 (v := ?_) rfl rfl (by kernel_rfl) (by kernel_rfl) (by kernel_rfl) (fun _ _ _ h => h) (by rfl) ?_ hHeld ?_
          rotate_left
          · (intro w hSw; (try dsimp only at hSw); go_simp; try with_reducible rfl)
          simp only [Act.put, List.setIfInBounds_toArray, List.set_cons_zero, List.set_cons_succ]
          refine take_at (i := 7) 99 (v := ?_) rfl rfl (by kernel_rfl) (by kernel_rfl) (by kernel_rfl) (fun _ _ _ h => h) (by rfl) ?_ hHeld ?_
          rotate_left
          · (intro w hSw; (try dsimp only at hSw); go_simp; try with_reducible rfl)
          simp only [Act.put, List.setIfInBounds_toArray, List.set_cons_zero, List.set_cons_succ]
          refine run_at (i := 8) rfl (by kernel_rfl) (by rfl) (fun K hK => ?_)
          simp only [List.getElem_toArray, List.getElem_cons_zero, List.getElem_cons_succ]
          go_simp
          (go_at_call 13; refine Calls.mono (same_t _ _ D D _ (OwnZ.rd (rowZ_below HO.out.1 HD.out.drew)) (OwnZ.rd (rowZ_below HO.out.2 HD.out.drew)) hDb2 hDb2) ?_; rintro e w5 ⟨rfl, hd5⟩; have hdec : decide (D = D) = true := decide_eq_true rfl; rw [hdec]; have HD5 : Hid (Below wz.heap.size wz w5) := HD.out.drew.trans ((hd5.below _).mono (Nat.le_trans HD.out.size (Nat.le_refl _))); have hS5 := HSA.out w5 HD5.out; clear hdec hd5)
          go_wp2_with fail
          refine hK.out _ _ (by first | exact hSS | exact hS5) ?_
          clear hK K
          intro hHeld2
          clear hHeld
          have hHeld := hHeld2
          clear hHeld2
          try simp only [Act.put, List.setIfInBounds_toArray, List.set_cons_zero, List.set_cons_succ]
          refine take_at (i := 9) 101 (v := ?_) rfl rfl (by kernel_rfl) (by kernel_rfl) (by kernel_rfl) (fun _ _ _ h => h) (by rfl) ?_ hHeld ?_
          rotate_left
          · (intro w hSw; (try dsimp only at hSw); go_simp; try with_reducible rfl)
          simp only [Act.put, List.setIfInBounds_toArray, List.set_cons_zero, List.set_cons_succ]
          refine wpAnyH_done (by kernel_rfl) ?_ _
          refine NoPanic.normal ?_
          go_wp2
          go_roundw
          case rel => exact ⟨k + 1, hlk, by go_num, HD5.out⟩
          case measure => simp [intOf]; omega
        · have hkn : k = n9 := by omega
          have HPQ : Hid _ := Pq.below HPR.out.toq HD.out
          have HTL2 : Hid _ := Tl.below HTL.out HD.out
          have HB2 : Hid (Below w.heap.size w wr) := below_next HB.out HD.out
          have HS : Hid (∀ (u : World) {N S : Nat → Nat} {L : Nat → List Tm} {V : Nat → Nat → Nat → Value} {v : Nat → Value} {N' : Nat → Nat} {L' : Nat → List Tm}, Pq w.heap.size u g1 g2 p m q N S L V v N' L' → u.cell? ⟨g1, 0, none⟩ = some (ptr (p 0)) ∧ u.cell? ⟨g2, 0, none⟩ = some (ptr (q 0)) ∧ u.cell? ⟨g1, 1, none⟩ = some (ptr (p 1)) ∧ u.cell? ⟨g2, 1, none⟩ = some (ptr (q 1))) := fun u _ _ _ _ _ _ _ hu => ⟨hu.c1 (by decide), hu.c2 (by decide), hu.c1 (by decide), hu.c2 (by decide)⟩
          have hSS := HS.out wr HPQ.out
          have HRT : Hid (∀ u, Below wr.heap.size wr u → u.ownsRow w.heap.size tIs 1 (.slice ta n9 tc) vs.length vs) := fun u hu => (Tl.below HTL2.out hu).rt
          have HLD : Hid (∀ k, ((Ds.getD k []).map (fun z => Value.int .i64 z)).length ≤ 4398046511103) := fun k => by
            rw [List.length_map]
            by_cases h9 : k < Ds.length
            · have e9 : Ds.getD k [] = Ds[k] := by simp [List.getD, h9]
              rw [e9]
              exact HTL.out.bd _ (List.getElem_mem _)
            · have e9 : Ds.getD k [] = [] := by simp [List.getD, h9]
              rw [e9]
              simp
          have hnv : vs.length ≤ 4398046511103 := by rw [← HN9.out.1]; omega
          go_wp2
          clear hkn hlk
          refine wp_region_noPanic ?_
          refine wp_region_held_drew (S := (fun u => u.cell? ⟨g1, 0, none⟩ = some (ptr (p 0)) ∧ u.cell? ⟨g2, 0, none⟩ = some (ptr (q 0)) ∧ u.cell? ⟨g1, 1, none⟩ = some (ptr (p 1)) ∧ u.cell? ⟨g2, 1, none⟩ = some (ptr (q 1)))) (by kernel_rfl) (by first | exact hSS | exact hS4 | exact hS5 | exact hS6) (fun hHeld => ?_)
          refine take_at (i := 0) 102 (v := ?_) rfl rfl (by kernel_rfl) (by kernel_rfl) (by kernel_rfl) (fun _ _ _ h => h) (by rfl) ?_ hHeld ?_
          rotate_left
          · (intro w hSw; (try dsimp only at hSw); go_simp; try with_reducible rfl)
          simp only [Act.put, List.setIfInBounds_toArray, List.set_cons_zero, List.set_cons_succ]
          refine run_at (i := 1) rfl (by kernel_rfl) (by rfl) (fun K hK => ?_)
          simp only [List.getElem_toArray, List.getElem_cons_zero, List.getElem_cons_succ]
          go_simp
          first | (go_at_call 14; refine Calls.mono (apartInts_t w.heap.size _ vs _ _ (HRT.out _ (Below.refl _ _).drew) (Tl.below HTL2.out (Below.refl _ _).drew).ints hnv HLD.out HB2.out.size) ?_; rintro e w4 ⟨rfl, hch4⟩; have hap4 := Pq.apart (Pq.below HPQ.out (Below.refl _ _).drew) (Tl.below HTL2.out (Below.refl _ _).drew) hch4; have HPQ4 : Hid _ := hap4.1; have HB4 : Hid (Below w.heap.size w w4) := (HB2.out.trans (Below.refl _ _).drew).trans hap4.2; have hS4 := HS.out w4 HPQ4.out; clear hch4 hap4) | (go_at_call 15; first | (refine Calls.mono (shows_t (HPQ5.out.wt 1 (Nat.lt_succ_self 1)) (HPQ5.out.rf 1 (Nat.lt_succ_self 1)) HPQ5.out.tab) ?_; rintro e w6 ⟨rfl, hb6⟩; have HPQ6 : Hid _ := Pq.below HPQ5.out hb6; have HB6 : Hid (Below w.heap.size w w6) := below_next HB5.out hb6; have hS6 := HS.out w6 HPQ6.out; clear hb6) | (refine Calls.mono (shows_t (HPQ4.out.wt 0 (Nat.zero_lt_succ 1)) (HPQ4.out.rf 0 (Nat.zero_lt_succ 1)) HPQ4.out.tab) ?_; rintro e w5 ⟨rfl, hb5⟩; have HPQ5 : Hid _ := Pq.below HPQ4.out hb5; have HB5 : Hid (Below w.heap.size w w5) := below_next HB4.out hb5; have hS5 := HS.out w5 HPQ5.out; clear hb5))
          go_wp2_with fail
          refine hK.out _ _ (by first | exact hSS | exact hS4 | exact hS5 | exact hS6) ?_
          clear hK K
          intro hHeld2
          clear hHeld
          have hHeld := hHeld2
          clear hHeld2
          try simp only [Act.put, List.setIfInBounds_toArray, List.set_cons_zero, List.set_cons_succ]
          refine take_at (i := 2) 104 (v := ?_) rfl rfl (by kernel_rfl) (by kernel_rfl) (by kernel_rfl) (fun _ _ _ h => h) (by rfl) ?_ hHeld ?_
          rotate_left
          · (intro w hSw; (try dsimp only at hSw); go_simp; try with_reducible rfl)
          simp only [Act.put, List.setIfInBounds_toArray, List.set_cons_zero, List.set_cons_succ]
          refine take_at (i := 3) 105 (v := ?_) rfl rfl (by kernel_rfl) (by kernel_rfl) (by kernel_rfl) (fun _ _ _ h => h) (by rfl) ?_ hHeld ?_
          rotate_left
          · (intro w hSw; (try dsimp only at hSw); go_simp; try with_reducible rfl)
          simp only [Act.put, List.setIfInBounds_toArray, List.set_cons_zero, List.set_cons_succ]
          refine take_at (i := 4) 106 (v := ?_) rfl rfl (by kernel_rfl) (by kernel_rfl) (by kernel_rfl) (fun _ _ _ h => h) (by rfl) ?_ hHeld ?_
          rotate_left
          · (intro w hSw; (try dsimp only at hSw); go_simp; try with_reducible rfl)
          simp only [Act.put, List.setIfInBounds_toArray, List.set_cons_zero, List.set_cons_succ]
          refine take_at (i := 5) 107 (v := ?_) rfl rfl (by kernel_rfl) (by kernel_rfl) (by kernel_rfl) (fun _ _ _ h => h) (by rfl) ?_ hHeld ?_
          rotate_left
          · (intro w hSw; (try dsimp only at hSw); go_simp; try with_reducible rfl)
          simp only [Act.put, List.setIfInBounds_toArray, List.set_cons_zero, List.set_cons_succ]
          refine take_at (i := 6) 108 (v := ?_) rfl rfl (by kernel_rfl) (by kernel_rfl) (by kernel_rfl) (fun _ _ _ h => h) (by rfl) ?_ hHeld ?_
          rotate_left
          · (intro w hSw; (try dsimp only at hSw); go_simp; try with_reducible rfl)
          simp only [Act.put, List.setIfInBounds_toArray, List.set_cons_zero, List.set_cons_succ]
          refine take_at (i := 7) 109 (v := ?_) rfl rfl (by kernel_rfl) (by kernel_rfl) (by kernel_rfl) (fun _ _ _ h => h) (by rfl) ?_ hHeld ?_
          rotate_left
          · (intro w hSw; (try dsimp only at hSw); go_simp; try with_reducible rfl)
          simp only [Act.put, List.setIfInBounds_toArray, List.set_cons_zero, List.set_cons_succ]
          refine take_at (i := 8) 110 (v := ?_) rfl rfl (by kernel_rfl) (by kernel_rfl) (by kernel_rfl) (fun _ _ _ h => h) (by rfl) ?_ hHeld ?_
          rotate_left
          · (intro w hSw; (try dsimp only at hSw); go_simp; try with_reducible rfl)
          simp only [Act.put, List.setIfInBounds_toArray, List.set_cons_zero, List.set_cons_succ]
          refine take_at (i := 9) 111 (v := ?_) rfl rfl (by kernel_rfl) (by kernel_rfl) (by kernel_rfl) (fun _ _ _ h => h) (by rfl) ?_ hHeld ?_
          rotate_left
          · (intro w hSw; (try dsimp only at hSw); go_simp; try with_reducible rfl)
          simp only [Act.put, List.setIfInBounds_toArray, List.set_cons_zero, List.set_cons_succ]
          refine run_at (i := 10) rfl (by kernel_rfl) (by rfl) (fun K hK => ?_)
          simp only [List.getElem_toArray, List.getElem_cons_zero, List.getElem_cons_succ]
          go_simp
          first | (go_at_call 14; refine Calls.mono (apartInts_t w.heap.size _ vs _ _ (HRT.out _ (Below.refl _ _).drew) (Tl.below HTL2.out (Below.refl _ _).drew).ints hnv HLD.out HB2.out.size) ?_; rintro e w4 ⟨rfl, hch4⟩; have hap4 := Pq.apart (Pq.below HPQ.out (Below.refl _ _).drew) (Tl.below HTL2.out (Below.refl _ _).drew) hch4; have HPQ4 : Hid _ := hap4.1; have HB4 : Hid (Below w.heap.size w w4) := (HB2.out.trans (Below.refl _ _).drew).trans hap4.2; have hS4 := HS.out w4 HPQ4.out; clear hch4 hap4) | (go_at_call 15; first | (refine Calls.mono (shows_t (HPQ5.out.wt 1 (Nat.lt_succ_self 1)) (HPQ5.out.rf 1 (Nat.lt_succ_self 1)) HPQ5.out.tab) ?_; rintro e w6 ⟨rfl, hb6⟩; have HPQ6 : Hid _ := Pq.below HPQ5.out hb6; have HB6 : Hid (Below w.heap.size w w6) := below_next HB5.out hb6; have hS6 := HS.out w6 HPQ6.out; clear hb6) | (refine Calls.mono (shows_t (HPQ4.out.wt 0 (Nat.zero_lt_succ 1)) (HPQ4.out.rf 0 (Nat.zero_lt_succ 1)) HPQ4.out.tab) ?_; rintro e w5 ⟨rfl, hb5⟩; have HPQ5 : Hid _ := Pq.below HPQ4.out hb5; have HB5 : Hid (Below w.heap.size w w5) := below_next HB4.out hb5; have hS5 := HS.out w5 HPQ5.out; clear hb5))
          go_wp2_with fail
          refine hK.out _ _ (by first | exact hSS | exact hS4 | exact hS5 | exact hS6) ?_
          clear hK K
          intro hHeld2
          clear hHeld
          have hHeld := hHeld2
          clear hHeld2
          try simp only [Act.put, List.setIfInBounds_toArray, List.set_cons_zero, List.set_cons_succ]
          refine take_at (i := 11) 113 (v := ?_) rfl rfl (by kernel_rfl) (by kernel_rfl) (by kernel_rfl) (fun _ _ _ h => h) (by rfl) ?_ hHeld ?_
          rotate_left
          · (intro w hSw; (try dsimp only at hSw); go_simp; try with_reducible rfl)
          simp only [Act.put, List.setIfInBounds_toArray, List.set_cons_zero, List.set_cons_succ]
          refine take_at (i := 12) 114 (v := ?_) rfl rfl (by kernel_rfl) (by kernel_rfl) (by kernel_rfl) (fun _ _ _ h => h) (by rfl) ?_ hHeld ?_
          rotate_left
          · (intro w hSw; (try dsimp only at hSw); go_simp; try with_reducible rfl)
          simp only [Act.put, List.setIfInBounds_toArray, List.set_cons_zero, List.set_cons_succ]
          refine take_at (i := 13) 115 (v := ?_) rfl rfl (by kernel_rfl) (by kernel_rfl) (by kernel_rfl) (fun _ _ _ h => h) (by rfl) ?_ hHeld ?_
          rotate_left
          · (intro w hSw; (try dsimp only at hSw); go_simp; try with_reducible rfl)
          simp only [Act.put, List.setIfInBounds_toArray, List.set_cons_zero, List.set_cons_succ]
          refine take_at (i := 14) 116 (v := ?_) rfl rfl (by kernel_rfl) (by kernel_rfl) (by kernel_rfl) (fun _ _ _ h => h) (by rfl) ?_ hHeld ?_
          rotate_left
          · (intro w hSw; (try dsimp only at hSw); go_simp; try with_reducible rfl)
          simp only [Act.put, List.setIfInBounds_toArray, List.set_cons_zero, List.set_cons_succ]
          refine take_at (i := 15) 117 (v := ?_) rfl rfl (by kernel_rfl) (by kernel_rfl) (by kernel_rfl) (fun _ _ _ h => h) (by rfl) ?_ hHeld ?_
          rotate_left
          · (intro w hSw; (try dsimp only at hSw); go_simp; try with_reducible rfl)
          simp only [Act.put, List.setIfInBounds_toArray, List.set_cons_zero, List.set_cons_succ]
          refine take_at (i := 16) 118 (v := ?_) rfl rfl (by kernel_rfl) (by kernel_rfl) (by kernel_rfl) (fun _ _ _ h => h) (by rfl) ?_ hHeld ?_
          rotate_left
          · (intro w hSw; (try dsimp only at hSw); go_simp; try with_reducible rfl)
          simp only [Act.put, List.setIfInBounds_toArray, List.set_cons_zero, List.set_cons_succ]
          refine take_at (i := 17) 119 (v := ?_) rfl rfl (by kernel_rfl) (by kernel_rfl) (by kernel_rfl) (fun _ _ _ h => h) (by rfl) ?_ hHeld ?_
          rotate_left
          · (intro w hSw; (try dsimp only at hSw); go_simp; try with_reducible rfl)
          simp only [Act.put, List.setIfInBounds_toArray, List.set_cons_zero, List.set_cons_succ]
          refine take_at (i := 18) 120 (v := ?_) rfl rfl (by kernel_rfl) (by kernel_rfl) (by kernel_rfl) (fun _ _ _ h => h) (by rfl) ?_ hHeld ?_
          rotate_left
          · (intro w hSw; (try dsimp only at hSw); go_simp; try with_reducible rfl)
          simp only [Act.put, List.setIfInBounds_toArray, List.set_cons_zero, List.set_cons_succ]
          refine take_at (i := 19) 121 (v := ?_) rfl rfl (by kernel_rfl) (by kernel_rfl) (by kernel_rfl) (fun _ _ _ h => h) (by rfl) ?_ hHeld ?_
          rotate_left
          · (intro w hSw; (try dsimp only at hSw); go_simp; try with_reducible rfl)
          simp only [Act.put, List.setIfInBounds_toArray, List.set_cons_zero, List.set_cons_succ]
          refine run_at (i := 20) rfl (by kernel_rfl) (by rfl) (fun K hK => ?_)
          simp only [List.getElem_toArray, List.getElem_cons_zero, List.getElem_cons_succ]
          go_simp
          first | (go_at_call 14; refine Calls.mono (apartInts_t w.heap.size _ vs _ _ (HRT.out _ (Below.refl _ _).drew) (Tl.below HTL2.out (Below.refl _ _).drew).ints hnv HLD.out HB2.out.size) ?_; rintro e w4 ⟨rfl, hch4⟩; have hap4 := Pq.apart (Pq.below HPQ.out (Below.refl _ _).drew) (Tl.below HTL2.out (Below.refl _ _).drew) hch4; have HPQ4 : Hid _ := hap4.1; have HB4 : Hid (Below w.heap.size w w4) := (HB2.out.trans (Below.refl _ _).drew).trans hap4.2; have hS4 := HS.out w4 HPQ4.out; clear hch4 hap4) | (go_at_call 15; first | (refine Calls.mono (shows_t (HPQ5.out.wt 1 (Nat.lt_succ_self 1)) (HPQ5.out.rf 1 (Nat.lt_succ_self 1)) HPQ5.out.tab) ?_; rintro e w6 ⟨rfl, hb6⟩; have HPQ6 : Hid _ := Pq.below HPQ5.out hb6; have HB6 : Hid (Below w.heap.size w w6) := below_next HB5.out hb6; have hS6 := HS.out w6 HPQ6.out; clear hb6) | (refine Calls.mono (shows_t (HPQ4.out.wt 0 (Nat.zero_lt_succ 1)) (HPQ4.out.rf 0 (Nat.zero_lt_succ 1)) HPQ4.out.tab) ?_; rintro e w5 ⟨rfl, hb5⟩; have HPQ5 : Hid _ := Pq.below HPQ4.out hb5; have HB5 : Hid (Below w.heap.size w w5) := below_next HB4.out hb5; have hS5 := HS.out w5 HPQ5.out; clear hb5))
          go_wp2_with fail
          refine hK.out _ _ (by first | exact hSS | exact hS4 | exact hS5 | exact hS6) ?_
          clear hK K
          intro hHeld2
          clear hHeld
          have hHeld := hHeld2
          clear hHeld2
          try simp only [Act.put, List.setIfInBounds_toArray, List.set_cons_zero, List.set_cons_succ]
          refine take_at (i := 21) 123 (v := ?_) rfl rfl (by kernel_rfl) (by kernel_rfl) (by kernel_rfl) (fun _ _ _ h => h) (by rfl) ?_ hHeld ?_
          rotate_left
          · (intro w hSw; (try dsimp only at hSw); go_simp; try with_reducible rfl)
          simp only [Act.put, List.setIfInBounds_toArray, List.set_cons_zero, List.set_cons_succ]
          refine take_at (i := 22) 124 (v := ?_) rfl rfl (by kernel_rfl) (by kernel_rfl) (by kernel_rfl) (fun _ _ _ h => h) (by rfl) ?_ hHeld ?_
          rotate_left
          · (intro w hSw; (try dsimp only at hSw); go_simp; try with_reducible rfl)
          simp only [Act.put, List.setIfInBounds_toArray, List.set_cons_zero, List.set_cons_succ]
          refine wpAnyH_done (by kernel_rfl) ?_ _
          refine NoPanic.normal ?_
          go_wp2
          refine wp_region_noPanic ?_
          refine wp_region_held_drew (S := (fun u => u.cell? ⟨g1, 0, none⟩ = some (ptr (p 0)) ∧ u.cell? ⟨g2, 0, none⟩ = some (ptr (q 0)) ∧ u.cell? ⟨g1, 1, none⟩ = some (ptr (p 1)) ∧ u.cell? ⟨g2, 1, none⟩ = some (ptr (q 1)))) (by kernel_rfl) (by first | exact hS6 | exact hS7 | exact hS8 | exact hS9 | exact hSA) (fun hHeld => ?_)
          refine take_at (i := 0) 125 (v := ?_) rfl rfl (by kernel_rfl) (by kernel_rfl) (by kernel_rfl) (fun _ _ _ h => h) (by rfl) ?_ hHeld ?_
          rotate_left
          · (intro w hSw; (try dsimp only at hSw); go_simp; try with_reducible rfl)
          simp only [Act.put, List.setIfInBounds_toArray, List.set_cons_zero, List.set_cons_succ]
          refine take_at (i := 1) 126 (v := ?_) rfl rfl (by kernel_rfl) (by kernel_rfl) (by kernel_rfl) (fun _ _ _ h => h) (by rfl) ?_ hHeld ?_
          rotate_left
          · (intro w hSw; (try dsimp only at hSw); go_simp; try with_reducible rfl)
          simp only [Act.put, List.setIfInBounds_toArray, List.set_cons_zero, List.set_cons_succ]
          refine take_at (i := 2) 127 (v := ?_) rfl rfl (by kernel_rfl) (by kernel_rfl) (by kernel_rfl) (fun _ _ _ h => h) (by rfl) ?_ hHeld ?_
          rotate_left
          · (intro w hSw; (try dsimp only at hSw); go_simp; try with_reducible rfl)
          simp only [Act.put, List.setIfInBounds_toArray, List.set_cons_zero, List.set_cons_succ]
          refine take_at (i := 4) 129 (v := ?_) rfl rfl (by kernel_rfl) (by kernel_rfl) (by kernel_rfl) (fun _ _ _ h => h) (by rfl) ?_ hHeld ?_
          rotate_left
          · (intro w hSw; (try dsimp only at hSw); go_simp; try with_reducible rfl)
          simp only [Act.put, List.setIfInBounds_toArray, List.set_cons_zero, List.set_cons_succ]
          refine take_at (i := 5) 130 (v := ?_) rfl rfl (by kernel_rfl) (by kernel_rfl) (by kernel_rfl) (fun _ _ _ h => h) (by rfl) ?_ hHeld ?_
          rotate_left
          · (intro w hSw; (try dsimp only at hSw); go_simp; try with_reducible rfl)
          simp only [Act.put, List.setIfInBounds_toArray, List.set_cons_zero, List.set_cons_succ]
          refine take_at (i := 6) 131 (v := ?_) rfl rfl (by kernel_rfl) (by kernel_rfl) (by kernel_rfl) (fun _ _ _ h => h) (by rfl) ?_ hHeld ?_
          rotate_left
          · (intro w hSw; (try dsimp only at hSw); go_simp; try with_reducible rfl)
          simp only [Act.put, List.setIfInBounds_toArray, List.set_cons_zero, List.set_cons_succ]
          refine run_at (i := 3) rfl (by kernel_rfl) (by rfl) (fun K hK => ?_)
          simp only [List.getElem_toArray, List.getElem_cons_zero, List.getElem_cons_succ]
          go_simp
          first | (go_at_call 10; refine Calls.mono (own_advM (Pq.below HPQ6.out (Below.refl _ _).drew) (Nat.zero_lt_succ 1) (by have := hLj 0; omega)) ?_; rintro e w7 ⟨az7, nz7, cz7, D7, V7, rfl, hD7, hz7, hpq7, hb7⟩; have HPQ7 : Hid _ := hpq7; have HB7 : Hid (Below w.heap.size w w7) := (HB6.out.trans (Below.refl _ _).drew).trans hb7; have hS7 := HS.out w7 HPQ7.out; have HZ7 : Hid _ := And.intro hz7 hD7; clear hpq7 hb7 hz7 hD7) | (go_at_call 11; refine Calls.mono (own_radvM HPQ7.out (Nat.zero_lt_succ 1) (HPR.out.wt 0 (Nat.zero_lt_succ 1)).ord (by have := hLj 0; omega)) ?_; rintro e w8 ⟨az8, nz8, cz8, D8, v8, rfl, hD8, hz8, hpq8, hb8, hkz8⟩; rw [hD8.uniq HZ7.out.2] at hz8; have HPQ8 : Hid _ := hpq8; have HB8 : Hid (Below w.heap.size w w8) := HB7.out.trans hb8; have hS8 := HS.out w8 HPQ8.out; have HZ8 : Hid _ := And.intro (hkz8 _ _ HZ7.out.1) hz8; clear hpq8 hb8 hz8 hD8 hkz8) | (go_at_call 13; refine Calls.mono (same_t _ _ (D7.map Tm.id) (D7.map Tm.id) _ (OwnZ.rd HZ8.out.1) (OwnZ.rd HZ8.out.2) (by rw [List.length_map]; have h9 := adv_len HZ7.out.2; have := hLj 0; omega) (by rw [List.length_map]; have h9 := adv_len HZ7.out.2; have := hLj 0; omega)) ?_; rintro e w9 ⟨rfl, hd9⟩; have hdec : decide (D7.map Tm.id = D7.map Tm.id) = true := decide_eq_true rfl; rw [hdec]; have HPQ9 : Hid _ := Pq.below HPQ8.out (hd9.below _); have HB9 : Hid (Below w.heap.size w w9) := below_next HB8.out (hd9.below _); have hS9 := HS.out w9 HPQ9.out; clear hdec hd9) | (go_at_call 15; refine Calls.mono (shows_t (HPQ9.out.wt 0 (Nat.zero_lt_succ 1)) (HPQ9.out.rf 0 (Nat.zero_lt_succ 1)) HPQ9.out.tab) ?_; rintro e wA ⟨rfl, hbA⟩; have HPQA : Hid _ := Pq.below HPQ9.out hbA; have HBA : Hid (Below w.heap.size w wA) := below_next HB9.out hbA; have hSA := HS.out wA HPQA.out; clear hbA)
          go_wp2_with fail
          refine hK.out _ _ (by first | exact hS6 | exact hS7 | exact hS8 | exact hS9 | exact hSA) ?_
          clear hK K
          intro hHeld2
          clear hHeld
          have hHeld := hHeld2
          clear hHeld2
          try simp only [Act.put, List.setIfInBounds_toArray, List.set_cons_zero, List.set_cons_succ]
          refine run_at (i := 7) rfl (by kernel_rfl) (by rfl) (fun K hK => ?_)
          simp only [List.getElem_toArray, List.getElem_cons_zero, List.getElem_cons_succ]
          go_simp
          first | (go_at_call 10; refine Calls.mono (own_advM (Pq.below HPQ6.out (Below.refl _ _).drew) (Nat.zero_lt_succ 1) (by have := hLj 0; omega)) ?_; rintro e w7 ⟨az7, nz7, cz7, D7, V7, rfl, hD7, hz7, hpq7, hb7⟩; have HPQ7 : Hid _ := hpq7; have HB7 : Hid (Below w.heap.size w w7) := (HB6.out.trans (Below.refl _ _).drew).trans hb7; have hS7 := HS.out w7 HPQ7.out; have HZ7 : Hid _ := And.intro hz7 hD7; clear hpq7 hb7 hz7 hD7) | (go_at_call 11; refine Calls.mono (own_radvM HPQ7.out (Nat.zero_lt_succ 1) (HPR.out.wt 0 (Nat.zero_lt_succ 1)).ord (by have := hLj 0; omega)) ?_; rintro e w8 ⟨az8, nz8, cz8, D8, v8, rfl, hD8, hz8, hpq8, hb8, hkz8⟩; rw [hD8.uniq HZ7.out.2] at hz8; have HPQ8 : Hid _ := hpq8; have HB8 : Hid (Below w.heap.size w w8) := HB7.out.trans hb8; have hS8 := HS.out w8 HPQ8.out; have HZ8 : Hid _ := And.intro (hkz8 _ _ HZ7.out.1) hz8; clear hpq8 hb8 hz8 hD8 hkz8) | (go_at_call 13; refine Calls.mono (same_t _ _ (D7.map Tm.id) (D7.map Tm.id) _ (OwnZ.rd HZ8.out.1) (OwnZ.rd HZ8.out.2) (by rw [List.length_map]; have h9 := adv_len HZ7.out.2; have := hLj 0; omega) (by rw [List.length_map]; have h9 := adv_len HZ7.out.2; have := hLj 0; omega)) ?_; rintro e w9 ⟨rfl, hd9⟩; have hdec : decide (D7.map Tm.id = D7.map Tm.id) = true := decide_eq_true rfl; rw [hdec]; have HPQ9 : Hid _ := Pq.below HPQ8.out (hd9.below _); have HB9 : Hid (Below w.heap.size w w9) := below_next HB8.out (hd9.below _); have hS9 := HS.out w9 HPQ9.out; clear hdec hd9) | (go_at_call 15; refine Calls.mono (shows_t (HPQ9.out.wt 0 (Nat.zero_lt_succ 1)) (HPQ9.out.rf 0 (Nat.zero_lt_succ 1)) HPQ9.out.tab) ?_; rintro e wA ⟨rfl, hbA⟩; have HPQA : Hid _ := Pq.below HPQ9.out hbA; have HBA : Hid (Below w.heap.size w wA) := below_next HB9.out hbA; have hSA := HS.out wA HPQA.out; clear hbA)
          go_wp2_with fail
          refine hK.out _ _ (by first | exact hS6 | exact hS7 | exact hS8 | exact hS9 | exact hSA) ?_
          clear hK K
          intro hHeld2
          clear hHeld
          have hHeld := hHeld2
          clear hHeld2
          try simp only [Act.put, List.setIfInBounds_toArray, List.set_cons_zero, List.set_cons_succ]
          refine run_at (i := 8) rfl (by kernel_rfl) (by rfl) (fun K hK => ?_)
          simp only [List.getElem_toArray, List.getElem_cons_zero, List.getElem_cons_succ]
          go_simp
          first | (go_at_call 10; refine Calls.mono (own_advM (Pq.below HPQ6.out (Below.refl _ _).drew) (Nat.zero_lt_succ 1) (by have := hLj 0; omega)) ?_; rintro e w7 ⟨az7, nz7, cz7, D7, V7, rfl, hD7, hz7, hpq7, hb7⟩; have HPQ7 : Hid _ := hpq7; have HB7 : Hid (Below w.heap.size w w7) := (HB6.out.trans (Below.refl _ _).drew).trans hb7; have hS7 := HS.out w7 HPQ7.out; have HZ7 : Hid _ := And.intro hz7 hD7; clear hpq7 hb7 hz7 hD7) | (go_at_call 11; refine Calls.mono (own_radvM HPQ7.out (Nat.zero_lt_succ 1) (HPR.out.wt 0 (Nat.zero_lt_succ 1)).ord (by have := hLj 0; omega)) ?_; rintro e w8 ⟨az8, nz8, cz8, D8, v8, rfl, hD8, hz8, hpq8, hb8, hkz8⟩; rw [hD8.uniq HZ7.out.2] at hz8; have HPQ8 : Hid _ := hpq8; have HB8 : Hid (Below w.heap.size w w8) := HB7.out.trans hb8; have hS8 := HS.out w8 HPQ8.out; have HZ8 : Hid _ := And.intro (hkz8 _ _ HZ7.out.1) hz8; clear hpq8 hb8 hz8 hD8 hkz8) | (go_at_call 13; refine Calls.mono (same_t _ _ (D7.map Tm.id) (D7.map Tm.id) _ (OwnZ.rd HZ8.out.1) (OwnZ.rd HZ8.out.2) (by rw [List.length_map]; have h9 := adv_len HZ7.out.2; have := hLj 0; omega) (by rw [List.length_map]; have h9 := adv_len HZ7.out.2; have := hLj 0; omega)) ?_; rintro e w9 ⟨rfl, hd9⟩; have hdec : decide (D7.map Tm.id = D7.map Tm.id) = true := decide_eq_true rfl; rw [hdec]; have HPQ9 : Hid _ := Pq.below HPQ8.out (hd9.below _); have HB9 : Hid (Below w.heap.size w w9) := below_next HB8.out (hd9.below _); have hS9 := HS.out w9 HPQ9.out; clear hdec hd9) | (go_at_call 15; refine Calls.mono (shows_t (HPQ9.out.wt 0 (Nat.zero_lt_succ 1)) (HPQ9.out.rf 0 (Nat.zero_lt_succ 1)) HPQ9.out.tab) ?_; rintro e wA ⟨rfl, hbA⟩; have HPQA : Hid _ := Pq.below HPQ9.out hbA; have HBA : Hid (Below w.heap.size w wA) := below_next HB9.out hbA; have hSA := HS.out wA HPQA.out; clear hbA)
          go_wp2_with fail
          refine hK.out _ _ (by first | exact hS6 | exact hS7 | exact hS8 | exact hS9 | exact hSA) ?_
          clear hK K
          intro hHeld2
          clear hHeld
          have hHeld := hHeld2
          clear hHeld2
          try simp only [Act.put, List.setIfInBounds_toArray, List.set_cons_zero, List.set_cons_succ]
          refine take_at (i := 9) 134 (v := ?_) rfl rfl (by kernel_rfl) (by kernel_rfl) (by kernel_rfl) (fun _ _ _ h => h) (by rfl) ?_ hHeld ?_
          rotate_left
          · (intro w hSw; (try dsimp only at hSw); go_simp; try with_reducible rfl)
          simp only [Act.put, List.setIfInBounds_toArray, List.set_cons_zero, List.set_cons_succ]
          refine take_at (i := 10) 135 (v := ?_) rfl rfl (by kernel_rfl) (by kernel_rfl) (by kernel_rfl) (fun _ _ _ h => h) (by rfl) ?_ hHeld ?_
          rotate_left
          · (intro w hSw; (try dsimp only at hSw); go_simp; try with_reducible rfl)
          simp only [Act.put, List.setIfInBounds_toArray, List.set_cons_zero, List.set_cons_succ]
          refine take_at (i := 11) 136 (v := ?_) rfl rfl (by kernel_rfl) (by kernel_rfl) (by kernel_rfl) (fun _ _ _ h => h) (by rfl) ?_ hHeld ?_
          rotate_left
          · (intro w hSw; (try dsimp only at hSw); go_simp; try with_reducible rfl)
          simp only [Act.put, List.setIfInBounds_toArray, List.set_cons_zero, List.set_cons_succ]
          refine take_at (i := 12) 137 (v := ?_) rfl rfl (by kernel_rfl) (by kernel_rfl) (by kernel_rfl) (fun _ _ _ h => h) (by rfl) ?_ hHeld ?_
          rotate_left
          · (intro w hSw; (try dsimp only at hSw); go_simp; try with_reducible rfl)
          simp only [Act.put, List.setIfInBounds_toArray, List.set_cons_zero, List.set_cons_succ]
          refine take_at (i := 13) 138 (v := ?_) rfl rfl (by kernel_rfl) (by kernel_rfl) (by kernel_rfl) (fun _ _ _ h => h) (by rfl) ?_ hHeld ?_
          rotate_left
          · (intro w hSw; (try dsimp only at hSw); go_simp; try with_reducible rfl)
          simp only [Act.put, List.setIfInBounds_toArray, List.set_cons_zero, List.set_cons_succ]
          refine take_at (i := 14) 139 (v := ?_) rfl rfl (by kernel_rfl) (by kernel_rfl) (by kernel_rfl) (fun _ _ _ h => h) (by rfl) ?_ hHeld ?_
          rotate_left
          · (intro w hSw; (try dsimp only at hSw); go_simp; try with_reducible rfl)
          simp only [Act.put, List.setIfInBounds_toArray, List.set_cons_zero, List.set_cons_succ]
          refine take_at (i := 15) 140 (v := ?_) rfl rfl (by kernel_rfl) (by kernel_rfl) (by kernel_rfl) (fun _ _ _ h => h) (by rfl) ?_ hHeld ?_
          rotate_left
          · (intro w hSw; (try dsimp only at hSw); go_simp; try with_reducible rfl)
          simp only [Act.put, List.setIfInBounds_toArray, List.set_cons_zero, List.set_cons_succ]
          refine run_at (i := 16) rfl (by kernel_rfl) (by rfl) (fun K hK => ?_)
          simp only [List.getElem_toArray, List.getElem_cons_zero, List.getElem_cons_succ]
          go_simp
          first | (go_at_call 10; refine Calls.mono (own_advM (Pq.below HPQ6.out (Below.refl _ _).drew) (Nat.zero_lt_succ 1) (by have := hLj 0; omega)) ?_; rintro e w7 ⟨az7, nz7, cz7, D7, V7, rfl, hD7, hz7, hpq7, hb7⟩; have HPQ7 : Hid _ := hpq7; have HB7 : Hid (Below w.heap.size w w7) := (HB6.out.trans (Below.refl _ _).drew).trans hb7; have hS7 := HS.out w7 HPQ7.out; have HZ7 : Hid _ := And.intro hz7 hD7; clear hpq7 hb7 hz7 hD7) | (go_at_call 11; refine Calls.mono (own_radvM HPQ7.out (Nat.zero_lt_succ 1) (HPR.out.wt 0 (Nat.zero_lt_succ 1)).ord (by have := hLj 0; omega)) ?_; rintro e w8 ⟨az8, nz8, cz8, D8, v8, rfl, hD8, hz8, hpq8, hb8, hkz8⟩; rw [hD8.uniq HZ7.out.2] at hz8; have HPQ8 : Hid _ := hpq8; have HB8 : Hid (Below w.heap.size w w8) := HB7.out.trans hb8; have hS8 := HS.out w8 HPQ8.out; have HZ8 : Hid _ := And.intro (hkz8 _ _ HZ7.out.1) hz8; clear hpq8 hb8 hz8 hD8 hkz8) | (go_at_call 13; refine Calls.mono (same_t _ _ (D7.map Tm.id) (D7.map Tm.id) _ (OwnZ.rd HZ8.out.1) (OwnZ.rd HZ8.out.2) (by rw [List.length_map]; have h9 := adv_len HZ7.out.2; have := hLj 0; omega) (by rw [List.length_map]; have h9 := adv_len HZ7.out.2; have := hLj 0; omega)) ?_; rintro e w9 ⟨rfl, hd9⟩; have hdec : decide (D7.map Tm.id = D7.map Tm.id) = true := decide_eq_true rfl; rw [hdec]; have HPQ9 : Hid _ := Pq.below HPQ8.out (hd9.below _); have HB9 : Hid (Below w.heap.size w w9) := below_next HB8.out (hd9.below _); have hS9 := HS.out w9 HPQ9.out; clear hdec hd9) | (go_at_call 15; refine Calls.mono (shows_t (HPQ9.out.wt 0 (Nat.zero_lt_succ 1)) (HPQ9.out.rf 0 (Nat.zero_lt_succ 1)) HPQ9.out.tab) ?_; rintro e wA ⟨rfl, hbA⟩; have HPQA : Hid _ := Pq.below HPQ9.out hbA; have HBA : Hid (Below w.heap.size w wA) := below_next HB9.out hbA; have hSA := HS.out wA HPQA.out; clear hbA)
          go_wp2_with fail
          refine hK.out _ _ (by first | exact hS6 | exact hS7 | exact hS8 | exact hS9 | exact hSA) ?_
          clear hK K
          intro hHeld2
          clear hHeld
          have hHeld := hHeld2
          clear hHeld2
          try simp only [Act.put, List.setIfInBounds_toArray, List.set_cons_zero, List.set_cons_succ]
          refine take_at (i := 17) 142 (v := ?_) rfl rfl (by kernel_rfl) (by kernel_rfl) (by kernel_rfl) (fun _ _ _ h => h) (by rfl) ?_ hHeld ?_
          rotate_left
          · (intro w hSw; (try dsimp only at hSw); go_simp; try with_reducible rfl)
          simp only [Act.put, List.setIfInBounds_toArray, List.set_cons_zero, List.set_cons_succ]
          refine take_at (i := 18) 6 (v := ?_) rfl rfl (by kernel_rfl) (by kernel_rfl) (by kernel_rfl) (fun _ _ _ h => h) (by rfl) ?_ hHeld ?_
          rotate_left
          · (intro w hSw; (try dsimp only at hSw); go_simp; try with_reducible rfl)
          simp only [Act.put, List.setIfInBounds_toArray, List.set_cons_zero, List.set_cons_succ]
          refine wpAnyH_done (by kernel_rfl) ?_ _
          refine NoPanic.normal ?_
          go_wp2
          go_ret
          exact ⟨rfl, HBA.out⟩
end Go.Proofs.YtnfikcegmicooabDoor
