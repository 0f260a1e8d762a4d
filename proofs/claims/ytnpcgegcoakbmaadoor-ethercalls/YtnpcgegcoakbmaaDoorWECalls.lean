import Derived.Test.YtnpcgegcoakbmaaDoorLEd
namespace Go.Proofs.YtnpcgegcoakbmaaDoor
set_option linter.unusedVariables false
set_option linter.unusedSimpArgs false
open Go.RowKit
theorem On.fresh {S : Sd} {B g r : Nat} {w : World} (h : Wy S w g r (.slice none 0 0) [] []) (hB : B ≤ g) : On S B X0 w g r [] := ⟨_, _, h, fun b hb => ⟨(by
  rcases hb with hb | hb | ⟨e, he, -⟩
  · omega
  · cases hb
  · cases he), id⟩⟩
theorem size_op : (Tryd.prog.info? tOp).map (·.size) = some 5 := by kernel_rfl
set_option maxRecDepth 20000 in
set_option maxHeartbeats 3200000 in
theorem etherCalls_walk (r : Int) (ao : Option Addr) (len cap : Nat) (xs : List OpD) (w : World) (w0 : (Lit.int .i64 r).wf = true) (hx : len = xs.length) (hr : RdO w ao xs) (hl : len ≤ 4398046511103) (ht : TabZ w) :
    Calls Tryd.prog 6 #[.int .i64 r, .slice ao len cap] w fun e w' => e = .returned (.bool true) ∧ Below w.heap.size w w' := by
  subst hx
  by_cases hin : 1 ≤ r ∧ r ≤ 1024
  · obtain ⟨R, rfl⟩ : ∃ R : Nat, r = (R : Int) := ⟨r.toNat, by omega⟩
    have HN : Hid _ := new_t (w := w) R (by omega) (by omega)
    have HR : Hid _ := hr
    have HT : Hid (∀ u, Below w.heap.size w u → TabZ u) := fun u hu => ht.below hu
    have HM : Hid (∀ u : World, Calls _ _ _ u _) := fun u => rnew_t (w := u) R (by omega) (by omega)
    clear hr ht w0
    go_enter Tryd.func6, Tryd.ntmps6
    go_wp2_with fail
    refine Calls.mono HN.out ?_
    rintro e w1 ⟨rfl, h1, hb1⟩
    have HP1 : Hid (On SP w.heap.size X0 w1 w.heap.size R []) := On.fresh h1 (Nat.le_refl _)
    have HB1 : Hid _ := hb1
    obtain ⟨P, hP⟩ : ∃ P, P = w.heap.size := ⟨_, rfl⟩
    clear h1 hb1 hP
    go_wp2_with fail
    refine Calls.mono (HM.out w1) ?_
    rintro e w2 ⟨rfl, h2, hb2⟩
    have HR2 : Hid (On SR w.heap.size X0 w2 w1.heap.size R []) := On.fresh h2 HB1.out.size
    have HP2 : Hid (On SP w.heap.size X0 w2 w.heap.size R []) := HP1.out.below hb2
    have HB2 : Hid (Below w.heap.size w w2) := below_next HB1.out hb2
    clear h2 hb2
    go_wp2
    go_loopw [9] (fun j wr => ∃ (k : Nat) (L : List Dgm), k ≤ xs.length ∧ j = .int .i64 k ∧ On SP w.heap.size X0 wr w.heap.size R L ∧ On SR w.heap.size X0 wr w1.heap.size R L ∧ Below w.heap.size w wr) (fun j _ => xs.length - (intOf j).toNat)
    case atStart => exact ⟨0, [], Nat.zero_le _, rfl, HP2.out, HR2.out, HB2.out⟩
    case round =>
      obtain ⟨k, L, hk, rfl, hP, hR, hB⟩ := hrel
      have HPr : Hid _ := hP
      have HRr : Hid _ := hR
      have HBr : Hid _ := hB
      clear hP hR hB
      by_cases hlt : k < xs.length
      · obtain ⟨b, o, rfl, hok, hrg⟩ := HR.out k hlt
        obtain ⟨op, hop⟩ : ∃ op, op = xs[k] := ⟨_, rfl⟩
        rw [← hop] at hok hrg
        obtain ⟨kd, oi, oat, om, oa, on, oc, oxs⟩ := op
        have HOK : Hid _ := hok
        have hk0 : (0 : Int) ≤ (k : Int) := by omega
        have hkI : (k : Int) < (xs.length : Int) := by omega
        have HLD : Hid (∀ u, Below w.heap.size w u → (Instr.loadAt tOp (.pointer (some ⟨b, o + k * 5, none⟩))).run Tryd.prog u = .ok (.agg (opv kd oa on oc oi oat om)) u) := fun u hu => run_loadAt_mid u _ _ _ (opl ⟨kd, oi, oat, om, oa, on, oc, oxs⟩) _ (rangeAt_below hrg hu) Tryd.underlying46 rfl size_op
        clear hop hok hrg
        go_wp2
        refine wp_region_noPanic ?_
        refine wp_region_held_drew (S := (fun u => Below w.heap.size w u)) (by kernel_rfl) (by first | exact HBr.out.drew | exact HB3.out) (fun hHeld => ?_)
        refine take_at (i := 0) 39 (v := ?_) rfl rfl (by kernel_rfl) (by kernel_rfl) (by kernel_rfl) (fun _ _ _ h => h) (by rfl) ?_ hHeld ?_
        rotate_left
        · (intro w hSw; (try dsimp only at hSw); go_simp; try with_reducible rfl)
        simp only [Act.put, List.setIfInBounds_toArray, List.set_cons_zero, List.set_cons_succ]
        refine take_at (i := 1) 40 (v := ?_) rfl rfl (by kernel_rfl) (by kernel_rfl) (by kernel_rfl) (fun _ _ _ h => h) (by rfl) ?_ hHeld ?_
        rotate_left
        · (intro w hSw; (try dsimp only at hSw); go_simp; try with_reducible rfl)
        simp only [Act.put, List.setIfInBounds_toArray, List.set_cons_zero, List.set_cons_succ]
        refine take_at (i := 2) 41 (v := ?_) rfl rfl (by kernel_rfl) (by kernel_rfl) (by kernel_rfl) (fun _ _ _ h => h) (by rfl) ?_ hHeld ?_
        rotate_left
        · (intro w hSw; (try dsimp only at hSw); go_simp; try with_reducible rfl)
        simp only [Act.put, List.setIfInBounds_toArray, List.set_cons_zero, List.set_cons_succ]
        refine take_at (i := 3) 42 (v := ?_) rfl rfl (by kernel_rfl) (by kernel_rfl) (by kernel_rfl) (fun _ _ _ h => h) (by rfl) ?_ hHeld ?_
        rotate_left
        · (intro w hSw; (try dsimp only at hSw); go_simp; try with_reducible rfl)
        simp only [Act.put, List.setIfInBounds_toArray, List.set_cons_zero, List.set_cons_succ]
        refine take_at (i := 4) 43 (v := ?_) rfl rfl (by kernel_rfl) (by kernel_rfl) (by kernel_rfl) (fun _ _ _ h => h) (by rfl) ?_ hHeld ?_
        rotate_left
        · (intro w hSw; (try dsimp only at hSw); go_simp; try with_reducible rfl)
        simp only [Act.put, List.setIfInBounds_toArray, List.set_cons_zero, List.set_cons_succ]
        refine take_at (i := 5) 44 (v := .agg (opv kd oa on oc oi oat om)) rfl rfl (by kernel_rfl) (by kernel_rfl) (by kernel_rfl) (fun _ _ _ h => h) (by rfl) ?_ hHeld ?_
        · (intro w hSw; refine exec_load (by rfl) ?_; exact HLD.out w hSw)
        simp only [Act.put, List.setIfInBounds_toArray, List.set_cons_zero, List.set_cons_succ]
        refine run_at (i := 6) rfl (by kernel_rfl) (by rfl) (fun K hK => ?_)
        simp only [List.getElem_toArray, List.getElem_cons_zero, List.getElem_cons_succ]
        go_simp
        first | (go_at_call 23; refine Calls.mono (step_t (HPr.out.below (Below.refl _ _).drew) (HRr.out.below (Below.refl _ _).drew) HBr.out.size kd oi oat om HOK.out.hm HOK.out.ha.1 HOK.out.ha.2 oa on oc oxs HOK.out.hn (fun u hu => Rd.below HOK.out.rd (HBr.out.drew.trans hu)) HOK.out.nil HOK.out.le (fun u hu => HT.out u (HBr.out.drew.trans hu))) ?_; rintro e w3 ⟨rfl, hP3, hR3, hb3⟩; have HB3 : Hid (Below w.heap.size w w3) := HBr.out.drew.trans hb3; obtain ⟨M, hM⟩ : ∃ M, M = nx R L kd oxs oi oat om := ⟨_, rfl⟩; rw [← hM] at hP3 hR3; obtain ⟨a9, c9, d9⟩ := hR3.rcell; have HP3 : Hid _ := hP3; have HR3 : Hid _ := hR3; have hmm : ((M.length : Int) != (M.length : Int)) = false := (by simp); clear hP3 hR3 hb3 hM) | (go_at_call 9; refine Calls.mono (oLen HP3.out) ?_; rintro e w4 ⟨rfl, hq⟩; have hq := hq.symm; subst hq)
        go_wp2_with fail
        refine hK.out _ _ (by first | exact HBr.out.drew | exact HB3.out) ?_
        clear hK K
        intro hHeld2
        clear hHeld
        have hHeld := hHeld2
        clear hHeld2
        try simp only [Act.put, List.setIfInBounds_toArray, List.set_cons_zero, List.set_cons_succ]
        refine take_at (i := 7) 46 (v := ?_) rfl rfl (by kernel_rfl) (by kernel_rfl) (by kernel_rfl) (fun _ _ _ h => h) (by rfl) ?_ hHeld ?_
        rotate_left
        · (intro w hSw; (try dsimp only at hSw); go_simp; try with_reducible rfl)
        simp only [Act.put, List.setIfInBounds_toArray, List.set_cons_zero, List.set_cons_succ]
        refine take_at (i := 8) 47 (v := ?_) rfl rfl (by kernel_rfl) (by kernel_rfl) (by kernel_rfl) (fun _ _ _ h => h) (by rfl) ?_ hHeld ?_
        rotate_left
        · (intro w hSw; (try dsimp only at hSw); go_simp; try with_reducible rfl)
        simp only [Act.put, List.setIfInBounds_toArray, List.set_cons_zero, List.set_cons_succ]
        refine take_at (i := 9) 48 (v := ?_) rfl rfl (by kernel_rfl) (by kernel_rfl) (by kernel_rfl) (fun _ _ _ h => h) (by rfl) ?_ hHeld ?_
        rotate_left
        · (intro w hSw; (try dsimp only at hSw); go_simp; try with_reducible rfl)
        simp only [Act.put, List.setIfInBounds_toArray, List.set_cons_zero, List.set_cons_succ]
        refine take_at (i := 11) 50 (v := ?_) rfl rfl (by kernel_rfl) (by kernel_rfl) (by kernel_rfl) (fun _ _ _ h => h) (by rfl) ?_ hHeld ?_
        rotate_left
        · (intro w hSw; (try dsimp only at hSw); go_simp; try with_reducible rfl)
        simp only [Act.put, List.setIfInBounds_toArray, List.set_cons_zero, List.set_cons_succ]
        refine take_at (i := 12) 51 (v := ?_) rfl rfl (by kernel_rfl) (by kernel_rfl) (by kernel_rfl) (fun _ _ _ h => h) (by rfl) ?_ hHeld ?_
        rotate_left
        · (intro w hSw; (try dsimp only at hSw); go_simp; try with_reducible rfl)
        simp only [Act.put, List.setIfInBounds_toArray, List.set_cons_zero, List.set_cons_succ]
        refine take_at (i := 13) 52 (v := ?_) rfl rfl (by kernel_rfl) (by kernel_rfl) (by kernel_rfl) (fun _ _ _ h => h) (by rfl) ?_ hHeld ?_
        rotate_left
        · (intro w hSw; (try dsimp only at hSw); go_simp; try with_reducible rfl)
        simp only [Act.put, List.setIfInBounds_toArray, List.set_cons_zero, List.set_cons_succ]
        refine wpAnyH_ready (rs := [10, 14]) (by kernel_rfl) (by simp) ?_
        refine AllReadyH.cons (o := _) rfl (fun K hK => ?_) ?_
        focus
          rw [if_pos (by rfl)]
          simp only [List.getElem_toArray, List.getElem_cons_zero, List.getElem_cons_succ]
          go_simp
          first | (go_at_call 23; refine Calls.mono (step_t (HPr.out.below (Below.refl _ _).drew) (HRr.out.below (Below.refl _ _).drew) HBr.out.size kd oi oat om HOK.out.hm HOK.out.ha.1 HOK.out.ha.2 oa on oc oxs HOK.out.hn (fun u hu => Rd.below HOK.out.rd (HBr.out.drew.trans hu)) HOK.out.nil HOK.out.le (fun u hu => HT.out u (HBr.out.drew.trans hu))) ?_; rintro e w3 ⟨rfl, hP3, hR3, hb3⟩; have HB3 : Hid (Below w.heap.size w w3) := HBr.out.drew.trans hb3; obtain ⟨M, hM⟩ : ∃ M, M = nx R L kd oxs oi oat om := ⟨_, rfl⟩; rw [← hM] at hP3 hR3; obtain ⟨a9, c9, d9⟩ := hR3.rcell; have HP3 : Hid _ := hP3; have HR3 : Hid _ := hR3; have hmm : ((M.length : Int) != (M.length : Int)) = false := (by simp); clear hP3 hR3 hb3 hM) | (go_at_call 9; refine Calls.mono (oLen HP3.out) ?_; rintro e w4 ⟨rfl, hq⟩; have hq := hq.symm; subst hq)
          go_wp2_with fail
          refine hK.out _ _ (by first | exact HBr.out.drew | exact HB3.out) ?_
          clear hK K
          intro hHeld2
          clear hHeld
          have hHeld := hHeld2
          clear hHeld2
          try simp only [Act.put, List.setIfInBounds_toArray, List.set_cons_zero, List.set_cons_succ]
          refine val_at (i := 14) 53 (v := .slice a9 M.length c9) rfl rfl (by kernel_rfl) (by rfl) ?_ ?_ ?_
          · (go_simp; try with_reducible rfl)
          · (first | exact HBr.out.drew | exact HB3.out)
          intro hHeld2
          clear hHeld
          have hHeld := hHeld2
          clear hHeld2
          simp only [Act.put, List.setIfInBounds_toArray, List.set_cons_zero, List.set_cons_succ]
          refine take_at (i := 15) 54 (v := ?_) rfl rfl (by kernel_rfl) (by kernel_rfl) (by kernel_rfl) (fun _ _ _ h => h) (by rfl) ?_ hHeld ?_
          rotate_left
          · (intro w hSw; (try dsimp only at hSw); go_simp; try with_reducible rfl)
          simp only [Act.put, List.setIfInBounds_toArray, List.set_cons_zero, List.set_cons_succ]
          refine take_at (i := 16) 55 (v := ?_) rfl rfl (by kernel_rfl) (by kernel_rfl) (by kernel_rfl) (fun _ _ _ h => h) (by rfl) ?_ hHeld ?_
          rotate_left
          · (intro w hSw; (try dsimp only at hSw); go_simp; try with_reducible rfl)
          simp only [Act.put, List.setIfInBounds_toArray, List.set_cons_zero, List.set_cons_succ]
          refine take_at (i := 17) 56 (v := ?_) rfl rfl (by kernel_rfl) (by kernel_rfl) (by kernel_rfl) (fun _ _ _ h => h) (by rfl) ?_ hHeld ?_
          rotate_left
          · (intro w hSw; (try dsimp only at hSw); go_simp; try with_reducible rfl)
          simp only [Act.put, List.setIfInBounds_toArray, List.set_cons_zero, List.set_cons_succ]
          refine wpAnyH_done (by kernel_rfl) ?_ _
          refine NoPanic.normal ?_
        rotate_left 1
        refine AllReadyH.cons (o := _) rfl (fun K hK => ?_) AllReadyH.nil
        focus
          rw [if_pos (by rfl)]
          refine val_wp 53 (v := .slice a9 M.length c9) rfl ?_ ?_
          · (go_simp; try with_reducible rfl)
          refine hK.out _ _ (by first | exact HBr.out.drew | exact HB3.out) ?_
          clear hK K
          intro hHeld2
          clear hHeld
          have hHeld := hHeld2
          clear hHeld2
          simp only [Act.put, List.setIfInBounds_toArray, List.set_cons_zero, List.set_cons_succ]
          refine take_at (i := 15) 54 (v := ?_) rfl rfl (by kernel_rfl) (by kernel_rfl) (by kernel_rfl) (fun _ _ _ h => h) (by rfl) ?_ hHeld ?_
          rotate_left
          · (intro w hSw; (try dsimp only at hSw); go_simp; try with_reducible rfl)
          simp only [Act.put, List.setIfInBounds_toArray, List.set_cons_zero, List.set_cons_succ]
          refine run_at (i := 10) rfl (by kernel_rfl) (by rfl) (fun K hK => ?_)
          simp only [List.getElem_toArray, List.getElem_cons_zero, List.getElem_cons_succ]
          go_simp
          first | (go_at_call 23; refine Calls.mono (step_t (HPr.out.below (Below.refl _ _).drew) (HRr.out.below (Below.refl _ _).drew) HBr.out.size kd oi oat om HOK.out.hm HOK.out.ha.1 HOK.out.ha.2 oa on oc oxs HOK.out.hn (fun u hu => Rd.below HOK.out.rd (HBr.out.drew.trans hu)) HOK.out.nil HOK.out.le (fun u hu => HT.out u (HBr.out.drew.trans hu))) ?_; rintro e w3 ⟨rfl, hP3, hR3, hb3⟩; have HB3 : Hid (Below w.heap.size w w3) := HBr.out.drew.trans hb3; obtain ⟨M, hM⟩ : ∃ M, M = nx R L kd oxs oi oat om := ⟨_, rfl⟩; rw [← hM] at hP3 hR3; obtain ⟨a9, c9, d9⟩ := hR3.rcell; have HP3 : Hid _ := hP3; have HR3 : Hid _ := hR3; have hmm : ((M.length : Int) != (M.length : Int)) = false := (by simp); clear hP3 hR3 hb3 hM) | (go_at_call 9; refine Calls.mono (oLen HP3.out) ?_; rintro e w4 ⟨rfl, hq⟩; have hq := hq.symm; subst hq)
          go_wp2_with fail
          refine hK.out _ _ (by first | exact HBr.out.drew | exact HB3.out) ?_
          clear hK K
          intro hHeld2
          clear hHeld
          have hHeld := hHeld2
          clear hHeld2
          try simp only [Act.put, List.setIfInBounds_toArray, List.set_cons_zero, List.set_cons_succ]
          refine take_at (i := 16) 55 (v := ?_) rfl rfl (by kernel_rfl) (by kernel_rfl) (by kernel_rfl) (fun _ _ _ h => h) (by rfl) ?_ hHeld ?_
          rotate_left
          · (intro w hSw; (try dsimp only at hSw); go_simp; try with_reducible rfl)
          simp only [Act.put, List.setIfInBounds_toArray, List.set_cons_zero, List.set_cons_succ]
          refine take_at (i := 17) 56 (v := ?_) rfl rfl (by kernel_rfl) (by kernel_rfl) (by kernel_rfl) (fun _ _ _ h => h) (by rfl) ?_ hHeld ?_
          rotate_left
          · (intro w hSw; (try dsimp only at hSw); go_simp; try with_reducible rfl)
          simp only [Act.put, List.setIfInBounds_toArray, List.set_cons_zero, List.set_cons_succ]
          refine wpAnyH_done (by kernel_rfl) ?_ _
          refine NoPanic.normal ?_
        all_goals
          go_wp2
          go_roundw
          case rel => exact ⟨k + 1, M, by omega, by go_num, HP3.out, HR3.out, HB3.out⟩
          case measure => simp [intOf]; omega
      · obtain rfl : k = xs.length := by omega
        have hLm : L.length ≤ 1024 := by have := HPr.out.rg; omega
        go_wp2
        go_loopw [10] (fun j wr => ∃ (k : Nat), k ≤ L.length + 2 ∧ j = .int .i64 ((k : Int) - 1) ∧ On SP w.heap.size X0 wr w.heap.size R L ∧ On SR w.heap.size X0 wr w1.heap.size R L ∧ Below w.heap.size w wr) (fun j _ => L.length + 3 - (intOf j + 1).toNat)
        case atStart => exact ⟨0, by omega, rfl, HPr.out, HRr.out, HBr.out⟩
        case round =>
          obtain ⟨k, hk, rfl, hP, hR, hB⟩ := hrel
          obtain ⟨a9, c9, d9⟩ := hR.rcell
          have HPq : Hid _ := hP
          have HRq : Hid _ := hR
          have HBq : Hid _ := hB
          clear hP hR hB HPr HRr HBr
          by_cases hlt : k < L.length + 2
          · have hle : (k : Int) - 1 ≤ (L.length : Int) := by omega
            obtain ⟨z, hz⟩ : ∃ z : Int, z = (k : Int) - 1 := ⟨_, rfl⟩
            rw [← hz] at hle ⊢
            have hz0 : -1 ≤ z := by omega
            have hz1 : z ≤ 1025 := by omega
            have HZ : Hid _ := hz
            clear hz
            go_wp2_with (go_at_call 23; refine Calls.mono (step_2 HPq.out HRq.out HBq.out.size z 0 0 (by omega) (by omega) (by omega) none 0 0 [] rfl (fun u _ => Rd.nil _ _) (fun _ => rfl) (by omega) (fun u hu => HT.out u (HBq.out.trans hu))) ?_; rintro e w3 ⟨rfl, hP3, hR3, hb3⟩; have HP3 : Hid (On SP w.heap.size X0 w3 w.heap.size R L) := hP3; have HR3 : Hid (On SR w.heap.size X0 w3 w1.heap.size R L) := hR3; have HB3 : Hid (Below w.heap.size w w3) := HBq.out.trans hb3; clear hP3 hR3 hb3)
            go_roundw
            case rel => exact ⟨k + 1, by omega, by rw [HZ.out]; congr 1; first | (push_cast; omega) | (unfold wrap64; push_cast; omega), HP3.out, HR3.out, HB3.out⟩
            case measure => have := HZ.out; simp [intOf]; omega
          · obtain rfl : k = L.length + 2 := by omega
            have hgt : ¬ ((L.length + 2 : Nat) : Int) - 1 ≤ (L.length : Int) := by omega
            obtain ⟨z, hz⟩ : ∃ z : Int, z = ((L.length + 2 : Nat) : Int) - 1 := ⟨_, rfl⟩
            rw [← hz] at hgt ⊢
            clear hz
            go_wp2
            go_ret
            exact ⟨rfl, HBq.out⟩
  · have HN : Hid _ := new_no (w := w) r hin
    have HM : Hid _ := rnew_no (w := w) r hin
    clear hr ht w0
    go_enter Tryd.func6, Tryd.ntmps6
    go_wp2_with (first | (go_at_call 14; refine Calls.mono HN.out ?_; rintro e w' ⟨rfl, hq⟩; have hq := hq.symm; subst hq) | (go_at_call 22; refine Calls.mono HM.out ?_; rintro e w' ⟨rfl, hq⟩; have hq := hq.symm; subst hq))
    go_ret
    exact ⟨rfl, Below.refl _ _⟩
end Go.Proofs.YtnpcgegcoakbmaaDoor
