import Derived.Test.YtibolgpaolnheabNDu
namespace Go.Proofs.Ytibolgpaolnheab
set_option linter.unusedVariables false
set_option linter.unusedSimpArgs false
open Go.RowKit Go.Shelf
section
set_option maxRecDepth 20000
set_option maxHeartbeats 6400000
theorem pagesTwo_walk (z : Int) (a : Option Addr) (cap : Nat) (xs : List Stp) (z' : Int) (a' : Option Addr) (cap' : Nat) (xs' : List Stp) (W : World) (hr : RdO W a xs) (hl : xs.length ≤ cap) (hn : a = none → cap = 0) (hc : xs.length ≤ 4398046511103) (hr' : RdO W a' xs') (hl' : xs'.length ≤ cap') (hn' : a' = none → cap' = 0) (hc' : xs'.length ≤ 4398046511103) :
    Calls Try.prog 4 #[.agg #[.int .i64 z, .slice a xs.length cap], .agg #[.int .i64 z', .slice a' xs'.length cap']] W fun e W' => e = .returned (.bool true) ∧ Below W.heap.size W W' := by
  obtain ⟨N, hN⟩ : ∃ N, N = xs.length := ⟨_, rfl⟩
  obtain ⟨N', hN'⟩ : ∃ N', N' = xs'.length := ⟨_, rfl⟩
  rw [← hN] at hl hc ⊢
  rw [← hN'] at hl' hc' ⊢
  have HR : Hid (RdO W a xs) := hr
  have HR' : Hid (RdO W a' xs') := hr'
  have HN : Hid (N = xs.length) := hN
  have HN' : Hid (N' = xs'.length) := hN'
  obtain ⟨G, hG⟩ : ∃ G, G = W.heap.size := ⟨_, rfl⟩
  obtain ⟨w1, hw1⟩ : ∃ X : World, X = (W.alloc (.cells #[.int .i64 z, .slice a N cap] tSc)).alloc (.cells #[.int .i64 z', .slice a' N' cap'] tSc) := ⟨_, rfl⟩
  have HB1 : Hid (Below W.heap.size W w1) := (show Below _ _ _ by rw [hw1]; exact al (al (Below.refl _ _) _) _)
  have HX1 : Hid (w1.heap[G]? = some (.cells #[.int .i64 z, .slice a N cap] tSc (0, 0)) ∧ w1.heap[G + 1]? = some (.cells #[.int .i64 z', .slice a' N' cap'] tSc (0, 0))) := (show _ ∧ _ by rw [hw1, hG]; exact two_new W _ _)
  have HCL : Hid (∀ u, Below w1.heap.size w1 u → u.cell? ⟨G, 0, none⟩ = some (.int .i64 z) ∧ u.cell? ⟨G, 1, none⟩ = some (.slice a N cap) ∧ u.cell? ⟨G + 1, 0, none⟩ = some (.int .i64 z') ∧ u.cell? ⟨G + 1, 1, none⟩ = some (.slice a' N' cap')) := (fun u hu => by
    have h9 := (hu.block G (Array.getElem?_eq_some_iff.1 HX1.out.1).1).trans HX1.out.1
    have h8 := (hu.block (G + 1) (Array.getElem?_eq_some_iff.1 HX1.out.2).1).trans HX1.out.2
    exact ⟨by rw [cell_of_row _ _ _ _ _ _ h9]; rfl, by rw [cell_of_row _ _ _ _ _ _ h9]; rfl, by rw [cell_of_row _ _ _ _ _ _ h8]; rfl, by rw [cell_of_row _ _ _ _ _ _ h8]; rfl⟩)
  obtain ⟨hz1, -, -, -⟩ := HCL.out w1 (Below.refl _ _)
  clear hr hN hr' hN'
  go_enter Try.func4, Try.ntmps4
  go_upto_region 1 with fail
  rw [← hw1]
  simp only [← hG]
  clear hw1 hG
  obtain ⟨B, hB⟩ : ∃ B, B = w1.heap.size := ⟨_, rfl⟩
  have HBB : Hid (B = w1.heap.size) := hB
  go_wp2_with fail
  refine Calls.mono (begin_duo (B := B) z w1 (by rw [hB]; exact Nat.le_refl _)) ?_
  rintro e w2 ⟨x, y, F, rfl, hd, -, hb2⟩
  have HD : Hid (Duo B w2 x y F 0) := hd
  have HB2 : Hid (Below w1.heap.size w1 w2) := hb2
  obtain ⟨-, -, hz2, -⟩ := HCL.out w2 hb2
  clear hd hb2 hz1
  go_wp2_with fail
  refine Calls.mono (begin_duo (B := B) z' w2 (by rw [hB]; exact HB2.out.size)) ?_
  rintro e w3 ⟨x', y', F', rfl, hd', hge', hb3⟩
  have HD' : Hid (Duo B w3 x' y' F' 0) := hd'
  have HDD : Hid (Duo B w3 x y F 0) := HD.out.below hb3
  have HDJ : Hid (∀ b, F b → ¬ F' b) := (fun b h1 h2 => by have h8 := HD.out.lt b h1; have h9 := hge' b h2; omega)
  have HB3 : Hid (Below B w1 w3) := (show Below _ _ _ by rw [hB]; exact below_next HB2.out hb3)
  have HBL : Hid (∀ u, Below B w1 u → Below w1.heap.size w1 u) := (fun u hu => by rw [← hB]; exact hu)
  clear hd' hge' hb3 HD hB hz2
  go_wp2_with fail
  go_loopw [11] (fun i wr => ∃ (k : Nat) (F F' : Nat → Prop), (k ≤ N ∨ k ≤ N') ∧ i = .int .i64 (k : Int) ∧ Duo B wr x y F k ∧ Duo B wr x' y' F' k ∧ (∀ b, F b → ¬ F' b) ∧ Below B w1 wr) (fun i _ => N + N' - (intOf i).toNat)
  case atStart => exact ⟨0, F, F', .inl (Nat.zero_le _), rfl, HDD.out, HD'.out, HDJ.out, HB3.out⟩
  case round =>
    clear HDD HD' HDJ HB3 F F'
    obtain ⟨k, F, F', hk, rfl, hd, hd', hdj, hbel⟩ := hrel
    have HD : Hid (Duo B wr x y F k) := hd
    have HD' : Hid (Duo B wr x' y' F' k) := hd'
    have HDJ : Hid (∀ b, F b → ¬ F' b) := hdj
    have HBEL : Hid (Below B w1 wr) := hbel
    have HSZ : Hid (B ≤ wr.heap.size) := (show _ ≤ _ by rw [HBB.out]; exact hbel.size)
    obtain ⟨-, hcl, -, hcl'⟩ := HCL.out wr (HBL.out _ hbel)
    have hk42 : k ≤ 4398046511104 := by omega
    clear hd hd' hdj hbel hk
    by_cases hlt : k < N ∨ k < N'
    · have HNX : Hid (k + 1 ≤ N ∨ k + 1 ≤ N') := hlt
      by_cases h1 : k < N
      · clear hlt
        have h1i : (k : Int) < (N : Int) := by omega
        by_cases h2 : k < N'
        · focus
            have hkx : k < xs.length := by have := HN.out; omega
            obtain ⟨b, o, rfl, hr⟩ := HR.out k hkx
            obtain ⟨kd, t1, t2, tn, hx⟩ : ∃ kd t1 t2 tn, xs[k] = (kd, ⟨(t1, t2), tn⟩) := ⟨_, _, _, _, rfl⟩
            rw [hx] at hr
            have hlo : ∀ u, Below B w1 u → (Instr.loadAt tOp (.pointer (some ⟨b, o + k * 4, none⟩))).run Try.prog u = .ok (opw kd t1 t2 tn) u := fun u hu => load_op u _ _ (kd, ⟨(t1, t2), tn⟩) (rangeAt_below hr (below_next HB1.out (HBL.out u hu)))
            have hci : ∀ u, Below B w1 u → u.cell? ⟨G, 1, none⟩ = some (.slice (some ⟨b, o, none⟩) N cap) := fun u hu => (HCL.out u (HBL.out u hu)).2.1
            have hki : (k : Int) < (N : Int) := by omega
            have hk0 : (0 : Int) ≤ (k : Int) := by omega
            have hdt : decide ((k : Int) < (N : Int)) = true := decide_eq_true hki
            have hbel := HBEL.out
            clear hr hx
            go_upto_region 8 with fail
            refine wp_region_held_drew (S := (fun u => Below B w1 u)) (by kernel_rfl) (by first | exact hbel.drew | assumption) (fun hHeld => ?_)
            refine take_at (i := 0) 46 (v := ?_) rfl rfl (by kernel_rfl) (by kernel_rfl) (by kernel_rfl) (fun _ _ _ h => h) (by rfl) ?_ hHeld ?_
            rotate_left
            · (intro w hSw; (try dsimp only at hSw); go_simp; try with_reducible rfl)
            simp only [Act.put, List.setIfInBounds_toArray, List.set_cons_zero, List.set_cons_succ]
            refine take_at (i := 1) 47 (v := ?_) rfl rfl (by kernel_rfl) (by kernel_rfl) (by kernel_rfl) (fun _ _ _ h => h) (by rfl) ?_ hHeld ?_
            rotate_left
            · (intro w hSw; (try dsimp only at hSw); go_simp; try with_reducible rfl)
            simp only [Act.put, List.setIfInBounds_toArray, List.set_cons_zero, List.set_cons_succ]
            refine take_at (i := 2) 48 (v := ?_) rfl rfl (by kernel_rfl) (by kernel_rfl) (by kernel_rfl) (fun _ _ _ h => h) (by rfl) ?_ hHeld ?_
            rotate_left
            · (intro w hSw; (try dsimp only at hSw); go_simp; try with_reducible rfl)
            simp only [Act.put, List.setIfInBounds_toArray, List.set_cons_zero, List.set_cons_succ]
            refine take_at (i := 3) 49 (v := ?_) rfl rfl (by kernel_rfl) (by kernel_rfl) (by kernel_rfl) (fun _ _ _ h => h) (by rfl) ?_ hHeld ?_
            rotate_left
            · (intro w hSw; (try dsimp only at hSw); go_simp; try with_reducible rfl)
            simp only [Act.put, List.setIfInBounds_toArray, List.set_cons_zero, List.set_cons_succ]
            refine take_at (i := 4) 50 (v := ?_) rfl rfl (by kernel_rfl) (by kernel_rfl) (by kernel_rfl) (fun _ _ _ h => h) (by rfl) ?_ hHeld ?_
            rotate_left
            · (intro w hSw; (try dsimp only at hSw); go_simp; try with_reducible rfl)
            simp only [Act.put, List.setIfInBounds_toArray, List.set_cons_zero, List.set_cons_succ]
            refine take_at (i := 5) 51 (v := ?_) rfl rfl (by kernel_rfl) (by kernel_rfl) (by kernel_rfl) (fun _ _ _ h => h) (by rfl) ?_ hHeld ?_
            rotate_left
            · (intro w hSw; (try dsimp only at hSw); go_simp; try with_reducible rfl)
            simp only [Act.put, List.setIfInBounds_toArray, List.set_cons_zero, List.set_cons_succ]
            refine take_at (i := 6) 52 (v := ?_) rfl rfl (by kernel_rfl) (by kernel_rfl) (by kernel_rfl) (fun _ _ _ h => h) (by rfl) ?_ hHeld ?_
            rotate_left
            · (intro w hSw; (try dsimp only at hSw); go_simp; try with_reducible rfl)
            simp only [Act.put, List.setIfInBounds_toArray, List.set_cons_zero, List.set_cons_succ]
            refine take_at (i := 7) 53 (v := ?_) rfl rfl (by kernel_rfl) (by kernel_rfl) (by kernel_rfl) (fun _ _ _ h => h) (by rfl) ?_ hHeld ?_
            rotate_left
            · (intro w hSw; (try dsimp only at hSw); go_simp; try with_reducible rfl)
            simp only [Act.put, List.setIfInBounds_toArray, List.set_cons_zero, List.set_cons_succ]
            refine take_at (i := 8) 54 (v := ?_) rfl rfl (by kernel_rfl) (by kernel_rfl) (by kernel_rfl) (fun _ _ _ h => h) (by rfl) ?_ hHeld ?_
            rotate_left
            · (intro w hSw; (try dsimp only at hSw); go_simp; try with_reducible rfl)
            simp only [Act.put, List.setIfInBounds_toArray, List.set_cons_zero, List.set_cons_succ]
            refine take_at (i := 9) 55 (v := ?_) rfl rfl (by kernel_rfl) (by kernel_rfl) (by kernel_rfl) (fun _ _ _ h => h) (by rfl) ?_ hHeld ?_
            rotate_left
            · (intro w hSw; (try dsimp only at hSw); go_simp; try with_reducible rfl)
            simp only [Act.put, List.setIfInBounds_toArray, List.set_cons_zero, List.set_cons_succ]
            refine take_at (i := 10) 56 (v := ?_) rfl rfl (by kernel_rfl) (by kernel_rfl) (by kernel_rfl) (fun _ _ _ h => h) (by rfl) ?_ hHeld ?_
            rotate_left
            · (intro w hSw; (try dsimp only at hSw); go_simp; try with_reducible rfl)
            simp only [Act.put, List.setIfInBounds_toArray, List.set_cons_zero, List.set_cons_succ]
            refine take_at (i := 11) 57 (v := opw kd t1 t2 tn) rfl rfl (by kernel_rfl) (by kernel_rfl) (by kernel_rfl) (fun _ _ _ h => h) (by rfl) ?_ hHeld ?_
            · (intro w hSw; refine exec_load (by rfl) ?_; exact hlo w hSw)
            simp only [Act.put, List.setIfInBounds_toArray, List.set_cons_zero, List.set_cons_succ]
            refine take_at (i := 13) 59 (v := ?_) rfl rfl (by kernel_rfl) (by kernel_rfl) (by kernel_rfl) (fun _ _ _ h => h) (by rfl) ?_ hHeld ?_
            rotate_left
            · (intro w hSw; (try dsimp only at hSw); go_simp; try with_reducible rfl)
            simp only [Act.put, List.setIfInBounds_toArray, List.set_cons_zero, List.set_cons_succ]
            refine take_at (i := 14) 60 (v := ?_) rfl rfl (by kernel_rfl) (by kernel_rfl) (by kernel_rfl) (fun _ _ _ h => h) (by rfl) ?_ hHeld ?_
            rotate_left
            · (intro w hSw; (try dsimp only at hSw); go_simp; try with_reducible rfl)
            simp only [Act.put, List.setIfInBounds_toArray, List.set_cons_zero, List.set_cons_succ]
            refine take_at (i := 15) 61 (v := ?_) rfl rfl (by kernel_rfl) (by kernel_rfl) (by kernel_rfl) (fun _ _ _ h => h) (by rfl) ?_ hHeld ?_
            rotate_left
            · (intro w hSw; (try dsimp only at hSw); go_simp; try with_reducible rfl)
            simp only [Act.put, List.setIfInBounds_toArray, List.set_cons_zero, List.set_cons_succ]
            refine take_at (i := 16) 62 (v := ?_) rfl rfl (by kernel_rfl) (by kernel_rfl) (by kernel_rfl) (fun _ _ _ h => h) (by rfl) ?_ hHeld ?_
            rotate_left
            · (intro w hSw; (try dsimp only at hSw); go_simp; try with_reducible rfl)
            simp only [Act.put, List.setIfInBounds_toArray, List.set_cons_zero, List.set_cons_succ]
            refine take_at (i := 17) 63 (v := ?_) rfl rfl (by kernel_rfl) (by kernel_rfl) (by kernel_rfl) (fun _ _ _ h => h) (by rfl) ?_ hHeld ?_
            rotate_left
            · (intro w hSw; (try dsimp only at hSw); go_simp; try with_reducible rfl)
            simp only [Act.put, List.setIfInBounds_toArray, List.set_cons_zero, List.set_cons_succ]
            refine take_at (i := 18) 64 (v := opw kd t1 t2 tn) rfl rfl (by kernel_rfl) (by kernel_rfl) (by kernel_rfl) (fun _ _ _ h => h) (by rfl) ?_ hHeld ?_
            · (intro w hSw; refine exec_load (by rfl) ?_; exact hlo w hSw)
            simp only [Act.put, List.setIfInBounds_toArray, List.set_cons_zero, List.set_cons_succ]
            refine run_at (i := 12) rfl (by kernel_rfl) (by rfl) (fun K hK => ?_)
            simp only [List.getElem_toArray, List.getElem_cons_zero, List.getElem_cons_succ]
            go_simp
            first | (go_at_call 10; refine Calls.mono (ask_duo (HD.out.below (Below.refl _ _).drew) hk42 HSZ.out kd t1 t2 tn) ?_; rintro e v1 ⟨a1, M1, c1, rfl, hb1, hdoc⟩; have hbv1 : Below B w1 v1 := hbel.drew.trans hb1; have HDOC : Hid _ := hdoc; clear hdoc hb1) | (go_at_call 11; refine Calls.mono HDOC.out ?_; rintro e v2 ⟨a2, M2, c2, rfl, hb2, hsame, F2, hd2, hF2, hch2⟩; have hbv2 : Below B w1 v2 := hbel.drew.trans hb2; have HSA : Hid _ := hsame; have HD2 : Hid (Duo B v2 x y F2 (k + 1)) := hd2; have HF2 : Hid _ := hF2; have HCH2 : Hid _ := hch2; clear hsame hd2 hF2 hch2 hb2) | (go_at_call 12; refine Calls.mono HSA.out ?_; rintro e u3 ⟨rfl, hb3⟩; have hbv3 : Below B w1 u3 := hbv2.trans (hb3.mono (by have := hbv2.size; have := HBB.out; omega)); have HV3 : Hid (Below v2.heap.size v2 u3) := hb3; clear hb3)
            go_wp2_with fail
            refine hK.out _ _ (by first | exact hbel.drew | assumption) ?_
            clear hK K
            intro hHeld2
            clear hHeld
            have hHeld := hHeld2
            clear hHeld2
            try simp only [Act.put, List.setIfInBounds_toArray, List.set_cons_zero, List.set_cons_succ]
            refine run_at (i := 19) rfl (by kernel_rfl) (by rfl) (fun K hK => ?_)
            simp only [List.getElem_toArray, List.getElem_cons_zero, List.getElem_cons_succ]
            go_simp
            first | (go_at_call 10; refine Calls.mono (ask_duo (HD.out.below (Below.refl _ _).drew) hk42 HSZ.out kd t1 t2 tn) ?_; rintro e v1 ⟨a1, M1, c1, rfl, hb1, hdoc⟩; have hbv1 : Below B w1 v1 := hbel.drew.trans hb1; have HDOC : Hid _ := hdoc; clear hdoc hb1) | (go_at_call 11; refine Calls.mono HDOC.out ?_; rintro e v2 ⟨a2, M2, c2, rfl, hb2, hsame, F2, hd2, hF2, hch2⟩; have hbv2 : Below B w1 v2 := hbel.drew.trans hb2; have HSA : Hid _ := hsame; have HD2 : Hid (Duo B v2 x y F2 (k + 1)) := hd2; have HF2 : Hid _ := hF2; have HCH2 : Hid _ := hch2; clear hsame hd2 hF2 hch2 hb2) | (go_at_call 12; refine Calls.mono HSA.out ?_; rintro e u3 ⟨rfl, hb3⟩; have hbv3 : Below B w1 u3 := hbv2.trans (hb3.mono (by have := hbv2.size; have := HBB.out; omega)); have HV3 : Hid (Below v2.heap.size v2 u3) := hb3; clear hb3)
            go_wp2_with fail
            refine hK.out _ _ (by first | exact hbel.drew | assumption) ?_
            clear hK K
            intro hHeld2
            clear hHeld
            have hHeld := hHeld2
            clear hHeld2
            try simp only [Act.put, List.setIfInBounds_toArray, List.set_cons_zero, List.set_cons_succ]
            refine run_at (i := 20) rfl (by kernel_rfl) (by rfl) (fun K hK => ?_)
            simp only [List.getElem_toArray, List.getElem_cons_zero, List.getElem_cons_succ]
            go_simp
            first | (go_at_call 10; refine Calls.mono (ask_duo (HD.out.below (Below.refl _ _).drew) hk42 HSZ.out kd t1 t2 tn) ?_; rintro e v1 ⟨a1, M1, c1, rfl, hb1, hdoc⟩; have hbv1 : Below B w1 v1 := hbel.drew.trans hb1; have HDOC : Hid _ := hdoc; clear hdoc hb1) | (go_at_call 11; refine Calls.mono HDOC.out ?_; rintro e v2 ⟨a2, M2, c2, rfl, hb2, hsame, F2, hd2, hF2, hch2⟩; have hbv2 : Below B w1 v2 := hbel.drew.trans hb2; have HSA : Hid _ := hsame; have HD2 : Hid (Duo B v2 x y F2 (k + 1)) := hd2; have HF2 : Hid _ := hF2; have HCH2 : Hid _ := hch2; clear hsame hd2 hF2 hch2 hb2) | (go_at_call 12; refine Calls.mono HSA.out ?_; rintro e u3 ⟨rfl, hb3⟩; have hbv3 : Below B w1 u3 := hbv2.trans (hb3.mono (by have := hbv2.size; have := HBB.out; omega)); have HV3 : Hid (Below v2.heap.size v2 u3) := hb3; clear hb3)
            go_wp2_with fail
            refine hK.out _ _ (by first | exact hbel.drew | assumption) ?_
            clear hK K
            intro hHeld2
            clear hHeld
            have hHeld := hHeld2
            clear hHeld2
            try simp only [Act.put, List.setIfInBounds_toArray, List.set_cons_zero, List.set_cons_succ]
            refine take_at (i := 21) 67 (v := ?_) rfl rfl (by kernel_rfl) (by kernel_rfl) (by kernel_rfl) (fun _ _ _ h => h) (by rfl) ?_ hHeld ?_
            rotate_left
            · (intro w hSw; (try dsimp only at hSw); go_simp; try with_reducible rfl)
            simp only [Act.put, List.setIfInBounds_toArray, List.set_cons_zero, List.set_cons_succ]
            refine take_at (i := 22) 68 (v := ?_) rfl rfl (by kernel_rfl) (by kernel_rfl) (by kernel_rfl) (fun _ _ _ h => h) (by rfl) ?_ hHeld ?_
            rotate_left
            · (intro w hSw; (try dsimp only at hSw); go_simp; try with_reducible rfl)
            simp only [Act.put, List.setIfInBounds_toArray, List.set_cons_zero, List.set_cons_succ]
            refine wpAnyH_done (by kernel_rfl) ?_ _
            obtain ⟨F3, hF3⟩ : ∃ F3, F3 = F2 := ⟨_, rfl⟩
            have HE : Hid (Duo B u3 x y F3 (k + 1)) := (by rw [hF3]; exact HD2.out.below HV3.out)
            have HE' : Hid (Duo B u3 x' y' F' k) := ((HD'.out.below (Below.refl _ _).drew).kept HCH2.out (fun b h2 h1 => HDJ.out b h1 h2) (HD.out.below (Below.refl _ _).drew).noF).below HV3.out
            have HEJ : Hid (∀ b, F3 b → ¬ F' b) := (fun b h1 h2 => by
              rw [hF3] at h1
              rcases HF2.out b h1 with h9 | h9
              · exact HDJ.out b h9 h2
              · have h8 := HD'.out.lt b h2
                have h7 : wr.heap.size ≤ b := h9
                omega)
            have HBE3 : Hid (Below B w1 u3) := hbv3
            have HSZ3 : Hid (B ≤ u3.heap.size) := (show _ ≤ _ by rw [HBB.out]; exact hbv3.size)
            clear hbv1 hbv2 hbv3 hbel hlo hci HDOC HSA HD2 HF2 HCH2 HV3 hdt hF3
            have hkx : k < xs'.length := by have := HN'.out; omega
            obtain ⟨b, o, rfl, hr⟩ := HR'.out k hkx
            obtain ⟨kd, t1, t2, tn, hx⟩ : ∃ kd t1 t2 tn, xs'[k] = (kd, ⟨(t1, t2), tn⟩) := ⟨_, _, _, _, rfl⟩
            rw [hx] at hr
            have hlo : ∀ u, Below B w1 u → (Instr.loadAt tOp (.pointer (some ⟨b, o + k * 4, none⟩))).run Try.prog u = .ok (opw kd t1 t2 tn) u := fun u hu => load_op u _ _ (kd, ⟨(t1, t2), tn⟩) (rangeAt_below hr (below_next HB1.out (HBL.out u hu)))
            have hci : ∀ u, Below B w1 u → u.cell? ⟨G + 1, 1, none⟩ = some (.slice (some ⟨b, o, none⟩) N' cap') := fun u hu => (HCL.out u (HBL.out u hu)).2.2.2
            have hki : (k : Int) < (N' : Int) := by omega
            have hk0 : (0 : Int) ≤ (k : Int) := by omega
            have hdt : decide ((k : Int) < (N' : Int)) = true := decide_eq_true hki
            have hbel := HBE3.out
            clear hr hx
            go_upto_region 10 with fail
            refine wp_region_held_drew (S := (fun u => Below B w1 u)) (by kernel_rfl) (by first | exact hbel.drew | assumption) (fun hHeld => ?_)
            refine take_at (i := 0) 69 (v := ?_) rfl rfl (by kernel_rfl) (by kernel_rfl) (by kernel_rfl) (fun _ _ _ h => h) (by rfl) ?_ hHeld ?_
            rotate_left
            · (intro w hSw; (try dsimp only at hSw); go_simp; try with_reducible rfl)
            simp only [Act.put, List.setIfInBounds_toArray, List.set_cons_zero, List.set_cons_succ]
            refine take_at (i := 1) 70 (v := ?_) rfl rfl (by kernel_rfl) (by kernel_rfl) (by kernel_rfl) (fun _ _ _ h => h) (by rfl) ?_ hHeld ?_
            rotate_left
            · (intro w hSw; (try dsimp only at hSw); go_simp; try with_reducible rfl)
            simp only [Act.put, List.setIfInBounds_toArray, List.set_cons_zero, List.set_cons_succ]
            refine take_at (i := 2) 71 (v := ?_) rfl rfl (by kernel_rfl) (by kernel_rfl) (by kernel_rfl) (fun _ _ _ h => h) (by rfl) ?_ hHeld ?_
            rotate_left
            · (intro w hSw; (try dsimp only at hSw); go_simp; try with_reducible rfl)
            simp only [Act.put, List.setIfInBounds_toArray, List.set_cons_zero, List.set_cons_succ]
            refine take_at (i := 3) 72 (v := ?_) rfl rfl (by kernel_rfl) (by kernel_rfl) (by kernel_rfl) (fun _ _ _ h => h) (by rfl) ?_ hHeld ?_
            rotate_left
            · (intro w hSw; (try dsimp only at hSw); go_simp; try with_reducible rfl)
            simp only [Act.put, List.setIfInBounds_toArray, List.set_cons_zero, List.set_cons_succ]
            refine take_at (i := 4) 73 (v := ?_) rfl rfl (by kernel_rfl) (by kernel_rfl) (by kernel_rfl) (fun _ _ _ h => h) (by rfl) ?_ hHeld ?_
            rotate_left
            · (intro w hSw; (try dsimp only at hSw); go_simp; try with_reducible rfl)
            simp only [Act.put, List.setIfInBounds_toArray, List.set_cons_zero, List.set_cons_succ]
            refine take_at (i := 5) 74 (v := ?_) rfl rfl (by kernel_rfl) (by kernel_rfl) (by kernel_rfl) (fun _ _ _ h => h) (by rfl) ?_ hHeld ?_
            rotate_left
            · (intro w hSw; (try dsimp only at hSw); go_simp; try with_reducible rfl)
            simp only [Act.put, List.setIfInBounds_toArray, List.set_cons_zero, List.set_cons_succ]
            refine take_at (i := 6) 75 (v := ?_) rfl rfl (by kernel_rfl) (by kernel_rfl) (by kernel_rfl) (fun _ _ _ h => h) (by rfl) ?_ hHeld ?_
            rotate_left
            · (intro w hSw; (try dsimp only at hSw); go_simp; try with_reducible rfl)
            simp only [Act.put, List.setIfInBounds_toArray, List.set_cons_zero, List.set_cons_succ]
            refine take_at (i := 7) 76 (v := ?_) rfl rfl (by kernel_rfl) (by kernel_rfl) (by kernel_rfl) (fun _ _ _ h => h) (by rfl) ?_ hHeld ?_
            rotate_left
            · (intro w hSw; (try dsimp only at hSw); go_simp; try with_reducible rfl)
            simp only [Act.put, List.setIfInBounds_toArray, List.set_cons_zero, List.set_cons_succ]
            refine take_at (i := 8) 77 (v := ?_) rfl rfl (by kernel_rfl) (by kernel_rfl) (by kernel_rfl) (fun _ _ _ h => h) (by rfl) ?_ hHeld ?_
            rotate_left
            · (intro w hSw; (try dsimp only at hSw); go_simp; try with_reducible rfl)
            simp only [Act.put, List.setIfInBounds_toArray, List.set_cons_zero, List.set_cons_succ]
            refine take_at (i := 9) 78 (v := ?_) rfl rfl (by kernel_rfl) (by kernel_rfl) (by kernel_rfl) (fun _ _ _ h => h) (by rfl) ?_ hHeld ?_
            rotate_left
            · (intro w hSw; (try dsimp only at hSw); go_simp; try with_reducible rfl)
            simp only [Act.put, List.setIfInBounds_toArray, List.set_cons_zero, List.set_cons_succ]
            refine take_at (i := 10) 79 (v := ?_) rfl rfl (by kernel_rfl) (by kernel_rfl) (by kernel_rfl) (fun _ _ _ h => h) (by rfl) ?_ hHeld ?_
            rotate_left
            · (intro w hSw; (try dsimp only at hSw); go_simp; try with_reducible rfl)
            simp only [Act.put, List.setIfInBounds_toArray, List.set_cons_zero, List.set_cons_succ]
            refine take_at (i := 11) 80 (v := opw kd t1 t2 tn) rfl rfl (by kernel_rfl) (by kernel_rfl) (by kernel_rfl) (fun _ _ _ h => h) (by rfl) ?_ hHeld ?_
            · (intro w hSw; refine exec_load (by rfl) ?_; exact hlo w hSw)
            simp only [Act.put, List.setIfInBounds_toArray, List.set_cons_zero, List.set_cons_succ]
            refine take_at (i := 13) 82 (v := ?_) rfl rfl (by kernel_rfl) (by kernel_rfl) (by kernel_rfl) (fun _ _ _ h => h) (by rfl) ?_ hHeld ?_
            rotate_left
            · (intro w hSw; (try dsimp only at hSw); go_simp; try with_reducible rfl)
            simp only [Act.put, List.setIfInBounds_toArray, List.set_cons_zero, List.set_cons_succ]
            refine take_at (i := 14) 83 (v := ?_) rfl rfl (by kernel_rfl) (by kernel_rfl) (by kernel_rfl) (fun _ _ _ h => h) (by rfl) ?_ hHeld ?_
            rotate_left
            · (intro w hSw; (try dsimp only at hSw); go_simp; try with_reducible rfl)
            simp only [Act.put, List.setIfInBounds_toArray, List.set_cons_zero, List.set_cons_succ]
            refine take_at (i := 15) 84 (v := ?_) rfl rfl (by kernel_rfl) (by kernel_rfl) (by kernel_rfl) (fun _ _ _ h => h) (by rfl) ?_ hHeld ?_
            rotate_left
            · (intro w hSw; (try dsimp only at hSw); go_simp; try with_reducible rfl)
            simp only [Act.put, List.setIfInBounds_toArray, List.set_cons_zero, List.set_cons_succ]
            refine take_at (i := 16) 85 (v := ?_) rfl rfl (by kernel_rfl) (by kernel_rfl) (by kernel_rfl) (fun _ _ _ h => h) (by rfl) ?_ hHeld ?_
            rotate_left
            · (intro w hSw; (try dsimp only at hSw); go_simp; try with_reducible rfl)
            simp only [Act.put, List.setIfInBounds_toArray, List.set_cons_zero, List.set_cons_succ]
            refine take_at (i := 17) 86 (v := ?_) rfl rfl (by kernel_rfl) (by kernel_rfl) (by kernel_rfl) (fun _ _ _ h => h) (by rfl) ?_ hHeld ?_
            rotate_left
            · (intro w hSw; (try dsimp only at hSw); go_simp; try with_reducible rfl)
            simp only [Act.put, List.setIfInBounds_toArray, List.set_cons_zero, List.set_cons_succ]
            refine take_at (i := 18) 87 (v := opw kd t1 t2 tn) rfl rfl (by kernel_rfl) (by kernel_rfl) (by kernel_rfl) (fun _ _ _ h => h) (by rfl) ?_ hHeld ?_
            · (intro w hSw; refine exec_load (by rfl) ?_; exact hlo w hSw)
            simp only [Act.put, List.setIfInBounds_toArray, List.set_cons_zero, List.set_cons_succ]
            refine run_at (i := 12) rfl (by kernel_rfl) (by rfl) (fun K hK => ?_)
            simp only [List.getElem_toArray, List.getElem_cons_zero, List.getElem_cons_succ]
            go_simp
            first | (go_at_call 10; refine Calls.mono (ask_duo (HE'.out.below (Below.refl _ _).drew) hk42 HSZ3.out kd t1 t2 tn) ?_; rintro e v1 ⟨a1, M1, c1, rfl, hb1, hdoc⟩; have hbv1 : Below B w1 v1 := hbel.drew.trans hb1; have HDOC : Hid _ := hdoc; clear hdoc hb1) | (go_at_call 11; refine Calls.mono HDOC.out ?_; rintro e v2 ⟨a2, M2, c2, rfl, hb2, hsame, F2, hd2, hF2, hch2⟩; have hbv2 : Below B w1 v2 := hbel.drew.trans hb2; have HSA : Hid _ := hsame; have HD2 : Hid (Duo B v2 x' y' F2 (k + 1)) := hd2; have HF2 : Hid _ := hF2; have HCH2 : Hid _ := hch2; clear hsame hd2 hF2 hch2 hb2) | (go_at_call 12; refine Calls.mono HSA.out ?_; rintro e u6 ⟨rfl, hb3⟩; have hbv3 : Below B w1 u6 := hbv2.trans (hb3.mono (by have := hbv2.size; have := HBB.out; omega)); have HV3 : Hid (Below v2.heap.size v2 u6) := hb3; clear hb3)
            go_wp2_with fail
            refine hK.out _ _ (by first | exact hbel.drew | assumption) ?_
            clear hK K
            intro hHeld2
            clear hHeld
            have hHeld := hHeld2
            clear hHeld2
            try simp only [Act.put, List.setIfInBounds_toArray, List.set_cons_zero, List.set_cons_succ]
            refine run_at (i := 19) rfl (by kernel_rfl) (by rfl) (fun K hK => ?_)
            simp only [List.getElem_toArray, List.getElem_cons_zero, List.getElem_cons_succ]
            go_simp
            first | (go_at_call 10; refine Calls.mono (ask_duo (HE'.out.below (Below.refl _ _).drew) hk42 HSZ3.out kd t1 t2 tn) ?_; rintro e v1 ⟨a1, M1, c1, rfl, hb1, hdoc⟩; have hbv1 : Below B w1 v1 := hbel.drew.trans hb1; have HDOC : Hid _ := hdoc; clear hdoc hb1) | (go_at_call 11; refine Calls.mono HDOC.out ?_; rintro e v2 ⟨a2, M2, c2, rfl, hb2, hsame, F2, hd2, hF2, hch2⟩; have hbv2 : Below B w1 v2 := hbel.drew.trans hb2; have HSA : Hid _ := hsame; have HD2 : Hid (Duo B v2 x' y' F2 (k + 1)) := hd2; have HF2 : Hid _ := hF2; have HCH2 : Hid _ := hch2; clear hsame hd2 hF2 hch2 hb2) | (go_at_call 12; refine Calls.mono HSA.out ?_; rintro e u6 ⟨rfl, hb3⟩; have hbv3 : Below B w1 u6 := hbv2.trans (hb3.mono (by have := hbv2.size; have := HBB.out; omega)); have HV3 : Hid (Below v2.heap.size v2 u6) := hb3; clear hb3)
            go_wp2_with fail
            refine hK.out _ _ (by first | exact hbel.drew | assumption) ?_
            clear hK K
            intro hHeld2
            clear hHeld
            have hHeld := hHeld2
            clear hHeld2
            try simp only [Act.put, List.setIfInBounds_toArray, List.set_cons_zero, List.set_cons_succ]
            refine run_at (i := 20) rfl (by kernel_rfl) (by rfl) (fun K hK => ?_)
            simp only [List.getElem_toArray, List.getElem_cons_zero, List.getElem_cons_succ]
            go_simp
            first | (go_at_call 10; refine Calls.mono (ask_duo (HE'.out.below (Below.refl _ _).drew) hk42 HSZ3.out kd t1 t2 tn) ?_; rintro e v1 ⟨a1, M1, c1, rfl, hb1, hdoc⟩; have hbv1 : Below B w1 v1 := hbel.drew.trans hb1; have HDOC : Hid _ := hdoc; clear hdoc hb1) | (go_at_call 11; refine Calls.mono HDOC.out ?_; rintro e v2 ⟨a2, M2, c2, rfl, hb2, hsame, F2, hd2, hF2, hch2⟩; have hbv2 : Below B w1 v2 := hbel.drew.trans hb2; have HSA : Hid _ := hsame; have HD2 : Hid (Duo B v2 x' y' F2 (k + 1)) := hd2; have HF2 : Hid _ := hF2; have HCH2 : Hid _ := hch2; clear hsame hd2 hF2 hch2 hb2) | (go_at_call 12; refine Calls.mono HSA.out ?_; rintro e u6 ⟨rfl, hb3⟩; have hbv3 : Below B w1 u6 := hbv2.trans (hb3.mono (by have := hbv2.size; have := HBB.out; omega)); have HV3 : Hid (Below v2.heap.size v2 u6) := hb3; clear hb3)
            go_wp2_with fail
            refine hK.out _ _ (by first | exact hbel.drew | assumption) ?_
            clear hK K
            intro hHeld2
            clear hHeld
            have hHeld := hHeld2
            clear hHeld2
            try simp only [Act.put, List.setIfInBounds_toArray, List.set_cons_zero, List.set_cons_succ]
            refine take_at (i := 21) 90 (v := ?_) rfl rfl (by kernel_rfl) (by kernel_rfl) (by kernel_rfl) (fun _ _ _ h => h) (by rfl) ?_ hHeld ?_
            rotate_left
            · (intro w hSw; (try dsimp only at hSw); go_simp; try with_reducible rfl)
            simp only [Act.put, List.setIfInBounds_toArray, List.set_cons_zero, List.set_cons_succ]
            refine take_at (i := 22) 91 (v := ?_) rfl rfl (by kernel_rfl) (by kernel_rfl) (by kernel_rfl) (fun _ _ _ h => h) (by rfl) ?_ hHeld ?_
            rotate_left
            · (intro w hSw; (try dsimp only at hSw); go_simp; try with_reducible rfl)
            simp only [Act.put, List.setIfInBounds_toArray, List.set_cons_zero, List.set_cons_succ]
            refine wpAnyH_done (by kernel_rfl) ?_ _
            have HK : Hid (Duo B u6 x' y' F2 (k + 1)) := HD2.out.below HV3.out
            have HKE : Hid (Duo B u6 x y F3 (k + 1)) := ((HE.out.below (Below.refl _ _).drew).kept HCH2.out (fun b h1 h2 => HEJ.out b h1 h2) (HE'.out.below (Below.refl _ _).drew).noF).below HV3.out
            have HKJ : Hid (∀ b, F3 b → ¬ F2 b) := (fun b h1 h2 => by
              rcases HF2.out b h2 with h9 | h9
              · exact HEJ.out b h1 h9
              · have h8 := HE.out.lt b h1
                have h7 : u3.heap.size ≤ b := h9
                omega)
            have HBE6 : Hid (Below B w1 u6) := hbv3
            clear hbv1 hbv2 hbv3 hbel hlo hci HDOC HSA HD2 HF2 HCH2 HV3 hdt
            go_wp2
            go_roundw
            case rel => exact ⟨k + 1, F3, F2, HNX.out, by go_num, HKE.out, HK.out, HKJ.out, HBE6.out⟩
            case measure => simp [intOf]; have := HNX.out; omega
        · focus
            have hkx : k < xs.length := by have := HN.out; omega
            obtain ⟨b, o, rfl, hr⟩ := HR.out k hkx
            obtain ⟨kd, t1, t2, tn, hx⟩ : ∃ kd t1 t2 tn, xs[k] = (kd, ⟨(t1, t2), tn⟩) := ⟨_, _, _, _, rfl⟩
            rw [hx] at hr
            have hlo : ∀ u, Below B w1 u → (Instr.loadAt tOp (.pointer (some ⟨b, o + k * 4, none⟩))).run Try.prog u = .ok (opw kd t1 t2 tn) u := fun u hu => load_op u _ _ (kd, ⟨(t1, t2), tn⟩) (rangeAt_below hr (below_next HB1.out (HBL.out u hu)))
            have hci : ∀ u, Below B w1 u → u.cell? ⟨G, 1, none⟩ = some (.slice (some ⟨b, o, none⟩) N cap) := fun u hu => (HCL.out u (HBL.out u hu)).2.1
            have hki : (k : Int) < (N : Int) := by omega
            have hk0 : (0 : Int) ≤ (k : Int) := by omega
            have hdt : decide ((k : Int) < (N : Int)) = true := decide_eq_true hki
            have hbel := HBEL.out
            clear hr hx
            go_upto_region 8 with fail
            refine wp_region_held_drew (S := (fun u => Below B w1 u)) (by kernel_rfl) (by first | exact hbel.drew | assumption) (fun hHeld => ?_)
            refine take_at (i := 0) 46 (v := ?_) rfl rfl (by kernel_rfl) (by kernel_rfl) (by kernel_rfl) (fun _ _ _ h => h) (by rfl) ?_ hHeld ?_
            rotate_left
            · (intro w hSw; (try dsimp only at hSw); go_simp; try with_reducible rfl)
            simp only [Act.put, List.setIfInBounds_toArray, List.set_cons_zero, List.set_cons_succ]
            refine take_at (i := 1) 47 (v := ?_) rfl rfl (by kernel_rfl) (by kernel_rfl) (by kernel_rfl) (fun _ _ _ h => h) (by rfl) ?_ hHeld ?_
            rotate_left
            · (intro w hSw; (try dsimp only at hSw); go_simp; try with_reducible rfl)
            simp only [Act.put, List.setIfInBounds_toArray, List.set_cons_zero, List.set_cons_succ]
            refine take_at (i := 2) 48 (v := ?_) rfl rfl (by kernel_rfl) (by kernel_rfl) (by kernel_rfl) (fun _ _ _ h => h) (by rfl) ?_ hHeld ?_
            rotate_left
            · (intro w hSw; (try dsimp only at hSw); go_simp; try with_reducible rfl)
            simp only [Act.put, List.setIfInBounds_toArray, List.set_cons_zero, List.set_cons_succ]
            refine take_at (i := 3) 49 (v := ?_) rfl rfl (by kernel_rfl) (by kernel_rfl) (by kernel_rfl) (fun _ _ _ h => h) (by rfl) ?_ hHeld ?_
            rotate_left
            · (intro w hSw; (try dsimp only at hSw); go_simp; try with_reducible rfl)
            simp only [Act.put, List.setIfInBounds_toArray, List.set_cons_zero, List.set_cons_succ]
            refine take_at (i := 4) 50 (v := ?_) rfl rfl (by kernel_rfl) (by kernel_rfl) (by kernel_rfl) (fun _ _ _ h => h) (by rfl) ?_ hHeld ?_
            rotate_left
            · (intro w hSw; (try dsimp only at hSw); go_simp; try with_reducible rfl)
            simp only [Act.put, List.setIfInBounds_toArray, List.set_cons_zero, List.set_cons_succ]
            refine take_at (i := 5) 51 (v := ?_) rfl rfl (by kernel_rfl) (by kernel_rfl) (by kernel_rfl) (fun _ _ _ h => h) (by rfl) ?_ hHeld ?_
            rotate_left
            · (intro w hSw; (try dsimp only at hSw); go_simp; try with_reducible rfl)
            simp only [Act.put, List.setIfInBounds_toArray, List.set_cons_zero, List.set_cons_succ]
            refine take_at (i := 6) 52 (v := ?_) rfl rfl (by kernel_rfl) (by kernel_rfl) (by kernel_rfl) (fun _ _ _ h => h) (by rfl) ?_ hHeld ?_
            rotate_left
            · (intro w hSw; (try dsimp only at hSw); go_simp; try with_reducible rfl)
            simp only [Act.put, List.setIfInBounds_toArray, List.set_cons_zero, List.set_cons_succ]
            refine take_at (i := 7) 53 (v := ?_) rfl rfl (by kernel_rfl) (by kernel_rfl) (by kernel_rfl) (fun _ _ _ h => h) (by rfl) ?_ hHeld ?_
            rotate_left
            · (intro w hSw; (try dsimp only at hSw); go_simp; try with_reducible rfl)
            simp only [Act.put, List.setIfInBounds_toArray, List.set_cons_zero, List.set_cons_succ]
            refine take_at (i := 8) 54 (v := ?_) rfl rfl (by kernel_rfl) (by kernel_rfl) (by kernel_rfl) (fun _ _ _ h => h) (by rfl) ?_ hHeld ?_
            rotate_left
            · (intro w hSw; (try dsimp only at hSw); go_simp; try with_reducible rfl)
            simp only [Act.put, List.setIfInBounds_toArray, List.set_cons_zero, List.set_cons_succ]
            refine take_at (i := 9) 55 (v := ?_) rfl rfl (by kernel_rfl) (by kernel_rfl) (by kernel_rfl) (fun _ _ _ h => h) (by rfl) ?_ hHeld ?_
            rotate_left
            · (intro w hSw; (try dsimp only at hSw); go_simp; try with_reducible rfl)
            simp only [Act.put, List.setIfInBounds_toArray, List.set_cons_zero, List.set_cons_succ]
            refine take_at (i := 10) 56 (v := ?_) rfl rfl (by kernel_rfl) (by kernel_rfl) (by kernel_rfl) (fun _ _ _ h => h) (by rfl) ?_ hHeld ?_
            rotate_left
            · (intro w hSw; (try dsimp only at hSw); go_simp; try with_reducible rfl)
            simp only [Act.put, List.setIfInBounds_toArray, List.set_cons_zero, List.set_cons_succ]
            refine take_at (i := 11) 57 (v := opw kd t1 t2 tn) rfl rfl (by kernel_rfl) (by kernel_rfl) (by kernel_rfl) (fun _ _ _ h => h) (by rfl) ?_ hHeld ?_
            · (intro w hSw; refine exec_load (by rfl) ?_; exact hlo w hSw)
            simp only [Act.put, List.setIfInBounds_toArray, List.set_cons_zero, List.set_cons_succ]
            refine take_at (i := 13) 59 (v := ?_) rfl rfl (by kernel_rfl) (by kernel_rfl) (by kernel_rfl) (fun _ _ _ h => h) (by rfl) ?_ hHeld ?_
            rotate_left
            · (intro w hSw; (try dsimp only at hSw); go_simp; try with_reducible rfl)
            simp only [Act.put, List.setIfInBounds_toArray, List.set_cons_zero, List.set_cons_succ]
            refine take_at (i := 14) 60 (v := ?_) rfl rfl (by kernel_rfl) (by kernel_rfl) (by kernel_rfl) (fun _ _ _ h => h) (by rfl) ?_ hHeld ?_
            rotate_left
            · (intro w hSw; (try dsimp only at hSw); go_simp; try with_reducible rfl)
            simp only [Act.put, List.setIfInBounds_toArray, List.set_cons_zero, List.set_cons_succ]
            refine take_at (i := 15) 61 (v := ?_) rfl rfl (by kernel_rfl) (by kernel_rfl) (by kernel_rfl) (fun _ _ _ h => h) (by rfl) ?_ hHeld ?_
            rotate_left
            · (intro w hSw; (try dsimp only at hSw); go_simp; try with_reducible rfl)
            simp only [Act.put, List.setIfInBounds_toArray, List.set_cons_zero, List.set_cons_succ]
            refine take_at (i := 16) 62 (v := ?_) rfl rfl (by kernel_rfl) (by kernel_rfl) (by kernel_rfl) (fun _ _ _ h => h) (by rfl) ?_ hHeld ?_
            rotate_left
            · (intro w hSw; (try dsimp only at hSw); go_simp; try with_reducible rfl)
            simp only [Act.put, List.setIfInBounds_toArray, List.set_cons_zero, List.set_cons_succ]
            refine take_at (i := 17) 63 (v := ?_) rfl rfl (by kernel_rfl) (by kernel_rfl) (by kernel_rfl) (fun _ _ _ h => h) (by rfl) ?_ hHeld ?_
            rotate_left
            · (intro w hSw; (try dsimp only at hSw); go_simp; try with_reducible rfl)
            simp only [Act.put, List.setIfInBounds_toArray, List.set_cons_zero, List.set_cons_succ]
            refine take_at (i := 18) 64 (v := opw kd t1 t2 tn) rfl rfl (by kernel_rfl) (by kernel_rfl) (by kernel_rfl) (fun _ _ _ h => h) (by rfl) ?_ hHeld ?_
            · (intro w hSw; refine exec_load (by rfl) ?_; exact hlo w hSw)
            simp only [Act.put, List.setIfInBounds_toArray, List.set_cons_zero, List.set_cons_succ]
            refine run_at (i := 12) rfl (by kernel_rfl) (by rfl) (fun K hK => ?_)
            simp only [List.getElem_toArray, List.getElem_cons_zero, List.getElem_cons_succ]
            go_simp
            first | (go_at_call 10; refine Calls.mono (ask_duo (HD.out.below (Below.refl _ _).drew) hk42 HSZ.out kd t1 t2 tn) ?_; rintro e v1 ⟨a1, M1, c1, rfl, hb1, hdoc⟩; have hbv1 : Below B w1 v1 := hbel.drew.trans hb1; have HDOC : Hid _ := hdoc; clear hdoc hb1) | (go_at_call 11; refine Calls.mono HDOC.out ?_; rintro e v2 ⟨a2, M2, c2, rfl, hb2, hsame, F2, hd2, hF2, hch2⟩; have hbv2 : Below B w1 v2 := hbel.drew.trans hb2; have HSA : Hid _ := hsame; have HD2 : Hid (Duo B v2 x y F2 (k + 1)) := hd2; have HF2 : Hid _ := hF2; have HCH2 : Hid _ := hch2; clear hsame hd2 hF2 hch2 hb2) | (go_at_call 12; refine Calls.mono HSA.out ?_; rintro e u3 ⟨rfl, hb3⟩; have hbv3 : Below B w1 u3 := hbv2.trans (hb3.mono (by have := hbv2.size; have := HBB.out; omega)); have HV3 : Hid (Below v2.heap.size v2 u3) := hb3; clear hb3)
            go_wp2_with fail
            refine hK.out _ _ (by first | exact hbel.drew | assumption) ?_
            clear hK K
            intro hHeld2
            clear hHeld
            have hHeld := hHeld2
            clear hHeld2
            try simp only [Act.put, List.setIfInBounds_toArray, List.set_cons_zero, List.set_cons_succ]
            refine run_at (i := 19) rfl (by kernel_rfl) (by rfl) (fun K hK => ?_)
            simp only [List.getElem_toArray, List.getElem_cons_zero, List.getElem_cons_succ]
            go_simp
            first | (go_at_call 10; refine Calls.mono (ask_duo (HD.out.below (Below.refl _ _).drew) hk42 HSZ.out kd t1 t2 tn) ?_; rintro e v1 ⟨a1, M1, c1, rfl, hb1, hdoc⟩; have hbv1 : Below B w1 v1 := hbel.drew.trans hb1; have HDOC : Hid _ := hdoc; clear hdoc hb1) | (go_at_call 11; refine Calls.mono HDOC.out ?_; rintro e v2 ⟨a2, M2, c2, rfl, hb2, hsame, F2, hd2, hF2, hch2⟩; have hbv2 : Below B w1 v2 := hbel.drew.trans hb2; have HSA : Hid _ := hsame; have HD2 : Hid (Duo B v2 x y F2 (k + 1)) := hd2; have HF2 : Hid _ := hF2; have HCH2 : Hid _ := hch2; clear hsame hd2 hF2 hch2 hb2) | (go_at_call 12; refine Calls.mono HSA.out ?_; rintro e u3 ⟨rfl, hb3⟩; have hbv3 : Below B w1 u3 := hbv2.trans (hb3.mono (by have := hbv2.size; have := HBB.out; omega)); have HV3 : Hid (Below v2.heap.size v2 u3) := hb3; clear hb3)
            go_wp2_with fail
            refine hK.out _ _ (by first | exact hbel.drew | assumption) ?_
            clear hK K
            intro hHeld2
            clear hHeld
            have hHeld := hHeld2
            clear hHeld2
            try simp only [Act.put, List.setIfInBounds_toArray, List.set_cons_zero, List.set_cons_succ]
            refine run_at (i := 20) rfl (by kernel_rfl) (by rfl) (fun K hK => ?_)
            simp only [List.getElem_toArray, List.getElem_cons_zero, List.getElem_cons_succ]
            go_simp
            first | (go_at_call 10; refine Calls.mono (ask_duo (HD.out.below (Below.refl _ _).drew) hk42 HSZ.out kd t1 t2 tn) ?_; rintro e v1 ⟨a1, M1, c1, rfl, hb1, hdoc⟩; have hbv1 : Below B w1 v1 := hbel.drew.trans hb1; have HDOC : Hid _ := hdoc; clear hdoc hb1) | (go_at_call 11; refine Calls.mono HDOC.out ?_; rintro e v2 ⟨a2, M2, c2, rfl, hb2, hsame, F2, hd2, hF2, hch2⟩; have hbv2 : Below B w1 v2 := hbel.drew.trans hb2; have HSA : Hid _ := hsame; have HD2 : Hid (Duo B v2 x y F2 (k + 1)) := hd2; have HF2 : Hid _ := hF2; have HCH2 : Hid _ := hch2; clear hsame hd2 hF2 hch2 hb2) | (go_at_call 12; refine Calls.mono HSA.out ?_; rintro e u3 ⟨rfl, hb3⟩; have hbv3 : Below B w1 u3 := hbv2.trans (hb3.mono (by have := hbv2.size; have := HBB.out; omega)); have HV3 : Hid (Below v2.heap.size v2 u3) := hb3; clear hb3)
            go_wp2_with fail
            refine hK.out _ _ (by first | exact hbel.drew | assumption) ?_
            clear hK K
            intro hHeld2
            clear hHeld
            have hHeld := hHeld2
            clear hHeld2
            try simp only [Act.put, List.setIfInBounds_toArray, List.set_cons_zero, List.set_cons_succ]
            refine take_at (i := 21) 67 (v := ?_) rfl rfl (by kernel_rfl) (by kernel_rfl) (by kernel_rfl) (fun _ _ _ h => h) (by rfl) ?_ hHeld ?_
            rotate_left
            · (intro w hSw; (try dsimp only at hSw); go_simp; try with_reducible rfl)
            simp only [Act.put, List.setIfInBounds_toArray, List.set_cons_zero, List.set_cons_succ]
            refine take_at (i := 22) 68 (v := ?_) rfl rfl (by kernel_rfl) (by kernel_rfl) (by kernel_rfl) (fun _ _ _ h => h) (by rfl) ?_ hHeld ?_
            rotate_left
            · (intro w hSw; (try dsimp only at hSw); go_simp; try with_reducible rfl)
            simp only [Act.put, List.setIfInBounds_toArray, List.set_cons_zero, List.set_cons_succ]
            refine wpAnyH_done (by kernel_rfl) ?_ _
            obtain ⟨F3, hF3⟩ : ∃ F3, F3 = F2 := ⟨_, rfl⟩
            have HE : Hid (Duo B u3 x y F3 (k + 1)) := (by rw [hF3]; exact HD2.out.below HV3.out)
            have HE' : Hid (Duo B u3 x' y' F' k) := ((HD'.out.below (Below.refl _ _).drew).kept HCH2.out (fun b h2 h1 => HDJ.out b h1 h2) (HD.out.below (Below.refl _ _).drew).noF).below HV3.out
            have HEJ : Hid (∀ b, F3 b → ¬ F' b) := (fun b h1 h2 => by
              rw [hF3] at h1
              rcases HF2.out b h1 with h9 | h9
              · exact HDJ.out b h9 h2
              · have h8 := HD'.out.lt b h2
                have h7 : wr.heap.size ≤ b := h9
                omega)
            have HBE3 : Hid (Below B w1 u3) := hbv3
            have HSZ3 : Hid (B ≤ u3.heap.size) := (show _ ≤ _ by rw [HBB.out]; exact hbv3.size)
            clear hbv1 hbv2 hbv3 hbel hlo hci HDOC HSA HD2 HF2 HCH2 HV3 hdt hF3
            have hdt : decide ((k : Int) < (N' : Int)) = false := decide_eq_false (by omega)
            have hci : ∀ u, Below B w1 u → u.cell? ⟨G + 1, 1, none⟩ = some (.slice a' N' cap') := fun u hu => (HCL.out u (HBL.out u hu)).2.2.2
            have hbel := HBE3.out
            go_upto_region 10 with fail
            refine wp_region_held_drew (S := (fun u => Below B w1 u)) (by kernel_rfl) (by first | exact hbel.drew | assumption) (fun hHeld => ?_)
            refine take_at (i := 0) 69 (v := ?_) rfl rfl (by kernel_rfl) (by kernel_rfl) (by kernel_rfl) (fun _ _ _ h => h) (by rfl) ?_ hHeld ?_
            rotate_left
            · (intro w hSw; (try dsimp only at hSw); go_simp; try with_reducible rfl)
            simp only [Act.put, List.setIfInBounds_toArray, List.set_cons_zero, List.set_cons_succ]
            refine take_at (i := 1) 70 (v := ?_) rfl rfl (by kernel_rfl) (by kernel_rfl) (by kernel_rfl) (fun _ _ _ h => h) (by rfl) ?_ hHeld ?_
            rotate_left
            · (intro w hSw; (try dsimp only at hSw); go_simp; try with_reducible rfl)
            simp only [Act.put, List.setIfInBounds_toArray, List.set_cons_zero, List.set_cons_succ]
            refine take_at (i := 2) 71 (v := ?_) rfl rfl (by kernel_rfl) (by kernel_rfl) (by kernel_rfl) (fun _ _ _ h => h) (by rfl) ?_ hHeld ?_
            rotate_left
            · (intro w hSw; (try dsimp only at hSw); go_simp; try with_reducible rfl)
            simp only [Act.put, List.setIfInBounds_toArray, List.set_cons_zero, List.set_cons_succ]
            refine take_at (i := 3) 72 (v := ?_) rfl rfl (by kernel_rfl) (by kernel_rfl) (by kernel_rfl) (fun _ _ _ h => h) (by rfl) ?_ hHeld ?_
            rotate_left
            · (intro w hSw; (try dsimp only at hSw); go_simp; try with_reducible rfl)
            simp only [Act.put, List.setIfInBounds_toArray, List.set_cons_zero, List.set_cons_succ]
            refine take_at (i := 4) 73 (v := ?_) rfl rfl (by kernel_rfl) (by kernel_rfl) (by kernel_rfl) (fun _ _ _ h => h) (by rfl) ?_ hHeld ?_
            rotate_left
            · (intro w hSw; (try dsimp only at hSw); go_simp; try with_reducible rfl)
            simp only [Act.put, List.setIfInBounds_toArray, List.set_cons_zero, List.set_cons_succ]
            refine take_at (i := 5) 74 (v := ?_) rfl rfl (by kernel_rfl) (by kernel_rfl) (by kernel_rfl) (fun _ _ _ h => h) (by rfl) ?_ hHeld ?_
            rotate_left
            · (intro w hSw; (try dsimp only at hSw); go_simp; try with_reducible rfl)
            simp only [Act.put, List.setIfInBounds_toArray, List.set_cons_zero, List.set_cons_succ]
            refine skip_at (i := 6) 75 rfl rfl (by kernel_rfl) (by kernel_rfl) (by kernel_rfl) (fun _ _ _ h => h) (by rfl) hHeld ?_
            simp only [Act.put, List.setIfInBounds_toArray, List.set_cons_zero, List.set_cons_succ]
            refine skip_at (i := 7) 76 rfl rfl (by kernel_rfl) (by kernel_rfl) (by kernel_rfl) (fun _ _ _ h => h) (by rfl) hHeld ?_
            simp only [Act.put, List.setIfInBounds_toArray, List.set_cons_zero, List.set_cons_succ]
            refine skip_at (i := 8) 77 rfl rfl (by kernel_rfl) (by kernel_rfl) (by kernel_rfl) (fun _ _ _ h => h) (by rfl) hHeld ?_
            simp only [Act.put, List.setIfInBounds_toArray, List.set_cons_zero, List.set_cons_succ]
            refine skip_at (i := 9) 78 rfl rfl (by kernel_rfl) (by kernel_rfl) (by kernel_rfl) (fun _ _ _ h => h) (by rfl) hHeld ?_
            simp only [Act.put, List.setIfInBounds_toArray, List.set_cons_zero, List.set_cons_succ]
            refine skip_at (i := 10) 79 rfl rfl (by kernel_rfl) (by kernel_rfl) (by kernel_rfl) (fun _ _ _ h => h) (by rfl) hHeld ?_
            simp only [Act.put, List.setIfInBounds_toArray, List.set_cons_zero, List.set_cons_succ]
            refine skip_at (i := 11) 80 rfl rfl (by kernel_rfl) (by kernel_rfl) (by kernel_rfl) (fun _ _ _ h => h) (by rfl) hHeld ?_
            simp only [Act.put, List.setIfInBounds_toArray, List.set_cons_zero, List.set_cons_succ]
            refine skip_at (i := 12) 81 rfl rfl (by kernel_rfl) (by kernel_rfl) (by kernel_rfl) (fun _ _ _ h => h) (by rfl) hHeld ?_
            simp only [Act.put, List.setIfInBounds_toArray, List.set_cons_zero, List.set_cons_succ]
            refine skip_at (i := 13) 82 rfl rfl (by kernel_rfl) (by kernel_rfl) (by kernel_rfl) (fun _ _ _ h => h) (by rfl) hHeld ?_
            simp only [Act.put, List.setIfInBounds_toArray, List.set_cons_zero, List.set_cons_succ]
            refine skip_at (i := 14) 83 rfl rfl (by kernel_rfl) (by kernel_rfl) (by kernel_rfl) (fun _ _ _ h => h) (by rfl) hHeld ?_
            simp only [Act.put, List.setIfInBounds_toArray, List.set_cons_zero, List.set_cons_succ]
            refine skip_at (i := 15) 84 rfl rfl (by kernel_rfl) (by kernel_rfl) (by kernel_rfl) (fun _ _ _ h => h) (by rfl) hHeld ?_
            simp only [Act.put, List.setIfInBounds_toArray, List.set_cons_zero, List.set_cons_succ]
            refine skip_at (i := 16) 85 rfl rfl (by kernel_rfl) (by kernel_rfl) (by kernel_rfl) (fun _ _ _ h => h) (by rfl) hHeld ?_
            simp only [Act.put, List.setIfInBounds_toArray, List.set_cons_zero, List.set_cons_succ]
            refine skip_at (i := 17) 86 rfl rfl (by kernel_rfl) (by kernel_rfl) (by kernel_rfl) (fun _ _ _ h => h) (by rfl) hHeld ?_
            simp only [Act.put, List.setIfInBounds_toArray, List.set_cons_zero, List.set_cons_succ]
            refine skip_at (i := 18) 87 rfl rfl (by kernel_rfl) (by kernel_rfl) (by kernel_rfl) (fun _ _ _ h => h) (by rfl) hHeld ?_
            simp only [Act.put, List.setIfInBounds_toArray, List.set_cons_zero, List.set_cons_succ]
            refine skip_at (i := 19) 88 rfl rfl (by kernel_rfl) (by kernel_rfl) (by kernel_rfl) (fun _ _ _ h => h) (by rfl) hHeld ?_
            simp only [Act.put, List.setIfInBounds_toArray, List.set_cons_zero, List.set_cons_succ]
            refine skip_at (i := 20) 89 rfl rfl (by kernel_rfl) (by kernel_rfl) (by kernel_rfl) (fun _ _ _ h => h) (by rfl) hHeld ?_
            simp only [Act.put, List.setIfInBounds_toArray, List.set_cons_zero, List.set_cons_succ]
            refine skip_at (i := 21) 90 rfl rfl (by kernel_rfl) (by kernel_rfl) (by kernel_rfl) (fun _ _ _ h => h) (by rfl) hHeld ?_
            simp only [Act.put, List.setIfInBounds_toArray, List.set_cons_zero, List.set_cons_succ]
            refine take_at (i := 22) 91 (v := ?_) rfl rfl (by kernel_rfl) (by kernel_rfl) (by kernel_rfl) (fun _ _ _ h => h) (by rfl) ?_ hHeld ?_
            rotate_left
            · (intro w hSw; (try dsimp only at hSw); go_simp; try with_reducible rfl)
            simp only [Act.put, List.setIfInBounds_toArray, List.set_cons_zero, List.set_cons_succ]
            refine wpAnyH_done (by kernel_rfl) ?_ _
            obtain ⟨u6, hu6⟩ : ∃ X : World, X = u3.drew := ⟨_, rfl⟩
            rw [← hu6]
            have HK : Hid (Duo B u6 x' y' F' (k + 1)) := (by rw [hu6]; exact (HE'.out.below (Below.refl _ _).drew).mono (Nat.le_succ _))
            have HKE : Hid (Duo B u6 x y F3 (k + 1)) := (by rw [hu6]; exact HE.out.below (Below.refl _ _).drew)
            have HBE6 : Hid (Below B w1 u6) := (by rw [hu6]; exact hbel.drew)
            clear hbel hci hdt hu6
            go_wp2
            go_roundw
            case rel => exact ⟨k + 1, F3, F', HNX.out, by go_num, HKE.out, HK.out, HEJ.out, HBE6.out⟩
            case measure => simp [intOf]; have := HNX.out; omega
      · have h2 : k < N' := by omega
        have h1i : ¬ (k : Int) < (N : Int) := by omega
        have h2i : (k : Int) < (N' : Int) := by omega
        clear hlt
        have hdt : decide ((k : Int) < (N : Int)) = false := decide_eq_false (by omega)
        have hci : ∀ u, Below B w1 u → u.cell? ⟨G, 1, none⟩ = some (.slice a N cap) := fun u hu => (HCL.out u (HBL.out u hu)).2.1
        have hbel := HBEL.out
        go_upto_region 8 with fail
        refine wp_region_held_drew (S := (fun u => Below B w1 u)) (by kernel_rfl) (by first | exact hbel.drew | assumption) (fun hHeld => ?_)
        refine take_at (i := 0) 46 (v := ?_) rfl rfl (by kernel_rfl) (by kernel_rfl) (by kernel_rfl) (fun _ _ _ h => h) (by rfl) ?_ hHeld ?_
        rotate_left
        · (intro w hSw; (try dsimp only at hSw); go_simp; try with_reducible rfl)
        simp only [Act.put, List.setIfInBounds_toArray, List.set_cons_zero, List.set_cons_succ]
        refine take_at (i := 1) 47 (v := ?_) rfl rfl (by kernel_rfl) (by kernel_rfl) (by kernel_rfl) (fun _ _ _ h => h) (by rfl) ?_ hHeld ?_
        rotate_left
        · (intro w hSw; (try dsimp only at hSw); go_simp; try with_reducible rfl)
        simp only [Act.put, List.setIfInBounds_toArray, List.set_cons_zero, List.set_cons_succ]
        refine take_at (i := 2) 48 (v := ?_) rfl rfl (by kernel_rfl) (by kernel_rfl) (by kernel_rfl) (fun _ _ _ h => h) (by rfl) ?_ hHeld ?_
        rotate_left
        · (intro w hSw; (try dsimp only at hSw); go_simp; try with_reducible rfl)
        simp only [Act.put, List.setIfInBounds_toArray, List.set_cons_zero, List.set_cons_succ]
        refine take_at (i := 3) 49 (v := ?_) rfl rfl (by kernel_rfl) (by kernel_rfl) (by kernel_rfl) (fun _ _ _ h => h) (by rfl) ?_ hHeld ?_
        rotate_left
        · (intro w hSw; (try dsimp only at hSw); go_simp; try with_reducible rfl)
        simp only [Act.put, List.setIfInBounds_toArray, List.set_cons_zero, List.set_cons_succ]
        refine take_at (i := 4) 50 (v := ?_) rfl rfl (by kernel_rfl) (by kernel_rfl) (by kernel_rfl) (fun _ _ _ h => h) (by rfl) ?_ hHeld ?_
        rotate_left
        · (intro w hSw; (try dsimp only at hSw); go_simp; try with_reducible rfl)
        simp only [Act.put, List.setIfInBounds_toArray, List.set_cons_zero, List.set_cons_succ]
        refine take_at (i := 5) 51 (v := ?_) rfl rfl (by kernel_rfl) (by kernel_rfl) (by kernel_rfl) (fun _ _ _ h => h) (by rfl) ?_ hHeld ?_
        rotate_left
        · (intro w hSw; (try dsimp only at hSw); go_simp; try with_reducible rfl)
        simp only [Act.put, List.setIfInBounds_toArray, List.set_cons_zero, List.set_cons_succ]
        refine skip_at (i := 6) 52 rfl rfl (by kernel_rfl) (by kernel_rfl) (by kernel_rfl) (fun _ _ _ h => h) (by rfl) hHeld ?_
        simp only [Act.put, List.setIfInBounds_toArray, List.set_cons_zero, List.set_cons_succ]
        refine skip_at (i := 7) 53 rfl rfl (by kernel_rfl) (by kernel_rfl) (by kernel_rfl) (fun _ _ _ h => h) (by rfl) hHeld ?_
        simp only [Act.put, List.setIfInBounds_toArray, List.set_cons_zero, List.set_cons_succ]
        refine skip_at (i := 8) 54 rfl rfl (by kernel_rfl) (by kernel_rfl) (by kernel_rfl) (fun _ _ _ h => h) (by rfl) hHeld ?_
        simp only [Act.put, List.setIfInBounds_toArray, List.set_cons_zero, List.set_cons_succ]
        refine skip_at (i := 9) 55 rfl rfl (by kernel_rfl) (by kernel_rfl) (by kernel_rfl) (fun _ _ _ h => h) (by rfl) hHeld ?_
        simp only [Act.put, List.setIfInBounds_toArray, List.set_cons_zero, List.set_cons_succ]
        refine skip_at (i := 10) 56 rfl rfl (by kernel_rfl) (by kernel_rfl) (by kernel_rfl) (fun _ _ _ h => h) (by rfl) hHeld ?_
        simp only [Act.put, List.setIfInBounds_toArray, List.set_cons_zero, List.set_cons_succ]
        refine skip_at (i := 11) 57 rfl rfl (by kernel_rfl) (by kernel_rfl) (by kernel_rfl) (fun _ _ _ h => h) (by rfl) hHeld ?_
        simp only [Act.put, List.setIfInBounds_toArray, List.set_cons_zero, List.set_cons_succ]
        refine skip_at (i := 12) 58 rfl rfl (by kernel_rfl) (by kernel_rfl) (by kernel_rfl) (fun _ _ _ h => h) (by rfl) hHeld ?_
        simp only [Act.put, List.setIfInBounds_toArray, List.set_cons_zero, List.set_cons_succ]
        refine skip_at (i := 13) 59 rfl rfl (by kernel_rfl) (by kernel_rfl) (by kernel_rfl) (fun _ _ _ h => h) (by rfl) hHeld ?_
        simp only [Act.put, List.setIfInBounds_toArray, List.set_cons_zero, List.set_cons_succ]
        refine skip_at (i := 14) 60 rfl rfl (by kernel_rfl) (by kernel_rfl) (by kernel_rfl) (fun _ _ _ h => h) (by rfl) hHeld ?_
        simp only [Act.put, List.setIfInBounds_toArray, List.set_cons_zero, List.set_cons_succ]
        refine skip_at (i := 15) 61 rfl rfl (by kernel_rfl) (by kernel_rfl) (by kernel_rfl) (fun _ _ _ h => h) (by rfl) hHeld ?_
        simp only [Act.put, List.setIfInBounds_toArray, List.set_cons_zero, List.set_cons_succ]
        refine skip_at (i := 16) 62 rfl rfl (by kernel_rfl) (by kernel_rfl) (by kernel_rfl) (fun _ _ _ h => h) (by rfl) hHeld ?_
        simp only [Act.put, List.setIfInBounds_toArray, List.set_cons_zero, List.set_cons_succ]
        refine skip_at (i := 17) 63 rfl rfl (by kernel_rfl) (by kernel_rfl) (by kernel_rfl) (fun _ _ _ h => h) (by rfl) hHeld ?_
        simp only [Act.put, List.setIfInBounds_toArray, List.set_cons_zero, List.set_cons_succ]
        refine skip_at (i := 18) 64 rfl rfl (by kernel_rfl) (by kernel_rfl) (by kernel_rfl) (fun _ _ _ h => h) (by rfl) hHeld ?_
        simp only [Act.put, List.setIfInBounds_toArray, List.set_cons_zero, List.set_cons_succ]
        refine skip_at (i := 19) 65 rfl rfl (by kernel_rfl) (by kernel_rfl) (by kernel_rfl) (fun _ _ _ h => h) (by rfl) hHeld ?_
        simp only [Act.put, List.setIfInBounds_toArray, List.set_cons_zero, List.set_cons_succ]
        refine skip_at (i := 20) 66 rfl rfl (by kernel_rfl) (by kernel_rfl) (by kernel_rfl) (fun _ _ _ h => h) (by rfl) hHeld ?_
        simp only [Act.put, List.setIfInBounds_toArray, List.set_cons_zero, List.set_cons_succ]
        refine skip_at (i := 21) 67 rfl rfl (by kernel_rfl) (by kernel_rfl) (by kernel_rfl) (fun _ _ _ h => h) (by rfl) hHeld ?_
        simp only [Act.put, List.setIfInBounds_toArray, List.set_cons_zero, List.set_cons_succ]
        refine take_at (i := 22) 68 (v := ?_) rfl rfl (by kernel_rfl) (by kernel_rfl) (by kernel_rfl) (fun _ _ _ h => h) (by rfl) ?_ hHeld ?_
        rotate_left
        · (intro w hSw; (try dsimp only at hSw); go_simp; try with_reducible rfl)
        simp only [Act.put, List.setIfInBounds_toArray, List.set_cons_zero, List.set_cons_succ]
        refine wpAnyH_done (by kernel_rfl) ?_ _
        obtain ⟨u3, hu3⟩ : ∃ X : World, X = wr.drew := ⟨_, rfl⟩
        rw [← hu3]
        obtain ⟨F3, hF3⟩ : ∃ F3, F3 = F := ⟨_, rfl⟩
        have HE : Hid (Duo B u3 x y F3 (k + 1)) := (by rw [hF3, hu3]; exact (HD.out.below (Below.refl _ _).drew).mono (Nat.le_succ _))
        have HE' : Hid (Duo B u3 x' y' F' k) := (by rw [hu3]; exact HD'.out.below (Below.refl _ _).drew)
        have HEJ : Hid (∀ b, F3 b → ¬ F' b) := (by rw [hF3]; exact HDJ.out)
        have HBE3 : Hid (Below B w1 u3) := (by rw [hu3]; exact hbel.drew)
        have HSZ3 : Hid (B ≤ u3.heap.size) := (by rw [hu3]; exact HSZ.out)
        clear hbel hci hdt hF3 hu3
        have hkx : k < xs'.length := by have := HN'.out; omega
        obtain ⟨b, o, rfl, hr⟩ := HR'.out k hkx
        obtain ⟨kd, t1, t2, tn, hx⟩ : ∃ kd t1 t2 tn, xs'[k] = (kd, ⟨(t1, t2), tn⟩) := ⟨_, _, _, _, rfl⟩
        rw [hx] at hr
        have hlo : ∀ u, Below B w1 u → (Instr.loadAt tOp (.pointer (some ⟨b, o + k * 4, none⟩))).run Try.prog u = .ok (opw kd t1 t2 tn) u := fun u hu => load_op u _ _ (kd, ⟨(t1, t2), tn⟩) (rangeAt_below hr (below_next HB1.out (HBL.out u hu)))
        have hci : ∀ u, Below B w1 u → u.cell? ⟨G + 1, 1, none⟩ = some (.slice (some ⟨b, o, none⟩) N' cap') := fun u hu => (HCL.out u (HBL.out u hu)).2.2.2
        have hki : (k : Int) < (N' : Int) := by omega
        have hk0 : (0 : Int) ≤ (k : Int) := by omega
        have hdt : decide ((k : Int) < (N' : Int)) = true := decide_eq_true hki
        have hbel := HBE3.out
        clear hr hx
        go_upto_region 10 with fail
        refine wp_region_held_drew (S := (fun u => Below B w1 u)) (by kernel_rfl) (by first | exact hbel.drew | assumption) (fun hHeld => ?_)
        refine take_at (i := 0) 69 (v := ?_) rfl rfl (by kernel_rfl) (by kernel_rfl) (by kernel_rfl) (fun _ _ _ h => h) (by rfl) ?_ hHeld ?_
        rotate_left
        · (intro w hSw; (try dsimp only at hSw); go_simp; try with_reducible rfl)
        simp only [Act.put, List.setIfInBounds_toArray, List.set_cons_zero, List.set_cons_succ]
        refine take_at (i := 1) 70 (v := ?_) rfl rfl (by kernel_rfl) (by kernel_rfl) (by kernel_rfl) (fun _ _ _ h => h) (by rfl) ?_ hHeld ?_
        rotate_left
        · (intro w hSw; (try dsimp only at hSw); go_simp; try with_reducible rfl)
        simp only [Act.put, List.setIfInBounds_toArray, List.set_cons_zero, List.set_cons_succ]
        refine take_at (i := 2) 71 (v := ?_) rfl rfl (by kernel_rfl) (by kernel_rfl) (by kernel_rfl) (fun _ _ _ h => h) (by rfl) ?_ hHeld ?_
        rotate_left
        · (intro w hSw; (try dsimp only at hSw); go_simp; try with_reducible rfl)
        simp only [Act.put, List.setIfInBounds_toArray, List.set_cons_zero, List.set_cons_succ]
        refine take_at (i := 3) 72 (v := ?_) rfl rfl (by kernel_rfl) (by kernel_rfl) (by kernel_rfl) (fun _ _ _ h => h) (by rfl) ?_ hHeld ?_
        rotate_left
        · (intro w hSw; (try dsimp only at hSw); go_simp; try with_reducible rfl)
        simp only [Act.put, List.setIfInBounds_toArray, List.set_cons_zero, List.set_cons_succ]
        refine take_at (i := 4) 73 (v := ?_) rfl rfl (by kernel_rfl) (by kernel_rfl) (by kernel_rfl) (fun _ _ _ h => h) (by rfl) ?_ hHeld ?_
        rotate_left
        · (intro w hSw; (try dsimp only at hSw); go_simp; try with_reducible rfl)
        simp only [Act.put, List.setIfInBounds_toArray, List.set_cons_zero, List.set_cons_succ]
        refine take_at (i := 5) 74 (v := ?_) rfl rfl (by kernel_rfl) (by kernel_rfl) (by kernel_rfl) (fun _ _ _ h => h) (by rfl) ?_ hHeld ?_
        rotate_left
        · (intro w hSw; (try dsimp only at hSw); go_simp; try with_reducible rfl)
        simp only [Act.put, List.setIfInBounds_toArray, List.set_cons_zero, List.set_cons_succ]
        refine take_at (i := 6) 75 (v := ?_) rfl rfl (by kernel_rfl) (by kernel_rfl) (by kernel_rfl) (fun _ _ _ h => h) (by rfl) ?_ hHeld ?_
        rotate_left
        · (intro w hSw; (try dsimp only at hSw); go_simp; try with_reducible rfl)
        simp only [Act.put, List.setIfInBounds_toArray, List.set_cons_zero, List.set_cons_succ]
        refine take_at (i := 7) 76 (v := ?_) rfl rfl (by kernel_rfl) (by kernel_rfl) (by kernel_rfl) (fun _ _ _ h => h) (by rfl) ?_ hHeld ?_
        rotate_left
        · (intro w hSw; (try dsimp only at hSw); go_simp; try with_reducible rfl)
        simp only [Act.put, List.setIfInBounds_toArray, List.set_cons_zero, List.set_cons_succ]
        refine take_at (i := 8) 77 (v := ?_) rfl rfl (by kernel_rfl) (by kernel_rfl) (by kernel_rfl) (fun _ _ _ h => h) (by rfl) ?_ hHeld ?_
        rotate_left
        · (intro w hSw; (try dsimp only at hSw); go_simp; try with_reducible rfl)
        simp only [Act.put, List.setIfInBounds_toArray, List.set_cons_zero, List.set_cons_succ]
        refine take_at (i := 9) 78 (v := ?_) rfl rfl (by kernel_rfl) (by kernel_rfl) (by kernel_rfl) (fun _ _ _ h => h) (by rfl) ?_ hHeld ?_
        rotate_left
        · (intro w hSw; (try dsimp only at hSw); go_simp; try with_reducible rfl)
        simp only [Act.put, List.setIfInBounds_toArray, List.set_cons_zero, List.set_cons_succ]
        refine take_at (i := 10) 79 (v := ?_) rfl rfl (by kernel_rfl) (by kernel_rfl) (by kernel_rfl) (fun _ _ _ h => h) (by rfl) ?_ hHeld ?_
        rotate_left
        · (intro w hSw; (try dsimp only at hSw); go_simp; try with_reducible rfl)
        simp only [Act.put, List.setIfInBounds_toArray, List.set_cons_zero, List.set_cons_succ]
        refine take_at (i := 11) 80 (v := opw kd t1 t2 tn) rfl rfl (by kernel_rfl) (by kernel_rfl) (by kernel_rfl) (fun _ _ _ h => h) (by rfl) ?_ hHeld ?_
        · (intro w hSw; refine exec_load (by rfl) ?_; exact hlo w hSw)
        simp only [Act.put, List.setIfInBounds_toArray, List.set_cons_zero, List.set_cons_succ]
        refine take_at (i := 13) 82 (v := ?_) rfl rfl (by kernel_rfl) (by kernel_rfl) (by kernel_rfl) (fun _ _ _ h => h) (by rfl) ?_ hHeld ?_
        rotate_left
        · (intro w hSw; (try dsimp only at hSw); go_simp; try with_reducible rfl)
        simp only [Act.put, List.setIfInBounds_toArray, List.set_cons_zero, List.set_cons_succ]
        refine take_at (i := 14) 83 (v := ?_) rfl rfl (by kernel_rfl) (by kernel_rfl) (by kernel_rfl) (fun _ _ _ h => h) (by rfl) ?_ hHeld ?_
        rotate_left
        · (intro w hSw; (try dsimp only at hSw); go_simp; try with_reducible rfl)
        simp only [Act.put, List.setIfInBounds_toArray, List.set_cons_zero, List.set_cons_succ]
        refine take_at (i := 15) 84 (v := ?_) rfl rfl (by kernel_rfl) (by kernel_rfl) (by kernel_rfl) (fun _ _ _ h => h) (by rfl) ?_ hHeld ?_
        rotate_left
        · (intro w hSw; (try dsimp only at hSw); go_simp; try with_reducible rfl)
        simp only [Act.put, List.setIfInBounds_toArray, List.set_cons_zero, List.set_cons_succ]
        refine take_at (i := 16) 85 (v := ?_) rfl rfl (by kernel_rfl) (by kernel_rfl) (by kernel_rfl) (fun _ _ _ h => h) (by rfl) ?_ hHeld ?_
        rotate_left
        · (intro w hSw; (try dsimp only at hSw); go_simp; try with_reducible rfl)
        simp only [Act.put, List.setIfInBounds_toArray, List.set_cons_zero, List.set_cons_succ]
        refine take_at (i := 17) 86 (v := ?_) rfl rfl (by kernel_rfl) (by kernel_rfl) (by kernel_rfl) (fun _ _ _ h => h) (by rfl) ?_ hHeld ?_
        rotate_left
        · (intro w hSw; (try dsimp only at hSw); go_simp; try with_reducible rfl)
        simp only [Act.put, List.setIfInBounds_toArray, List.set_cons_zero, List.set_cons_succ]
        refine take_at (i := 18) 87 (v := opw kd t1 t2 tn) rfl rfl (by kernel_rfl) (by kernel_rfl) (by kernel_rfl) (fun _ _ _ h => h) (by rfl) ?_ hHeld ?_
        · (intro w hSw; refine exec_load (by rfl) ?_; exact hlo w hSw)
        simp only [Act.put, List.setIfInBounds_toArray, List.set_cons_zero, List.set_cons_succ]
        refine run_at (i := 12) rfl (by kernel_rfl) (by rfl) (fun K hK => ?_)
        simp only [List.getElem_toArray, List.getElem_cons_zero, List.getElem_cons_succ]
        go_simp
        first | (go_at_call 10; refine Calls.mono (ask_duo (HE'.out.below (Below.refl _ _).drew) hk42 HSZ3.out kd t1 t2 tn) ?_; rintro e v1 ⟨a1, M1, c1, rfl, hb1, hdoc⟩; have hbv1 : Below B w1 v1 := hbel.drew.trans hb1; have HDOC : Hid _ := hdoc; clear hdoc hb1) | (go_at_call 11; refine Calls.mono HDOC.out ?_; rintro e v2 ⟨a2, M2, c2, rfl, hb2, hsame, F2, hd2, hF2, hch2⟩; have hbv2 : Below B w1 v2 := hbel.drew.trans hb2; have HSA : Hid _ := hsame; have HD2 : Hid (Duo B v2 x' y' F2 (k + 1)) := hd2; have HF2 : Hid _ := hF2; have HCH2 : Hid _ := hch2; clear hsame hd2 hF2 hch2 hb2) | (go_at_call 12; refine Calls.mono HSA.out ?_; rintro e u6 ⟨rfl, hb3⟩; have hbv3 : Below B w1 u6 := hbv2.trans (hb3.mono (by have := hbv2.size; have := HBB.out; omega)); have HV3 : Hid (Below v2.heap.size v2 u6) := hb3; clear hb3)
        go_wp2_with fail
        refine hK.out _ _ (by first | exact hbel.drew | assumption) ?_
        clear hK K
        intro hHeld2
        clear hHeld
        have hHeld := hHeld2
        clear hHeld2
        try simp only [Act.put, List.setIfInBounds_toArray, List.set_cons_zero, List.set_cons_succ]
        refine run_at (i := 19) rfl (by kernel_rfl) (by rfl) (fun K hK => ?_)
        simp only [List.getElem_toArray, List.getElem_cons_zero, List.getElem_cons_succ]
        go_simp
        first | (go_at_call 10; refine Calls.mono (ask_duo (HE'.out.below (Below.refl _ _).drew) hk42 HSZ3.out kd t1 t2 tn) ?_; rintro e v1 ⟨a1, M1, c1, rfl, hb1, hdoc⟩; have hbv1 : Below B w1 v1 := hbel.drew.trans hb1; have HDOC : Hid _ := hdoc; clear hdoc hb1) | (go_at_call 11; refine Calls.mono HDOC.out ?_; rintro e v2 ⟨a2, M2, c2, rfl, hb2, hsame, F2, hd2, hF2, hch2⟩; have hbv2 : Below B w1 v2 := hbel.drew.trans hb2; have HSA : Hid _ := hsame; have HD2 : Hid (Duo B v2 x' y' F2 (k + 1)) := hd2; have HF2 : Hid _ := hF2; have HCH2 : Hid _ := hch2; clear hsame hd2 hF2 hch2 hb2) | (go_at_call 12; refine Calls.mono HSA.out ?_; rintro e u6 ⟨rfl, hb3⟩; have hbv3 : Below B w1 u6 := hbv2.trans (hb3.mono (by have := hbv2.size; have := HBB.out; omega)); have HV3 : Hid (Below v2.heap.size v2 u6) := hb3; clear hb3)
        go_wp2_with fail
        refine hK.out _ _ (by first | exact hbel.drew | assumption) ?_
        clear hK K
        intro hHeld2
        clear hHeld
        have hHeld := hHeld2
        clear hHeld2
        try simp only [Act.put, List.setIfInBounds_toArray, List.set_cons_zero, List.set_cons_succ]
        refine run_at (i := 20) rfl (by kernel_rfl) (by rfl) (fun K hK => ?_)
        simp only [List.getElem_toArray, List.getElem_cons_zero, List.getElem_cons_succ]
        go_simp
        first | (go_at_call 10; refine Calls.mono (ask_duo (HE'.out.below (Below.refl _ _).drew) hk42 HSZ3.out kd t1 t2 tn) ?_; rintro e v1 ⟨a1, M1, c1, rfl, hb1, hdoc⟩; have hbv1 : Below B w1 v1 := hbel.drew.trans hb1; have HDOC : Hid _ := hdoc; clear hdoc hb1) | (go_at_call 11; refine Calls.mono HDOC.out ?_; rintro e v2 ⟨a2, M2, c2, rfl, hb2, hsame, F2, hd2, hF2, hch2⟩; have hbv2 : Below B w1 v2 := hbel.drew.trans hb2; have HSA : Hid _ := hsame; have HD2 : Hid (Duo B v2 x' y' F2 (k + 1)) := hd2; have HF2 : Hid _ := hF2; have HCH2 : Hid _ := hch2; clear hsame hd2 hF2 hch2 hb2) | (go_at_call 12; refine Calls.mono HSA.out ?_; rintro e u6 ⟨rfl, hb3⟩; have hbv3 : Below B w1 u6 := hbv2.trans (hb3.mono (by have := hbv2.size; have := HBB.out; omega)); have HV3 : Hid (Below v2.heap.size v2 u6) := hb3; clear hb3)
        go_wp2_with fail
        refine hK.out _ _ (by first | exact hbel.drew | assumption) ?_
        clear hK K
        intro hHeld2
        clear hHeld
        have hHeld := hHeld2
        clear hHeld2
        try simp only [Act.put, List.setIfInBounds_toArray, List.set_cons_zero, List.set_cons_succ]
        refine take_at (i := 21) 90 (v := ?_) rfl rfl (by kernel_rfl) (by kernel_rfl) (by kernel_rfl) (fun _ _ _ h => h) (by rfl) ?_ hHeld ?_
        rotate_left
        · (intro w hSw; (try dsimp only at hSw); go_simp; try with_reducible rfl)
        simp only [Act.put, List.setIfInBounds_toArray, List.set_cons_zero, List.set_cons_succ]
        refine take_at (i := 22) 91 (v := ?_) rfl rfl (by kernel_rfl) (by kernel_rfl) (by kernel_rfl) (fun _ _ _ h => h) (by rfl) ?_ hHeld ?_
        rotate_left
        · (intro w hSw; (try dsimp only at hSw); go_simp; try with_reducible rfl)
        simp only [Act.put, List.setIfInBounds_toArray, List.set_cons_zero, List.set_cons_succ]
        refine wpAnyH_done (by kernel_rfl) ?_ _
        have HK : Hid (Duo B u6 x' y' F2 (k + 1)) := HD2.out.below HV3.out
        have HKE : Hid (Duo B u6 x y F3 (k + 1)) := ((HE.out.below (Below.refl _ _).drew).kept HCH2.out (fun b h1 h2 => HEJ.out b h1 h2) (HE'.out.below (Below.refl _ _).drew).noF).below HV3.out
        have HKJ : Hid (∀ b, F3 b → ¬ F2 b) := (fun b h1 h2 => by
          rcases HF2.out b h2 with h9 | h9
          · exact HEJ.out b h1 h9
          · have h8 := HE.out.lt b h1
            have h7 : u3.heap.size ≤ b := h9
            omega)
        have HBE6 : Hid (Below B w1 u6) := hbv3
        clear hbv1 hbv2 hbv3 hbel hlo hci HDOC HSA HD2 HF2 HCH2 HV3 hdt
        go_wp2
        go_roundw
        case rel => exact ⟨k + 1, F3, F2, HNX.out, by go_num, HKE.out, HK.out, HKJ.out, HBE6.out⟩
        case measure => simp [intOf]; have := HNX.out; omega
    · have h1 : ¬ (k : Int) < (N : Int) := by omega
      have h2 : ¬ (k : Int) < (N' : Int) := by omega
      go_wp2
      go_ret
      exact ⟨rfl, below_next HB1.out (HBL.out _ HBEL.out)⟩
end
end Go.Proofs.Ytibolgpaolnheab
