import Derived.Test.YtgdkiejlggiakaaRBoth
namespace Go.Proofs.Ytgdkiejlggiakaa
set_option linter.unusedVariables false
set_option linter.unusedSimpArgs false
open Go.RowKit Go.Maps
theorem start_props {xs : List UInt8} {n : Int} {d : Dst} (h : startS xs n = some d) : d.C = (fun _ => []) ∧ d.off = false := by
  unfold startS at h
  split at h
  · obtain ⟨S, -, rfl⟩ := Option.map_eq_some_iff.1 h
    exact ⟨rfl, rfl⟩
  · split at h
    · cases h; exact ⟨rfl, rfl⟩
    · cases h
theorem dirty_clean (N : Nat) : dirtyL N (fun _ => []) = [] ∧ dirtyC N (fun _ => []) = [] := by
  have h : dirtyN N (fun _ => ([] : List (List UInt8))) = [] := by unfold dirtyN; simp
  unfold dirtyL dirtyC
  rw [h]
  exact ⟨rfl, rfl⟩
set_option maxRecDepth 20000 in
theorem rimage_nil (w : World) : Calls Try.prog 23 #[.pointer none] w fun e w' => e = .returned (.slice none 0 0) ∧ w' = w := by
  have HN : Hid _ := rnone_nil w
  go_enter Try.func23, Try.ntmps23
  go_wp2_with fail
  refine Calls.mono HN.out ?_
  rintro e w1 ⟨rfl, hq⟩
  have hq := hq.symm
  subst hq
  go_wp2
  go_ret
  exact ⟨rfl, rfl⟩
set_option maxRecDepth 20000 in
set_option maxHeartbeats 1600000 in
theorem diskNews_walk (n0 : Int) (a1 : Option Addr) (cap1 : Nat) (xs1 : List UInt8) (W : World) (hn0 : -9223372036854775808 ≤ n0 ∧ n0 ≤ 9223372036854775807) (hr1 : Rd W a1 xs1) (hl1 : xs1.length ≤ cap1) (hnil1 : a1 = none → cap1 = 0) (hc1 : cap1 ≤ 140737488351232) :
    Calls Try.prog 7 #[.int .i64 n0, .slice a1 xs1.length cap1] W fun e w' => e = .returned (.bool true) ∧ Below W.heap.size W w' := by
  have HR : Hid _ := hr1
  have HNL : Hid _ := hnil1
  obtain ⟨L, hL⟩ : ∃ L : Nat, L = xs1.length := ⟨_, rfl⟩
  rw [← hL]
  have HL : Hid (L = xs1.length ∧ xs1.length ≤ cap1 ∧ cap1 ≤ 140737488351232) := ⟨hL, hl1, hc1⟩
  have HBO : Hid (∀ u (ao : Option Addr) (n c : Nat) (xs : List UInt8), n = xs.length → Rd u ao xs → n ≤ c → (ao = none → c = 0) → n ≤ 140737488351232 → Calls Try.prog 19 #[.agg #[.slice ao n c, .int .i64 n0]] u fun e w' => BothOut u e w' (startS xs n0)) := fun u ao n c xs e h1 h2 h3 h4 => by subst e; exact both_t ao c xs n0 u h1 h2 h3 h4
  clear hn0 hr1 hl1 hnil1 hc1 hL
  go_enter Try.func7, Try.ntmps7
  go_wp2_with fail
  go_loopw [5, 6, 7, 8, 9, 10, 11] (fun i _ _ _ _ _ _ wr => ∃ k : Nat, k ≤ 2 ∧ i = .int .i64 (k : Int) ∧ Below W.heap.size W wr) (fun i _ _ _ _ _ _ _ => 2 - (intOf i).toNat)
  case atStart => exact ⟨0, by decide, rfl, Below.refl _ _⟩
  case round =>
    obtain ⟨k, hk, rfl, hbw⟩ := hrel
    have HBW : Hid _ := hbw
    clear hbw
    by_cases k0 : k = 0
    · subst k0
      rw [show ((0 : Nat) : Int) = 0 from rfl]
      go_wp2_with fail
      refine (HBO.out _ none 0 0 [] rfl (Rd.nil _ _) (Nat.le_refl _) (fun _ => rfl) (by decide)).mono ?_
      intro e w2 hout
      cases hst : startS ([] : List UInt8) n0 with
      | none =>
        rw [hst] at hout
        obtain ⟨rfl, hb2⟩ := hout
        have HB2 : Hid (Below W.heap.size W w2) := below_next (below_next HBW.out (al (Below.refl _ _) _)) hb2
        have HDI : Hid _ := dirty_nil w2
        have HSE : Hid _ := sectors_nil w2
        have HRS : Hid _ := rsectors_nil w2
        have HDN : Hid _ := down_nil w2
        have HIM : Hid _ := image_nil w2
        clear hst hb2
        go_wp2_with fail
        refine Calls.mono HDI.out ?_
        rintro e w3 ⟨rfl, hq⟩
        have hq := hq.symm
        subst hq
        go_wp2_with fail
        refine Calls.mono HSE.out ?_
        rintro e w3 ⟨rfl, hq⟩
        have hq := hq.symm
        subst hq
        go_wp2_with fail
        refine Calls.mono HRS.out ?_
        rintro e w3 ⟨rfl, hq⟩
        have hq := hq.symm
        subst hq
        go_wp2_with fail
        refine Calls.mono HDN.out ?_
        rintro e w3 ⟨rfl, hq⟩
        have hq := hq.symm
        subst hq
        go_wp2_with fail
        refine Calls.mono HIM.out ?_
        rintro e w4 ⟨rfl, hb4⟩
        obtain ⟨g4, hg4⟩ : ∃ g4 : Nat, g4 = w2.heap.size := ⟨_, rfl⟩
        rw [← hg4]
        have HRI : Hid _ := rimage_nil w4
        have HB4 : Hid _ := below_next HB2.out hb4
        have HBY : Hid (Calls Try.prog 12 #[.slice (some ⟨g4, 0, none⟩) 0 0, .slice none 0 0] w4 fun e w' => e = .returned (.bool true) ∧ Below w4.heap.size w4 w') := byt_n (some ⟨g4, 0, none⟩) none 0 0 0 0 [] [] w4 rfl rfl (Rd.nil _ _) (Rd.nil _ _) (by decide) (by decide)
        clear hg4 hb4
        go_wp2_with fail
        refine Calls.mono HRI.out ?_
        rintro e w5 ⟨rfl, hq⟩
        have hq := hq.symm
        subst hq
        go_wp2_with fail
        refine HBY.out.mono ?_
        rintro e w6 ⟨rfl, hb6⟩
        go_wp2
        go_roundw
        case rel => exact ⟨1, by decide, rfl, below_next HB4.out hb6⟩
        case measure => simp [intOf]
      | some d =>
        rw [hst] at hout
        obtain ⟨p, rp, rfl, ⟨g, m, DV, gs, N, VT, VV, vs, Fp, hds, hrd, -, -, -⟩, hb2⟩ := hout
        obtain ⟨hdC, hdo⟩ := start_props hst
        have HB2 : Hid (Below W.heap.size W w2) := below_next (below_next HBW.out (al (Below.refl _ _) _)) hb2
        have HDI : Hid (Calls Try.prog 20 #[.pointer (some ⟨p, 0, none⟩)] w2 fun e w' => ∃ a c b c', e = .returned (.tuple #[.slice a 0 c, .slice b 0 c']) ∧ Below w2.heap.size w2 w') := by
          have h9 := dirty_t p g m d.S d.C DV d.off d.fuse 0 w2 hds
          rw [hdC, (dirty_clean _).1, (dirty_clean _).2] at h9
          refine h9.mono ?_
          rintro e w' ⟨v, x, rfl, h10, h11, -, h12⟩
          obtain ⟨a, c, rfl, -⟩ := h10.val
          obtain ⟨b, c', rfl, -⟩ := h11.val
          exact ⟨a, c, b, c', rfl, h12⟩
        have HSE : Hid (∀ u, Below w2.heap.size w2 u → Calls Try.prog 10 #[.pointer (some ⟨p, 0, none⟩)] u fun e w' => e = .returned (.int .i64 (N : Int)) ∧ w' = u) := fun u hu => by
          have h9 := sectors_t p _ _ _ u (by rw [cell_of_row _ _ 0 _ _ _ (DK.hp (DK.below hds hu))]; rfl)
          rw [hrd.len] at h9
          exact h9
        have HRS : Hid (∀ u, Below w2.heap.size w2 u → _) := fun u hu => rsectors_t (RDk.below hrd hu)
        have HDN : Hid (∀ u, Below w2.heap.size w2 u → Calls Try.prog 22 #[.pointer (some ⟨p, 0, none⟩)] u fun e w' => e = .returned (.bool false) ∧ w' = u) := fun u hu => by
          have hdu := DK.below hds hu
          have h9 := down_t p _ _ _ _ u (DK.one hdu) (by rw [cell_of_row _ _ 0 _ _ _ (DK.hp hdu)]; rfl) (by rw [cell_of_row _ _ 2 _ _ _ (DK.hp hdu)]; rfl)
          rw [hdo] at h9
          exact h9
        obtain ⟨IM, hIM⟩ : ∃ I, I = img d.S := ⟨_, rfl⟩
        have HIM : Hid (∀ u, Below w2.heap.size w2 u → Calls Try.prog 13 #[.pointer (some ⟨p, 0, none⟩)] u fun e w' => ∃ g9, e = .returned (.slice (some ⟨g9, 0, none⟩) IM.length IM.length) ∧ Rd w' (some ⟨g9, 0, none⟩) IM ∧ Below u.heap.size u w') := fun u hu => by
          have h9 := image_r p g d.S u (DK.secAt (DK.below hds hu))
          rw [← hIM] at h9
          refine h9.mono ?_
          rintro e w' ⟨rfl, h10, h11⟩
          exact ⟨_, rfl, rd_row h10, h11⟩
        have HRI : Hid (∀ u, Below w2.heap.size w2 u → Calls Try.prog 23 #[.pointer (some ⟨rp, 0, none⟩)] u fun e w' => ∃ a c, e = .returned (.slice a IM.length c) ∧ Rd w' a IM ∧ Below u.heap.size u w') := fun u hu => by
          refine (rimage_t (RDk.below hrd hu)).mono ?_
          rintro e w' ⟨v, rfl, h10, h11⟩
          rw [← hIM] at h10
          obtain ⟨a, c, rfl, -, -, -, h12, -⟩ := h10.val
          exact ⟨a, c, rfl, h12, h11⟩
        have HML : Hid (IM.length ≤ 140737488355328) := by
          unfold Hid
          rw [hIM, img_len (fit_ok hrd.fit), hrd.len]
          have := hrd.most
          omega
        clear hst hdC hdo hds hrd hb2 hIM
        go_wp2_with fail
        refine HDI.out.mono ?_
        rintro e w3 ⟨av, cv, bv', cv', rfl, hb3⟩
        have HB3 : Hid _ := hb3
        clear hb3 HDI
        go_wp2_with fail
        refine (HSE.out w3 HB3.out).mono ?_
        rintro e w4 ⟨rfl, hq⟩
        have hq := hq.symm
        subst hq
        go_wp2_with fail
        refine Calls.mono (HRS.out w3 HB3.out) ?_
        rintro e w4 ⟨rfl, hq⟩
        have hq := hq.symm
        subst hq
        go_wp2_with fail
        refine (HDN.out w3 HB3.out).mono ?_
        rintro e w4 ⟨rfl, hq⟩
        have hq := hq.symm
        subst hq
        go_wp2_with fail
        refine (HIM.out w3 HB3.out).mono ?_
        rintro e w4 ⟨g9, rfl, hr4, hb4⟩
        have HR4 : Hid _ := hr4
        have HB4 : Hid _ := below_next HB3.out hb4
        clear hr4 hb4 HIM
        obtain ⟨nI, hnI⟩ : ∃ n, n = IM.length := ⟨_, rfl⟩
        rw [← hnI] at HRI HML ⊢
        have HNI : Hid _ := hnI
        clear hnI
        go_wp2_with fail
        refine (HRI.out w4 HB4.out).mono ?_
        rintro e w5 ⟨a5, c5, rfl, hr5, hb5⟩
        have HBY : Hid (Calls Try.prog 12 #[.slice (some ⟨g9, 0, none⟩) nI nI, .slice a5 nI c5] w5 fun e w' => e = .returned (.bool true) ∧ Below w5.heap.size w5 w') := by
          have h9 := byt_n (some ⟨g9, 0, none⟩) a5 nI nI nI c5 IM IM w5 HNI.out HNI.out (Rd.below HR4.out hb5) hr5 (by rw [← HNI.out]; exact HML.out) (by rw [← HNI.out]; exact HML.out)
          rw [beq_self_eq_true] at h9
          exact h9
        have HB5 : Hid _ := below_next HB4.out hb5
        clear hr5 hb5 HRI
        go_wp2_with fail
        refine HBY.out.mono ?_
        rintro e w6 ⟨rfl, hb6⟩
        go_wp2
        go_roundw
        case rel => exact ⟨1, by decide, rfl, below_next HB2.out (below_next HB5.out hb6)⟩
        case measure => simp [intOf]
    · by_cases k1 : k = 1
      · subst k1
        rw [show ((1 : Nat) : Int) = 1 from rfl]
        go_wp2_with fail
        refine (HBO.out _ a1 L cap1 xs1 HL.out.1 (Rd.below HR.out (below_next HBW.out (al (Below.refl _ _) _))) (by have := HL.out; omega) HNL.out (by have := HL.out; omega)).mono ?_
        intro e w2 hout
        cases hst : startS xs1 n0 with
        | none =>
          rw [hst] at hout
          obtain ⟨rfl, hb2⟩ := hout
          have HB2 : Hid (Below W.heap.size W w2) := below_next (below_next HBW.out (al (Below.refl _ _) _)) hb2
          have HDI : Hid _ := dirty_nil w2
          have HSE : Hid _ := sectors_nil w2
          have HRS : Hid _ := rsectors_nil w2
          have HDN : Hid _ := down_nil w2
          have HIM : Hid _ := image_nil w2
          clear hst hb2
          go_wp2_with fail
          refine Calls.mono HDI.out ?_
          rintro e w3 ⟨rfl, hq⟩
          have hq := hq.symm
          subst hq
          go_wp2_with fail
          refine Calls.mono HSE.out ?_
          rintro e w3 ⟨rfl, hq⟩
          have hq := hq.symm
          subst hq
          go_wp2_with fail
          refine Calls.mono HRS.out ?_
          rintro e w3 ⟨rfl, hq⟩
          have hq := hq.symm
          subst hq
          go_wp2_with fail
          refine Calls.mono HDN.out ?_
          rintro e w3 ⟨rfl, hq⟩
          have hq := hq.symm
          subst hq
          go_wp2_with fail
          refine Calls.mono HIM.out ?_
          rintro e w4 ⟨rfl, hb4⟩
          obtain ⟨g4, hg4⟩ : ∃ g4 : Nat, g4 = w2.heap.size := ⟨_, rfl⟩
          rw [← hg4]
          have HRI : Hid _ := rimage_nil w4
          have HB4 : Hid _ := below_next HB2.out hb4
          have HBY : Hid (Calls Try.prog 12 #[.slice (some ⟨g4, 0, none⟩) 0 0, .slice none 0 0] w4 fun e w' => e = .returned (.bool true) ∧ Below w4.heap.size w4 w') := byt_n (some ⟨g4, 0, none⟩) none 0 0 0 0 [] [] w4 rfl rfl (Rd.nil _ _) (Rd.nil _ _) (by decide) (by decide)
          clear hg4 hb4
          go_wp2_with fail
          refine Calls.mono HRI.out ?_
          rintro e w5 ⟨rfl, hq⟩
          have hq := hq.symm
          subst hq
          go_wp2_with fail
          refine HBY.out.mono ?_
          rintro e w6 ⟨rfl, hb6⟩
          go_wp2
          go_roundw
          case rel => exact ⟨2, by decide, rfl, below_next HB4.out hb6⟩
          case measure => simp [intOf]
        | some d =>
          rw [hst] at hout
          obtain ⟨p, rp, rfl, ⟨g, m, DV, gs, N, VT, VV, vs, Fp, hds, hrd, -, -, -⟩, hb2⟩ := hout
          obtain ⟨hdC, hdo⟩ := start_props hst
          have HB2 : Hid (Below W.heap.size W w2) := below_next (below_next HBW.out (al (Below.refl _ _) _)) hb2
          have HDI : Hid (Calls Try.prog 20 #[.pointer (some ⟨p, 0, none⟩)] w2 fun e w' => ∃ a c b c', e = .returned (.tuple #[.slice a 0 c, .slice b 0 c']) ∧ Below w2.heap.size w2 w') := by
            have h9 := dirty_t p g m d.S d.C DV d.off d.fuse 0 w2 hds
            rw [hdC, (dirty_clean _).1, (dirty_clean _).2] at h9
            refine h9.mono ?_
            rintro e w' ⟨v, x, rfl, h10, h11, -, h12⟩
            obtain ⟨a, c, rfl, -⟩ := h10.val
            obtain ⟨b, c', rfl, -⟩ := h11.val
            exact ⟨a, c, b, c', rfl, h12⟩
          have HSE : Hid (∀ u, Below w2.heap.size w2 u → Calls Try.prog 10 #[.pointer (some ⟨p, 0, none⟩)] u fun e w' => e = .returned (.int .i64 (N : Int)) ∧ w' = u) := fun u hu => by
            have h9 := sectors_t p _ _ _ u (by rw [cell_of_row _ _ 0 _ _ _ (DK.hp (DK.below hds hu))]; rfl)
            rw [hrd.len] at h9
            exact h9
          have HRS : Hid (∀ u, Below w2.heap.size w2 u → _) := fun u hu => rsectors_t (RDk.below hrd hu)
          have HDN : Hid (∀ u, Below w2.heap.size w2 u → Calls Try.prog 22 #[.pointer (some ⟨p, 0, none⟩)] u fun e w' => e = .returned (.bool false) ∧ w' = u) := fun u hu => by
            have hdu := DK.below hds hu
            have h9 := down_t p _ _ _ _ u (DK.one hdu) (by rw [cell_of_row _ _ 0 _ _ _ (DK.hp hdu)]; rfl) (by rw [cell_of_row _ _ 2 _ _ _ (DK.hp hdu)]; rfl)
            rw [hdo] at h9
            exact h9
          obtain ⟨IM, hIM⟩ : ∃ I, I = img d.S := ⟨_, rfl⟩
          have HIM : Hid (∀ u, Below w2.heap.size w2 u → Calls Try.prog 13 #[.pointer (some ⟨p, 0, none⟩)] u fun e w' => ∃ g9, e = .returned (.slice (some ⟨g9, 0, none⟩) IM.length IM.length) ∧ Rd w' (some ⟨g9, 0, none⟩) IM ∧ Below u.heap.size u w') := fun u hu => by
            have h9 := image_r p g d.S u (DK.secAt (DK.below hds hu))
            rw [← hIM] at h9
            refine h9.mono ?_
            rintro e w' ⟨rfl, h10, h11⟩
            exact ⟨_, rfl, rd_row h10, h11⟩
          have HRI : Hid (∀ u, Below w2.heap.size w2 u → Calls Try.prog 23 #[.pointer (some ⟨rp, 0, none⟩)] u fun e w' => ∃ a c, e = .returned (.slice a IM.length c) ∧ Rd w' a IM ∧ Below u.heap.size u w') := fun u hu => by
            refine (rimage_t (RDk.below hrd hu)).mono ?_
            rintro e w' ⟨v, rfl, h10, h11⟩
            rw [← hIM] at h10
            obtain ⟨a, c, rfl, -, -, -, h12, -⟩ := h10.val
            exact ⟨a, c, rfl, h12, h11⟩
          have HML : Hid (IM.length ≤ 140737488355328) := by
            unfold Hid
            rw [hIM, img_len (fit_ok hrd.fit), hrd.len]
            have := hrd.most
            omega
          clear hst hdC hdo hds hrd hb2 hIM
          go_wp2_with fail
          refine HDI.out.mono ?_
          rintro e w3 ⟨av, cv, bv', cv', rfl, hb3⟩
          have HB3 : Hid _ := hb3
          clear hb3 HDI
          go_wp2_with fail
          refine (HSE.out w3 HB3.out).mono ?_
          rintro e w4 ⟨rfl, hq⟩
          have hq := hq.symm
          subst hq
          go_wp2_with fail
          refine Calls.mono (HRS.out w3 HB3.out) ?_
          rintro e w4 ⟨rfl, hq⟩
          have hq := hq.symm
          subst hq
          go_wp2_with fail
          refine (HDN.out w3 HB3.out).mono ?_
          rintro e w4 ⟨rfl, hq⟩
          have hq := hq.symm
          subst hq
          go_wp2_with fail
          refine (HIM.out w3 HB3.out).mono ?_
          rintro e w4 ⟨g9, rfl, hr4, hb4⟩
          have HR4 : Hid _ := hr4
          have HB4 : Hid _ := below_next HB3.out hb4
          clear hr4 hb4 HIM
          obtain ⟨nI, hnI⟩ : ∃ n, n = IM.length := ⟨_, rfl⟩
          rw [← hnI] at HRI HML ⊢
          have HNI : Hid _ := hnI
          clear hnI
          go_wp2_with fail
          refine (HRI.out w4 HB4.out).mono ?_
          rintro e w5 ⟨a5, c5, rfl, hr5, hb5⟩
          have HBY : Hid (Calls Try.prog 12 #[.slice (some ⟨g9, 0, none⟩) nI nI, .slice a5 nI c5] w5 fun e w' => e = .returned (.bool true) ∧ Below w5.heap.size w5 w') := by
            have h9 := byt_n (some ⟨g9, 0, none⟩) a5 nI nI nI c5 IM IM w5 HNI.out HNI.out (Rd.below HR4.out hb5) hr5 (by rw [← HNI.out]; exact HML.out) (by rw [← HNI.out]; exact HML.out)
            rw [beq_self_eq_true] at h9
            exact h9
          have HB5 : Hid _ := below_next HB4.out hb5
          clear hr5 hb5 HRI
          go_wp2_with fail
          refine HBY.out.mono ?_
          rintro e w6 ⟨rfl, hb6⟩
          go_wp2
          go_roundw
          case rel => exact ⟨2, by decide, rfl, below_next HB2.out (below_next HB5.out hb6)⟩
          case measure => simp [intOf]
      · obtain rfl : k = 2 := by omega
        rw [show ((2 : Nat) : Int) = 2 from rfl]
        go_wp2
        go_ret
        exact ⟨rfl, HBW.out⟩
end Go.Proofs.Ytgdkiejlggiakaa
