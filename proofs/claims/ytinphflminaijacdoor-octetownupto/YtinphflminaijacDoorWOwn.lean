import Derived.Test.YtinphflminaijacDoorOwnR
import Derived.Test.YtinphflminaijacDoorConv
import Derived.Test.YtinphflminaijacDoorOpen
namespace Go.Proofs.YtinphflminaijacDoor
set_option linter.unusedVariables false
set_option linter.unusedSimpArgs false
open Go.RowKit
theorem u64_of {n : Int} (h : (Lit.int .u64 n).wf = true) : ∃ m : Nat, n = m ∧ m < 18446744073709551616 := by
  have h1 : 0 ≤ n ∧ n ≤ 18446744073709551615 := by simpa [Lit.wf, IntKind.min, IntKind.max, IntKind.signed, IntKind.bits] using h
  exact ⟨n.toNat, by omega, by omega⟩
theorem own_slv {w : World} {B : Nat} {v : Value} {xs : List UInt8} (h : Own w B v xs) : ∃ a c, v = .slice a xs.length c ∧ Rd w a xs := by
  obtain ⟨a, c, hv, -, -, -, hr, -⟩ := h.val
  exact ⟨a, c, hv, hr⟩
set_option maxRecDepth 20000 in
set_option maxHeartbeats 6400000 in
theorem octetOwn_walk (a0 : Option Addr) (cap0 : Nat) (xs0 : List UInt8) (a1 : Option Addr) (cap1 : Nat) (xs1 : List UInt8) (n2 n3 n4 : Int) (w : World)
    (hr0 : Rd w a0 xs0) (hl0 : xs0.length ≤ cap0) (hc0 : cap0 ≤ 1048576) (hn0 : a0 = none → cap0 = 0) (hr1 : Rd w a1 xs1) (hl1 : xs1.length ≤ cap1) (hc1 : cap1 ≤ 1048576) (hn1 : a1 = none → cap1 = 0)
    (w2 : (Lit.int .u64 n2).wf = true) (w3 : (Lit.int .i64 n3).wf = true) (w4 : (Lit.int .u32 n4).wf = true) (ht : TabOk w) :
    Calls Tryd.prog 5 #[.slice a0 xs0.length cap0, .slice a1 xs1.length cap1, .int .u64 n2, .int .i64 n3, .int .u32 n4] w fun e w' => e = .returned (.bool true) ∧ Below w.heap.size w w' := by
  obtain ⟨m2, rfl, hm2⟩ := u64_of w2
  obtain ⟨m4, rfl, hm4⟩ := u32_of w4
  obtain ⟨ha0, ha1⟩ := i64_of w3
  have hx0 : xs0.length ≤ 1048576 := by omega
  have hx1 : xs1.length ≤ 1048576 := by omega
  have HN0 : Hid (a0 = none → cap0 = 0) := hn0
  have HN1 : Hid (a1 = none → cap1 = 0) := hn1
  have HM : Hid (m2 < 18446744073709551616 ∧ -9223372036854775808 ≤ n3 ∧ n3 ≤ 9223372036854775807 ∧ (m4 : Int) ≤ 4294967295) := ⟨hm2, ha0, ha1, hm4⟩
  clear w2 w3 w4 hn0 hn1 hm2 ha0 ha1 hm4 hl0 hc0 hl1 hc1
  go_enter Tryd.func5, Tryd.ntmps5
  go_wp2_with fail
  refine (knows_any _ ht).mono ?_
  rintro e wk ⟨rfl, hbk⟩
  have hS0 := St.start w wk hbk
  clear hbk
  go_wp2_with fail
  refine (asks_ans a0 cap0 xs0 m2 n3 m4 wk (hr0.below hS0.bel) HN0.out hx0 HM.out.1 HM.out.2.1 HM.out.2.2.1 HM.out.2.2.2 (ht.below hS0.bel)).mono ?_
  rintro e w1 ⟨g1, q1, rfl, hA1⟩
  have hz1 := (below_next hS0.bel hA1.bel).size
  have hrow0 : w1.ownsRow w.heap.size 25 1 (.slice none 0 0) 0 [] := (hS0.below hA1.bel).row
  go_wp2_with (at_builtin; refine wp_appG rfl _ _ 38 25 (.slice none 0 0) 24 Tryd.underlying38 infoS rfl (by decide) rfl w.heap.size _ 0 [] rfl hrow0 g1 7 7 (q1.map (·.1)) rfl (by rw [List.length_map, hA1.len]) hA1.cells hA1.one (by decide) (by decide) hz1 7 rfl ?_; intro G1 c1 w2 ho2 hg2 hl2)
  have hS2 := hS0.next (l := 7) hA1 rfl ho2 hg2 hl2
  have HE1 : Hid (q1.map (·.2) = ansL xs0 m2 n3 m4) := hA1.eq
  have hq1 : ([] ++ q1).length = 7 := by rw [List.nil_append, hA1.len]
  clear hS0 hA1 ho2 hg2 hl2 hz1 hrow0
  go_wp2_with fail
  refine (asks_ans a1 cap1 xs1 m2 n3 m4 w2 (hr1.below hS2.bel) HN1.out hx1 HM.out.1 HM.out.2.1 HM.out.2.2.1 HM.out.2.2.2 (ht.below hS2.bel)).mono ?_
  rintro e w3 ⟨g2, q2, rfl, hA2⟩
  have hz2 := (below_next hS2.bel hA2.bel).size
  have hrow2 := (hS2.below hA2.bel).row
  rw [hq1] at hrow2
  go_wp2_with (at_builtin; refine wp_appG rfl _ _ 38 25 (.slice none 0 0) 24 Tryd.underlying38 infoS rfl (by decide) rfl w.heap.size _ 7 _ rfl hrow2 g2 7 7 (q2.map (·.1)) rfl (by rw [List.length_map, hA2.len]) hA2.cells hA2.one (by decide) (by decide) hz2 14 rfl ?_; intro G2 c2 w4 ho4 hg4 hl4)
  have hS4 := hS2.next (l := 14) hA2 (by rw [hq1]) ho4 hg4 hl4
  have HE2 : Hid (q2.map (·.2) = ansL xs1 m2 n3 m4) := hA2.eq
  have hq2 : ([] ++ q1 ++ q2).length = 14 := by rw [List.length_append, hq1, hA2.len]
  clear hS2 hA2 ho4 hg4 hl4 hz2 hrow2 hq1
  go_wp2_with fail
  refine (asks_ans a0 cap0 xs0 m2 n3 m4 w4 (hr0.below hS4.bel) HN0.out hx0 HM.out.1 HM.out.2.1 HM.out.2.2.1 HM.out.2.2.2 (ht.below hS4.bel)).mono ?_
  rintro e w5 ⟨g3, q3, rfl, hA3⟩
  have hz3 := (below_next hS4.bel hA3.bel).size
  have hrow4 := (hS4.below hA3.bel).row
  rw [hq2] at hrow4
  go_wp2_with (at_builtin; refine wp_appG rfl _ _ 38 25 (.slice none 0 0) 24 Tryd.underlying38 infoS rfl (by decide) rfl w.heap.size _ 14 _ rfl hrow4 g3 7 7 (q3.map (·.1)) rfl (by rw [List.length_map, hA3.len]) hA3.cells hA3.one (by decide) (by decide) hz3 21 rfl ?_; intro G c3 w6 ho6 hg6 hl6)
  have hS6 := hS4.next (l := 21) hA3 (by rw [hq2]) ho6 hg6 hl6
  obtain ⟨ps, hps⟩ : ∃ ps, [] ++ q1 ++ q2 ++ q3 = ps := ⟨_, rfl⟩
  have HF : AllF ps xs0 xs1 := ans_all xs0 xs1 m2 n3 m4 hx0 hx1 HM.out.1 HE1.out HE2.out hA3.eq ps hps
  rw [hps] at hS6
  clear hS4 hA3 ho6 hg6 hl6 hz3 hrow4 hq2 HE1 HE2 hps
  go_wp2
  go_loopw [13] (fun i wr => ∃ k : Nat, k ≤ 7 ∧ i = .int .i64 k ∧ St w wr (.slice (some ⟨G, 0, none⟩) 21 c3) (.slice none 0 0) ps []) (fun i _ => 7 - (intOf i).toNat)
  case atStart => exact ⟨0, Nat.zero_le _, rfl, hS6⟩
  case round =>
    obtain ⟨k, hk, rfl, hS⟩ := hrel
    clear hS6
    by_cases hlt : k < 7
    · obtain ⟨M, hM⟩ : ∃ M, M = 14 + k := ⟨_, rfl⟩
      obtain ⟨hl21, h7, -, -, -⟩ := HF
      have hkA := hS.cell hl21.symm k (by omega)
      have hkB := hS.cell hl21.symm M (by omega)
      obtain ⟨aA, cA, eA, hrA⟩ := own_slv (hS.own k (by omega))
      obtain ⟨aB, cB, eB, hrB⟩ := own_slv (hS.own M (by omega))
      have he : ps[M].2 = ps[k].2 := by subst hM; exact (h7 k hlt).symm
      rw [eA] at hkA
      rw [eB, he] at hkB
      rw [he] at hrB
      generalize ps[k].2 = ys at *
      have hcA : ∀ u, Below wr.heap.size wr u → u.cell? ⟨G, k, none⟩ = some (.slice aA ys.length cA) := fun u hu => (hu.cell (World.block_lt_of_cell? wr _ hkA)).trans hkA
      have hcB : ∀ u, Below wr.heap.size wr u → u.cell? ⟨G, M, none⟩ = some (.slice aB ys.length cB) := fun u hu => (hu.cell (World.block_lt_of_cell? wr _ hkB)).trans hkB
      have hvA : ∀ u, Below wr.heap.size wr u → (convert 25 9 (.slice aA ys.length cA)).run Tryd.prog u = .ok (.string ⟨ys.toArray⟩) u := fun u hu => conv_rd (hrA.below hu) _ cA rfl
      have hvB : ∀ u, Below wr.heap.size wr u → (convert 25 9 (.slice aB ys.length cB)).run Tryd.prog u = .ok (.string ⟨ys.toArray⟩) u := fun u hu => conv_rd (hrB.below hu) _ cB rfl
      have hwM : IntKind.i64.wrap (14 + (k : Int)) = (M : Int) := by rw [IntKind.wrap_i64]; omega
      have hw14 : IntKind.i64.wrap 14 = 14 := by decide
      have hM21 : M < 21 := by omega
      have hMi : (M : Int) < 21 := by omega
      have hki : (k : Int) < 21 := by omega
      clear hM hkA hkB eA eB hrA hrB he h7 hl21
      go_wp2_with fail
      refine wp_region_noPanic ?_
      refine wp_region_held_drew (S := (fun u => Below wr.heap.size wr u)) (by kernel_rfl) (by first | exact (Below.refl _ _).drew | assumption) (fun hHeld => ?_)
      refine take_at (i := 0) 51 (v := ?_) rfl rfl (by kernel_rfl) (by kernel_rfl) (by kernel_rfl) (fun _ _ _ h => h) (by rfl) ?_ hHeld ?_
      rotate_left
      · (intro w hSw; (try dsimp only at hSw); go_simp; try with_reducible rfl)
      simp only [Act.put, List.setIfInBounds_toArray, List.set_cons_zero, List.set_cons_succ]
      refine take_at (i := 1) 52 (v := ?_) rfl rfl (by kernel_rfl) (by kernel_rfl) (by kernel_rfl) (fun _ _ _ h => h) (by rfl) ?_ hHeld ?_
      rotate_left
      · (intro w hSw; (try dsimp only at hSw); go_simp; try with_reducible rfl)
      simp only [Act.put, List.setIfInBounds_toArray, List.set_cons_zero, List.set_cons_succ]
      refine take_at (i := 2) 53 (v := ?_) rfl rfl (by kernel_rfl) (by kernel_rfl) (by kernel_rfl) (fun _ _ _ h => h) (by rfl) ?_ hHeld ?_
      rotate_left
      · (intro w hSw; (try dsimp only at hSw); go_simp; try with_reducible rfl)
      simp only [Act.put, List.setIfInBounds_toArray, List.set_cons_zero, List.set_cons_succ]
      refine take_at (i := 3) 54 (v := ?_) rfl rfl (by kernel_rfl) (by kernel_rfl) (by kernel_rfl) (fun _ _ _ h => h) (by rfl) ?_ hHeld ?_
      rotate_left
      · (intro w hSw; (try dsimp only at hSw); go_simp; try with_reducible rfl)
      simp only [Act.put, List.setIfInBounds_toArray, List.set_cons_zero, List.set_cons_succ]
      refine take_at (i := 4) 55 (v := ?_) rfl rfl (by kernel_rfl) (by kernel_rfl) (by kernel_rfl) (fun _ _ _ h => h) (by rfl) ?_ hHeld ?_
      rotate_left
      · (intro w hSw; (try dsimp only at hSw); go_simp; try with_reducible rfl)
      simp only [Act.put, List.setIfInBounds_toArray, List.set_cons_zero, List.set_cons_succ]
      refine take_at (i := 5) 56 (v := ?_) rfl rfl (by kernel_rfl) (by kernel_rfl) (by kernel_rfl) (fun _ _ _ h => h) (by rfl) ?_ hHeld ?_
      rotate_left
      · (intro w hSw; (try dsimp only at hSw); go_simp; try with_reducible rfl)
      simp only [Act.put, List.setIfInBounds_toArray, List.set_cons_zero, List.set_cons_succ]
      refine take_at (i := 6) 57 (v := ?_) rfl rfl (by kernel_rfl) (by kernel_rfl) (by kernel_rfl) (fun _ _ _ h => h) (by rfl) ?_ hHeld ?_
      rotate_left
      · (intro w hSw; (try dsimp only at hSw); go_simp; try with_reducible rfl)
      simp only [Act.put, List.setIfInBounds_toArray, List.set_cons_zero, List.set_cons_succ]
      refine take_at (i := 7) 58 (v := ?_) rfl rfl (by kernel_rfl) (by kernel_rfl) (by kernel_rfl) (fun _ _ _ h => h) (by rfl) ?_ hHeld ?_
      rotate_left
      · (intro w hSw; (try dsimp only at hSw); go_simp; try with_reducible rfl)
      simp only [Act.put, List.setIfInBounds_toArray, List.set_cons_zero, List.set_cons_succ]
      refine take_at (i := 8) 59 (v := ?_) rfl rfl (by kernel_rfl) (by kernel_rfl) (by kernel_rfl) (fun _ _ _ h => h) (by rfl) ?_ hHeld ?_
      rotate_left
      · (intro w hSw; (try dsimp only at hSw); go_simp; try with_reducible rfl)
      simp only [Act.put, List.setIfInBounds_toArray, List.set_cons_zero, List.set_cons_succ]
      refine take_at (i := 9) 60 (v := ?_) rfl rfl (by kernel_rfl) (by kernel_rfl) (by kernel_rfl) (fun _ _ _ h => h) (by rfl) ?_ hHeld ?_
      rotate_left
      · (intro w hSw; (try dsimp only at hSw); go_simp; try with_reducible rfl)
      simp only [Act.put, List.setIfInBounds_toArray, List.set_cons_zero, List.set_cons_succ]
      refine take_at (i := 10) 61 (v := ?_) rfl rfl (by kernel_rfl) (by kernel_rfl) (by kernel_rfl) (fun _ _ _ h => h) (by rfl) ?_ hHeld ?_
      rotate_left
      · (intro w hSw; (try dsimp only at hSw); go_simp; try with_reducible rfl)
      simp only [Act.put, List.setIfInBounds_toArray, List.set_cons_zero, List.set_cons_succ]
      refine take_at (i := 11) 62 (v := ?_) rfl rfl (by kernel_rfl) (by kernel_rfl) (by kernel_rfl) (fun _ _ _ h => h) (by rfl) ?_ hHeld ?_
      rotate_left
      · (intro w hSw; (try dsimp only at hSw); go_simp; try with_reducible rfl)
      simp only [Act.put, List.setIfInBounds_toArray, List.set_cons_zero, List.set_cons_succ]
      refine take_at (i := 12) 63 (v := ?_) rfl rfl (by kernel_rfl) (by kernel_rfl) (by kernel_rfl) (fun _ _ _ h => h) (by rfl) ?_ hHeld ?_
      rotate_left
      · (intro w hSw; (try dsimp only at hSw); go_simp; try with_reducible rfl)
      simp only [Act.put, List.setIfInBounds_toArray, List.set_cons_zero, List.set_cons_succ]
      refine take_at (i := 13) 64 (v := ?_) rfl rfl (by kernel_rfl) (by kernel_rfl) (by kernel_rfl) (fun _ _ _ h => h) (by rfl) ?_ hHeld ?_
      rotate_left
      · (intro w hSw; (try dsimp only at hSw); go_simp; try with_reducible rfl)
      simp only [Act.put, List.setIfInBounds_toArray, List.set_cons_zero, List.set_cons_succ]
      refine wpAnyH_done (by kernel_rfl) ?_ _
      refine NoPanic.normal ?_
      all_goals
        go_wp2
        go_roundw
        case rel => exact ⟨k + 1, by omega, by go_num, hS.below (Below.refl _ _).drew⟩
        case measure => simp [intOf]; omega
    · obtain rfl : k = 7 := by omega
      rw [show ((7 : Nat) : Int) = (7 : Int) from rfl]
      have HF' := HF
      obtain ⟨hl21, -, hp2, hp9, -⟩ := HF'
      have hk2 := hS.cell hl21.symm 2 (by omega)
      have hk9 := hS.cell hl21.symm 9 (by omega)
      obtain ⟨aA, cA, eA, hrA⟩ := own_slv (hS.own 2 (by omega))
      obtain ⟨aB, cB, eB, hrB⟩ := own_slv (hS.own 9 (by omega))
      rw [eA] at hk2
      rw [eB] at hk9
      rw [hp2] at hk2 hrA
      rw [hp9] at hk9 hrB
      have hc2 : ∀ u, Below wr.heap.size wr u → u.cell? ⟨G, 2, none⟩ = some (.slice aA (xs0 ++ sealL xs0).length cA) := fun u hu => (hu.cell (World.block_lt_of_cell? wr _ hk2)).trans hk2
      have hc9 : ∀ u, Below wr.heap.size wr u → u.cell? ⟨G, 9, none⟩ = some (.slice aB (xs1 ++ sealL xs1).length cB) := fun u hu => (hu.cell (World.block_lt_of_cell? wr _ hk9)).trans hk9
      have hvA : ∀ u, Below wr.heap.size wr u → (convert 25 9 (.slice aA (xs0 ++ sealL xs0).length cA)).run Tryd.prog u = .ok (.string ⟨(xs0 ++ sealL xs0).toArray⟩) u := fun u hu => conv_rd (hrA.below hu) _ cA rfl
      have hvB : ∀ u, Below wr.heap.size wr u → (convert 25 9 (.slice aB (xs1 ++ sealL xs1).length cB)).run Tryd.prog u = .ok (.string ⟨(xs1 ++ sealL xs1).toArray⟩) u := fun u hu => conv_rd (hrB.below hu) _ cB rfl
      have hw9 : IntKind.i64.wrap 9 = 9 := by decide
      have hr0w := hr0.below hS.bel
      have hr1w := hr1.below hS.bel
      obtain ⟨z0, hz0⟩ : ∃ z, z = xs0 ++ sealL xs0 := ⟨_, rfl⟩
      obtain ⟨z1, hz1⟩ : ∃ z, z = xs1 ++ sealL xs1 := ⟨_, rfl⟩
      rw [← hz0] at hc2 hvA
      rw [← hz1] at hc9 hvB
      have HZ0 : Hid (xs0 ++ sealL xs0 = z0) := hz0.symm
      have HZ1 : Hid (xs1 ++ sealL xs1 = z1) := hz1.symm
      clear hk2 hk9 eA eB hrA hrB hp2 hp9 hl21 hz0 hz1
      go_wp2_with fail
      refine wp_region_noPanic ?_
      refine wp_region_held_drew (S := (fun u => Below wr.heap.size wr u)) (by kernel_rfl) (by first | exact (Below.refl _ _).drew | assumption) (fun hHeld => ?_)
      refine take_at (i := 0) 65 (v := ?_) rfl rfl (by kernel_rfl) (by kernel_rfl) (by kernel_rfl) (fun _ _ _ h => h) (by rfl) ?_ hHeld ?_
      rotate_left
      · (intro w hSw; (try dsimp only at hSw); go_simp; try with_reducible rfl)
      simp only [Act.put, List.setIfInBounds_toArray, List.set_cons_zero, List.set_cons_succ]
      refine take_at (i := 1) 66 (v := ?_) rfl rfl (by kernel_rfl) (by kernel_rfl) (by kernel_rfl) (fun _ _ _ h => h) (by rfl) ?_ hHeld ?_
      rotate_left
      · (intro w hSw; (try dsimp only at hSw); go_simp; try with_reducible rfl)
      simp only [Act.put, List.setIfInBounds_toArray, List.set_cons_zero, List.set_cons_succ]
      refine take_at (i := 2) 67 (v := ?_) rfl rfl (by kernel_rfl) (by kernel_rfl) (by kernel_rfl) (fun _ _ _ h => h) (by rfl) ?_ hHeld ?_
      rotate_left
      · (intro w hSw; (try dsimp only at hSw); go_simp; try with_reducible rfl)
      simp only [Act.put, List.setIfInBounds_toArray, List.set_cons_zero, List.set_cons_succ]
      refine take_at (i := 3) 68 (v := ?_) rfl rfl (by kernel_rfl) (by kernel_rfl) (by kernel_rfl) (fun _ _ _ h => h) (by rfl) ?_ hHeld ?_
      rotate_left
      · (intro w hSw; (try dsimp only at hSw); go_simp; try with_reducible rfl)
      simp only [Act.put, List.setIfInBounds_toArray, List.set_cons_zero, List.set_cons_succ]
      refine take_at (i := 4) 69 (v := ?_) rfl rfl (by kernel_rfl) (by kernel_rfl) (by kernel_rfl) (fun _ _ _ h => h) (by rfl) ?_ hHeld ?_
      rotate_left
      · (intro w hSw; (try dsimp only at hSw); go_simp; try with_reducible rfl)
      simp only [Act.put, List.setIfInBounds_toArray, List.set_cons_zero, List.set_cons_succ]
      refine run_at (i := 5) rfl (by kernel_rfl) (by rfl) (fun K hK => ?_)
      simp only [List.getElem_toArray, List.getElem_cons_zero, List.getElem_cons_succ]
      go_simp
      first | (go_at_call 13; refine (refSeal_n a0 _ cap0 xs0 rfl _ (hr0w.below (by first | exact (Below.refl _ _).drew | assumption)) HN0.out (by omega)).mono ?_; rintro e w7 ⟨v7, rfl, ho7, hb7⟩; have hS7 := below_next (B := wr) (by first | exact (Below.refl _ _).drew | assumption) hb7; rw [HZ0.out] at ho7; obtain ⟨a7, c7, rfl, hr7⟩ := own_slv ho7; have hcv7 := conv_rd hr7 _ c7 rfl) | (go_at_call 13; refine (refSeal_n a1 _ cap1 xs1 rfl _ (hr1w.below (by first | exact (Below.refl _ _).drew | assumption)) HN1.out (by omega)).mono ?_; rintro e w8 ⟨v8, rfl, ho8, hb8⟩; have hS8 := below_next (B := wr) (by first | exact (Below.refl _ _).drew | assumption) hb8; rw [HZ1.out] at ho8; obtain ⟨a8, c8, rfl, hr8⟩ := own_slv ho8; have hcv8 := conv_rd hr8 _ c8 rfl)
      go_wp2_with fail
      refine hK.out _ _ (by first | exact (Below.refl _ _).drew | assumption) ?_
      clear hK K
      intro hHeld2
      clear hHeld
      have hHeld := hHeld2
      clear hHeld2
      try simp only [Act.put, List.setIfInBounds_toArray, List.set_cons_zero, List.set_cons_succ]
      refine val_at (i := 6) 71 (v := ?_) rfl rfl (by kernel_rfl) (by rfl) ?_ ?_ ?_
      rotate_left
      · (go_simp; try with_reducible rfl)
      · (first | exact (Below.refl _ _).drew | assumption)
      intro hHeld2
      clear hHeld
      have hHeld := hHeld2
      clear hHeld2
      simp only [Act.put, List.setIfInBounds_toArray, List.set_cons_zero, List.set_cons_succ]
      refine take_at (i := 7) 72 (v := ?_) rfl rfl (by kernel_rfl) (by kernel_rfl) (by kernel_rfl) (fun _ _ _ h => h) (by rfl) ?_ hHeld ?_
      rotate_left
      · (intro w hSw; (try dsimp only at hSw); go_simp; try with_reducible rfl)
      simp only [Act.put, List.setIfInBounds_toArray, List.set_cons_zero, List.set_cons_succ]
      refine take_at (i := 8) 73 (v := ?_) rfl rfl (by kernel_rfl) (by kernel_rfl) (by kernel_rfl) (fun _ _ _ h => h) (by rfl) ?_ hHeld ?_
      rotate_left
      · (intro w hSw; (try dsimp only at hSw); go_simp; try with_reducible rfl)
      simp only [Act.put, List.setIfInBounds_toArray, List.set_cons_zero, List.set_cons_succ]
      refine take_at (i := 9) 74 (v := ?_) rfl rfl (by kernel_rfl) (by kernel_rfl) (by kernel_rfl) (fun _ _ _ h => h) (by rfl) ?_ hHeld ?_
      rotate_left
      · (intro w hSw; (try dsimp only at hSw); go_simp; try with_reducible rfl)
      simp only [Act.put, List.setIfInBounds_toArray, List.set_cons_zero, List.set_cons_succ]
      refine take_at (i := 10) 75 (v := ?_) rfl rfl (by kernel_rfl) (by kernel_rfl) (by kernel_rfl) (fun _ _ _ h => h) (by rfl) ?_ hHeld ?_
      rotate_left
      · (intro w hSw; (try dsimp only at hSw); go_simp; try with_reducible rfl)
      simp only [Act.put, List.setIfInBounds_toArray, List.set_cons_zero, List.set_cons_succ]
      refine take_at (i := 11) 76 (v := ?_) rfl rfl (by kernel_rfl) (by kernel_rfl) (by kernel_rfl) (fun _ _ _ h => h) (by rfl) ?_ hHeld ?_
      rotate_left
      · (intro w hSw; (try dsimp only at hSw); go_simp; try with_reducible rfl)
      simp only [Act.put, List.setIfInBounds_toArray, List.set_cons_zero, List.set_cons_succ]
      refine take_at (i := 12) 77 (v := ?_) rfl rfl (by kernel_rfl) (by kernel_rfl) (by kernel_rfl) (fun _ _ _ h => h) (by rfl) ?_ hHeld ?_
      rotate_left
      · (intro w hSw; (try dsimp only at hSw); go_simp; try with_reducible rfl)
      simp only [Act.put, List.setIfInBounds_toArray, List.set_cons_zero, List.set_cons_succ]
      refine take_at (i := 13) 78 (v := ?_) rfl rfl (by kernel_rfl) (by kernel_rfl) (by kernel_rfl) (fun _ _ _ h => h) (by rfl) ?_ hHeld ?_
      rotate_left
      · (intro w hSw; (try dsimp only at hSw); go_simp; try with_reducible rfl)
      simp only [Act.put, List.setIfInBounds_toArray, List.set_cons_zero, List.set_cons_succ]
      refine take_at (i := 14) 79 (v := ?_) rfl rfl (by kernel_rfl) (by kernel_rfl) (by kernel_rfl) (fun _ _ _ h => h) (by rfl) ?_ hHeld ?_
      rotate_left
      · (intro w hSw; (try dsimp only at hSw); go_simp; try with_reducible rfl)
      simp only [Act.put, List.setIfInBounds_toArray, List.set_cons_zero, List.set_cons_succ]
      refine take_at (i := 15) 80 (v := ?_) rfl rfl (by kernel_rfl) (by kernel_rfl) (by kernel_rfl) (fun _ _ _ h => h) (by rfl) ?_ hHeld ?_
      rotate_left
      · (intro w hSw; (try dsimp only at hSw); go_simp; try with_reducible rfl)
      simp only [Act.put, List.setIfInBounds_toArray, List.set_cons_zero, List.set_cons_succ]
      refine run_at (i := 16) rfl (by kernel_rfl) (by rfl) (fun K hK => ?_)
      simp only [List.getElem_toArray, List.getElem_cons_zero, List.getElem_cons_succ]
      go_simp
      first | (go_at_call 13; refine (refSeal_n a0 _ cap0 xs0 rfl _ (hr0w.below (by first | exact (Below.refl _ _).drew | assumption)) HN0.out (by omega)).mono ?_; rintro e w7 ⟨v7, rfl, ho7, hb7⟩; have hS7 := below_next (B := wr) (by first | exact (Below.refl _ _).drew | assumption) hb7; rw [HZ0.out] at ho7; obtain ⟨a7, c7, rfl, hr7⟩ := own_slv ho7; have hcv7 := conv_rd hr7 _ c7 rfl) | (go_at_call 13; refine (refSeal_n a1 _ cap1 xs1 rfl _ (hr1w.below (by first | exact (Below.refl _ _).drew | assumption)) HN1.out (by omega)).mono ?_; rintro e w8 ⟨v8, rfl, ho8, hb8⟩; have hS8 := below_next (B := wr) (by first | exact (Below.refl _ _).drew | assumption) hb8; rw [HZ1.out] at ho8; obtain ⟨a8, c8, rfl, hr8⟩ := own_slv ho8; have hcv8 := conv_rd hr8 _ c8 rfl)
      go_wp2_with fail
      refine hK.out _ _ (by first | exact (Below.refl _ _).drew | assumption) ?_
      clear hK K
      intro hHeld2
      clear hHeld
      have hHeld := hHeld2
      clear hHeld2
      try simp only [Act.put, List.setIfInBounds_toArray, List.set_cons_zero, List.set_cons_succ]
      refine val_at (i := 17) 82 (v := ?_) rfl rfl (by kernel_rfl) (by rfl) ?_ ?_ ?_
      rotate_left
      · (go_simp; try with_reducible rfl)
      · (first | exact (Below.refl _ _).drew | assumption)
      intro hHeld2
      clear hHeld
      have hHeld := hHeld2
      clear hHeld2
      simp only [Act.put, List.setIfInBounds_toArray, List.set_cons_zero, List.set_cons_succ]
      refine take_at (i := 18) 83 (v := ?_) rfl rfl (by kernel_rfl) (by kernel_rfl) (by kernel_rfl) (fun _ _ _ h => h) (by rfl) ?_ hHeld ?_
      rotate_left
      · (intro w hSw; (try dsimp only at hSw); go_simp; try with_reducible rfl)
      simp only [Act.put, List.setIfInBounds_toArray, List.set_cons_zero, List.set_cons_succ]
      refine take_at (i := 19) 84 (v := ?_) rfl rfl (by kernel_rfl) (by kernel_rfl) (by kernel_rfl) (fun _ _ _ h => h) (by rfl) ?_ hHeld ?_
      rotate_left
      · (intro w hSw; (try dsimp only at hSw); go_simp; try with_reducible rfl)
      simp only [Act.put, List.setIfInBounds_toArray, List.set_cons_zero, List.set_cons_succ]
      refine wpAnyH_done (by kernel_rfl) ?_ _
      refine NoPanic.normal ?_
      all_goals
        have hS9 := hS.below hS8
        clear hS hc2 hc9 hvA hvB hr0w hr1w hw9 HZ0 HZ1 hS8
        go_wp2
        go_loopw [14, 15] (fun vw i wr => ∃ k : Nat, k ≤ 21 ∧ i = .int .i64 k ∧ ∃ ps2 ws, St w wr (.slice (some ⟨G, 0, none⟩) 21 c3) vw ps2 ws ∧ Inv2 ps2 ws k) (fun _ i _ => 21 - (intOf i).toNat)
        case atStart => exact ⟨0, Nat.zero_le _, rfl, ps, [], hS9, Inv2.start HF⟩
        case round =>
          obtain ⟨k, hk, rfl, ps2, ws, hS, hI⟩ := hrel
          clear hS9 HF
          by_cases hlt : k < 21
          · have hl21 := hI.1
            obtain ⟨v, ys, hv⟩ : ∃ v ys, ps2[k] = (v, ys) := ⟨_, _, rfl⟩
            have hyl : ys.length ≤ 3000000 := by have := hI.2.2.2 k (by omega) (Nat.le_refl _); rwa [hv] at this
            have HL : Hid (ps2.length = 21) := hl21
            have hSk : St w wr (.slice (some ⟨G, 0, none⟩) 21 c3) u14 (ps2.set k (v, List.replicate 0 (UInt8.ofNat (100 + k)) ++ ys.drop 0)) ws := by
              rw [List.replicate_zero, List.nil_append, List.drop_zero, set_same ps2 k (by omega) v ys hv]; exact hS
            obtain ⟨aV, cV, rfl, -⟩ := own_slv (St.ownK (by omega) hSk)
            rw [rep_len _ _ _ (Nat.zero_le _)] at hSk
            have hcG := St.cellK hl21 hlt hSk
            have hki : (k : Int) < 21 := by omega
            obtain ⟨C, hC⟩ : ∃ C, C = 100 + k := ⟨_, rfl⟩
            obtain ⟨D, hD⟩ : ∃ D, D = 200 + k := ⟨_, rfl⟩
            have hw100 : IntKind.i64.wrap (100 + (k : Int)) = (C : Int) := by rw [IntKind.wrap_i64]; omega
            have hw200 : IntKind.i64.wrap (200 + (k : Int)) = (D : Int) := by rw [IntKind.wrap_i64]; omega
            have hC256 : (C : Int) % 256 = (C : Int) := by omega
            have hD256 : (D : Int) % 256 = (D : Int) := by omega
            have hCn : C < 256 := by omega
            have hDn : D < 256 := by omega
            rw [← hC] at hSk
            clear hS hv hl21 hC hD
            go_wp2
            go_loopw [16, 17] (fun s j w3 => ∃ (t : Nat) (z : List UInt8), t ≤ ys.length ∧ j = .int .i64 t ∧ s = .string ⟨z.toArray⟩ ∧ Hid (z = List.replicate t (UInt8.ofNat C)) ∧ St w w3 (.slice (some ⟨G, 0, none⟩) 21 c3) u14 (ps2.set k (.slice aV ys.length cV, List.replicate t (UInt8.ofNat C) ++ ys.drop t)) ws) (fun _ j _ => ys.length - (intOf j).toNat)
            case atStart => exact ⟨0, [], Nat.zero_le _, rfl, rfl, (rfl : [] = List.replicate 0 (UInt8.ofNat C)), hSk⟩
            case round =>
              obtain ⟨t, z, ht3, rfl, rfl, HZ, hS3⟩ := hrel
              clear hSk hcG
              have hl21 := HL.out
              have hcG3 := St.cellK hl21 hlt hS3
              by_cases hlt3 : t < ys.length
              · have hown3 := St.ownK (by omega) hS3
                have hrl := rep_len (UInt8.ofNat C) ys t ht3
                obtain ⟨g, cq, hv, -, -, -, -⟩ := own_head hown3 (by rw [hrl]; omega)
                simp only [Value.slice.injEq] at hv
                obtain ⟨rfl, -, rfl⟩ := hv
                have hown3' := hown3
                rw [← hrl] at hown3'
                obtain ⟨zc, hzc⟩ : ∃ zc, wr.cell? ⟨g, t, none⟩ = some zc := by
                  rw [World.ownsRow.cellAt hown3' t (by rw [hrl]; omega), bv_get _ t (by rw [hrl]; omega)]; exact ⟨_, rfl⟩
                have hfz := World.ownsRow.frozenAt hown3' t
                have hbt : (C : Int) = ((UInt8.ofNat C).toNat : Int) := by rw [UInt8.toNat_ofNat']; omega
                have hS3b := St.markK (by omega) hS3 rfl hlt3 (C : Int) hbt
                have hcvL : (convert 25 9 (.slice (some ⟨wr.heap.size, 0, none⟩) 1 1)).run Tryd.prog ((wr.setCell ⟨g, t, none⟩ (.int .u8 (C : Int))).alloc (.cells #[.int .u8 (C : Int)] 5)) = .ok (.string ⟨[UInt8.ofNat C].toArray⟩) ((wr.setCell ⟨g, t, none⟩ (.int .u8 (C : Int))).alloc (.cells #[.int .u8 (C : Int)] 5)) := conv_rd (rd_lit (wr.setCell ⟨g, t, none⟩ (.int .u8 (C : Int))) wr.heap.size (by simp) #[.int .u8 (C : Int)] 5 (0, 0) [UInt8.ofNat C] (by simp only [bv, List.map_cons, List.map_nil]; rw [← hbt])) 1 1 rfl
                have hzn : ¬ 9223372036854775807 < z.length + 1 := by rw [HZ.out, List.length_replicate]; omega
                clear hown3 hown3' hrl hS3 hl21 hbt
                go_wp2
                go_roundw
                case rel => exact ⟨t + 1, z ++ [UInt8.ofNat C], by omega, by go_num, str_cat _ _, (by rw [HZ.out, rep_more] : z ++ [UInt8.ofNat C] = List.replicate (t + 1) (UInt8.ofNat C)), hS3b.below ((Below.refl _ _).alloc (Nat.le_refl _) _)⟩
                case measure => simp [intOf]; omega
              · obtain rfl : t = ys.length := by omega
                have hl21 := HL.out
                rw [List.drop_length, List.append_nil] at hS3
                have HZ4 : Hid (z = List.replicate ys.length (UInt8.ofNat C) ++ List.replicate 0 (UInt8.ofNat D)) := by unfold Hid; rw [HZ.out]; simp
                have hS4 : St w wr (.slice (some ⟨G, 0, none⟩) 21 c3) u14 (ps2.set k (.slice aV ys.length cV, z)) ws := by rw [HZ.out]; exact hS3
                have hzl : z.length = ys.length := by rw [HZ.out]; simp
                have hZN : Hid (ys.length = ys.length + 0) := (rfl : ys.length = ys.length + 0)
                clear hS3 HZ hlt3
                go_wp2
                go_loopw [16, 18] (fun s j w3 => ∃ (t : Nat) (z : List UInt8) (a4 : Option Addr) (n4 c4 : Nat), t ≤ 64 ∧ j = .int .i64 t ∧ s = .string ⟨z.toArray⟩ ∧ Hid (z = List.replicate ys.length (UInt8.ofNat C) ++ List.replicate t (UInt8.ofNat D)) ∧ Hid (n4 = ys.length + t) ∧ St w w3 (.slice (some ⟨G, 0, none⟩) 21 c3) u14 (ps2.set k (.slice a4 n4 c4, z)) ws) (fun _ j _ => 64 - (intOf j).toNat)
                case atStart => exact ⟨0, z, aV, ys.length, cV, Nat.zero_le _, rfl, rfl, HZ4, hZN, hS4⟩
                case round =>
                  obtain ⟨t, z, a4, n4, c4, ht4, rfl, rfl, HZ, HN4, hS4⟩ := hrel
                  by_cases hlt4 : t < 64
                  · have hcG4 := St.cellK hl21 hlt hS4
                    have hown4 := St.ownK (by omega) hS4
                    have hzl4 : n4 = z.length := by rw [HZ.out, HN4.out]; simp
                    have hbt : (D : Int) = ((UInt8.ofNat D).toNat : Int) := by rw [UInt8.toNat_ofNat']; omega
                    have hzb : z.length ≤ 3000064 := by rw [← hzl4, HN4.out]; omega
                    have hwz := hS4.bel.size
                    have HRL : Hid (Rd (wr.alloc (.cells #[.int .u8 (D : Int)] 5)) (some ⟨wr.heap.size, 0, none⟩) [UInt8.ofNat D]) := rd_lit wr _ rfl _ 5 (0, 0) _ (by simp only [bv, List.map_cons, List.map_nil]; rw [← hbt])
                    have hzn : ¬ 9223372036854775807 < z.length + 1 := by omega
                    have HBT : Hid ((D : Int) = ((UInt8.ofNat D).toNat : Int)) := hbt
                    have HZL4 : Hid (n4 = z.length) := hzl4
                    clear hbt hcG3 hzl4 hzl ht3
                    go_wp2_with (at_builtin; refine wp_app1 rfl _ _ rfl w.heap.size (.slice a4 n4 c4) n4 z (UInt8.ofNat D) ⟨wr.heap.size, 0, none⟩ 1 rfl HZL4.out (own_alloc hown4 _) rfl HRL.out (by omega) (by simp; omega) ?_; intro g5 c5 w5 hown5 hg5 hlies5; obtain ⟨⟨hcG5, hfG5⟩, hS5⟩ := St.growK hl21 hlt (hS4.below ((Below.refl _ _).alloc (Nat.le_refl _) _)) hg5 g5 (n4 + 1) c5 _ hown5 hlies5; have hcvL5 : (convert 25 9 (.slice (some ⟨w5.heap.size, 0, none⟩) 1 1)).run Tryd.prog ((w5.setCell ⟨G, k, none⟩ (.slice (some ⟨g5, 0, none⟩) (n4 + 1) c5)).alloc (.cells #[.int .u8 (D : Int)] 5)) = .ok (.string ⟨[UInt8.ofNat D].toArray⟩) ((w5.setCell ⟨G, k, none⟩ (.slice (some ⟨g5, 0, none⟩) (n4 + 1) c5)).alloc (.cells #[.int .u8 (D : Int)] 5)) := conv_rd (rd_lit (w5.setCell ⟨G, k, none⟩ (.slice (some ⟨g5, 0, none⟩) (n4 + 1) c5)) w5.heap.size (by simp) #[.int .u8 (D : Int)] 5 (0, 0) [UInt8.ofNat D] (by simp only [bv, List.map_cons, List.map_nil]; rw [← HBT.out])) 1 1 rfl)
                    go_roundw
                    case rel => exact ⟨t + 1, z ++ [UInt8.ofNat D], some ⟨g5, 0, none⟩, n4 + 1, c5, by omega, by go_num, str_cat _ _, (by rw [HZ.out, rep_app] : z ++ [UInt8.ofNat D] = List.replicate ys.length (UInt8.ofNat C) ++ List.replicate (t + 1) (UInt8.ofNat D)), (by rw [HN4.out]; rfl : n4 + 1 = ys.length + (t + 1)), hS5.below ((Below.refl _ _).alloc (Nat.le_refl _) _)⟩
                    case measure => simp [intOf]; omega
                  · obtain rfl : t = 64 := by omega
                    have hS4a : St w (wr.alloc (.cells #[.string ⟨z.toArray⟩] 9)) (.slice (some ⟨G, 0, none⟩) 21 c3) u14 (ps2.set k (.slice a4 n4 c4, z)) ws := hS4.below ((Below.refl _ _).alloc (Nat.le_refl _) _)
                    have hrowW := hS4a.want
                    have hwk := hI.2.1
                    rw [hwk] at hrowW
                    have hwz := hS4.bel.size
                    have HWK : Hid (ws.length = k) := hwk
                    have HCW : Hid (∀ j (h : j < [strV z].length), (wr.alloc (.cells #[.string ⟨z.toArray⟩] 9)).cell? ⟨wr.heap.size, j, none⟩ = some [strV z][j]) := fun j h => by
                      obtain rfl : j = 0 := by simp at h; omega
                      simp [strV]
                    clear hwk hcG3 HZ4 hZN
                    go_wp2_with (at_builtin; refine wp_appG rfl _ _ 40 9 (.string ⟨#[]⟩) 16 Tryd.underlying40 infoT rfl (by decide) rfl w.heap.size _ k (ws.map strV) rfl hrowW wr.heap.size 1 1 [strV z] rfl rfl HCW.out (fun u hu => by rw [List.mem_singleton] at hu; subst hu; rfl) (by decide) (by omega) (by simp; omega) (k + 1) rfl ?_; intro H7 c7 w7 ho7 hg7 hl7)
                    have hS7 := hS4a.moreK z hg7 (by rw [HWK.out]) ho7 hl7
                    go_roundw
                    case rel => exact ⟨k + 1, by omega, by go_num, _, _, hS7, hI.next hlt _ z⟩
                    case measure => simp [intOf]; omega
          · obtain rfl : k = 21 := by omega
            have hl21 := hI.1
            have hw21 := hI.2.1
            have HE : Hid (∀ j (h : j < ws.length) (h' : j < ps2.length), ps2[j].2 = ws[j]) := hI.2.2.1
            have hrowW := hS.want
            rw [hw21] at hrowW
            obtain ⟨GW, cW, rfl⟩ := own_headG hrowW (by decide)
            clear hrowW hI
            have HL : Hid (ps2.length = 21) := hl21
            have HW : Hid (ws.length = 21) := hw21
            clear hl21 hw21
            go_wp2
            go_loopw [19] (fun i wr => ∃ k : Nat, k ≤ 21 ∧ i = .int .i64 k ∧ St w wr (.slice (some ⟨G, 0, none⟩) 21 c3) (.slice (some ⟨GW, 0, none⟩) 21 cW) ps2 ws) (fun i _ => 21 - (intOf i).toNat)
            case atStart => exact ⟨0, Nat.zero_le _, rfl, hS⟩
            case round =>
              obtain ⟨k, hk, rfl, hS5⟩ := hrel
              clear hS
              by_cases hlt5 : k < 21
              · have hl21 := HL.out
                have hw21 := HW.out
                have hkA := hS5.cell hl21.symm k (by omega)
                have hkB := hS5.wcell hw21.symm k (by omega)
                obtain ⟨aA, cA, eA, hrA⟩ := own_slv (hS5.own k (by omega))
                have he : ps2[k].2 = ws[k] := HE.out k (by omega) (by omega)
                rw [he] at eA hrA
                rw [eA] at hkA
                obtain ⟨zs, hzs⟩ : ∃ zs, ws[k] = zs := ⟨_, rfl⟩
                rw [hzs] at hkA hkB hrA
                unfold strV at hkB
                have hcA : ∀ u, Below wr.heap.size wr u → u.cell? ⟨G, k, none⟩ = some (.slice aA zs.length cA) := fun u hu => (hu.cell (World.block_lt_of_cell? wr _ hkA)).trans hkA
                have hcB : ∀ u, Below wr.heap.size wr u → u.cell? ⟨GW, k, none⟩ = some (.string ⟨zs.toArray⟩) := fun u hu => (hu.cell (World.block_lt_of_cell? wr _ hkB)).trans hkB
                have hvA : ∀ u, Below wr.heap.size wr u → (convert 25 9 (.slice aA zs.length cA)).run Tryd.prog u = .ok (.string ⟨zs.toArray⟩) u := fun u hu => conv_rd (hrA.below hu) _ cA rfl
                have hki : (k : Int) < 21 := by omega
                clear hkA hkB eA hrA he hzs hl21 hw21
                go_wp2_with fail
                refine wp_region_noPanic ?_
                refine wp_region_held_drew (S := (fun u => Below wr.heap.size wr u)) (by kernel_rfl) (by first | exact (Below.refl _ _).drew | assumption) (fun hHeld => ?_)
                refine take_at (i := 0) 149 (v := ?_) rfl rfl (by kernel_rfl) (by kernel_rfl) (by kernel_rfl) (fun _ _ _ h => h) (by rfl) ?_ hHeld ?_
                rotate_left
                · (intro w hSw; (try dsimp only at hSw); go_simp; try with_reducible rfl)
                simp only [Act.put, List.setIfInBounds_toArray, List.set_cons_zero, List.set_cons_succ]
                refine take_at (i := 1) 150 (v := ?_) rfl rfl (by kernel_rfl) (by kernel_rfl) (by kernel_rfl) (fun _ _ _ h => h) (by rfl) ?_ hHeld ?_
                rotate_left
                · (intro w hSw; (try dsimp only at hSw); go_simp; try with_reducible rfl)
                simp only [Act.put, List.setIfInBounds_toArray, List.set_cons_zero, List.set_cons_succ]
                refine take_at (i := 2) 151 (v := ?_) rfl rfl (by kernel_rfl) (by kernel_rfl) (by kernel_rfl) (fun _ _ _ h => h) (by rfl) ?_ hHeld ?_
                rotate_left
                · (intro w hSw; (try dsimp only at hSw); go_simp; try with_reducible rfl)
                simp only [Act.put, List.setIfInBounds_toArray, List.set_cons_zero, List.set_cons_succ]
                refine take_at (i := 3) 152 (v := ?_) rfl rfl (by kernel_rfl) (by kernel_rfl) (by kernel_rfl) (fun _ _ _ h => h) (by rfl) ?_ hHeld ?_
                rotate_left
                · (intro w hSw; (try dsimp only at hSw); go_simp; try with_reducible rfl)
                simp only [Act.put, List.setIfInBounds_toArray, List.set_cons_zero, List.set_cons_succ]
                refine take_at (i := 4) 153 (v := ?_) rfl rfl (by kernel_rfl) (by kernel_rfl) (by kernel_rfl) (fun _ _ _ h => h) (by rfl) ?_ hHeld ?_
                rotate_left
                · (intro w hSw; (try dsimp only at hSw); go_simp; try with_reducible rfl)
                simp only [Act.put, List.setIfInBounds_toArray, List.set_cons_zero, List.set_cons_succ]
                refine take_at (i := 5) 154 (v := ?_) rfl rfl (by kernel_rfl) (by kernel_rfl) (by kernel_rfl) (fun _ _ _ h => h) (by rfl) ?_ hHeld ?_
                rotate_left
                · (intro w hSw; (try dsimp only at hSw); go_simp; try with_reducible rfl)
                simp only [Act.put, List.setIfInBounds_toArray, List.set_cons_zero, List.set_cons_succ]
                refine take_at (i := 6) 155 (v := ?_) rfl rfl (by kernel_rfl) (by kernel_rfl) (by kernel_rfl) (fun _ _ _ h => h) (by rfl) ?_ hHeld ?_
                rotate_left
                · (intro w hSw; (try dsimp only at hSw); go_simp; try with_reducible rfl)
                simp only [Act.put, List.setIfInBounds_toArray, List.set_cons_zero, List.set_cons_succ]
                refine take_at (i := 7) 156 (v := ?_) rfl rfl (by kernel_rfl) (by kernel_rfl) (by kernel_rfl) (fun _ _ _ h => h) (by rfl) ?_ hHeld ?_
                rotate_left
                · (intro w hSw; (try dsimp only at hSw); go_simp; try with_reducible rfl)
                simp only [Act.put, List.setIfInBounds_toArray, List.set_cons_zero, List.set_cons_succ]
                refine take_at (i := 8) 157 (v := ?_) rfl rfl (by kernel_rfl) (by kernel_rfl) (by kernel_rfl) (fun _ _ _ h => h) (by rfl) ?_ hHeld ?_
                rotate_left
                · (intro w hSw; (try dsimp only at hSw); go_simp; try with_reducible rfl)
                simp only [Act.put, List.setIfInBounds_toArray, List.set_cons_zero, List.set_cons_succ]
                refine take_at (i := 9) 158 (v := ?_) rfl rfl (by kernel_rfl) (by kernel_rfl) (by kernel_rfl) (fun _ _ _ h => h) (by rfl) ?_ hHeld ?_
                rotate_left
                · (intro w hSw; (try dsimp only at hSw); go_simp; try with_reducible rfl)
                simp only [Act.put, List.setIfInBounds_toArray, List.set_cons_zero, List.set_cons_succ]
                refine wpAnyH_done (by kernel_rfl) ?_ _
                refine NoPanic.normal ?_
                all_goals
                  go_wp2
                  go_roundw
                  case rel => exact ⟨k + 1, by omega, by go_num, hS5.below (Below.refl _ _).drew⟩
                  case measure => simp [intOf]; omega
              · have hr5 := hr0.below hS5.bel
                have ht5 := ht.below hS5.bel
                obtain ⟨z9, hz9⟩ : ∃ z, xs0 ++ sealL xs0 = z := ⟨_, rfl⟩
                have HZ9 : Hid (xs0 ++ sealL xs0 = z9) := hz9
                clear hz9
                go_wp2_with fail
                refine wp_region_noPanic ?_
                refine wp_region_held_drew (S := (fun u => Below wr.heap.size wr u)) (by kernel_rfl) (by first | exact (Below.refl _ _).drew | assumption) (fun hHeld => ?_)
                refine take_at (i := 0) 159 (v := ?_) rfl rfl (by kernel_rfl) (by kernel_rfl) (by kernel_rfl) (fun _ _ _ h => h) (by rfl) ?_ hHeld ?_
                rotate_left
                · (intro w hSw; (try dsimp only at hSw); go_simp; try with_reducible rfl)
                simp only [Act.put, List.setIfInBounds_toArray, List.set_cons_zero, List.set_cons_succ]
                refine take_at (i := 3) 162 (v := ?_) rfl rfl (by kernel_rfl) (by kernel_rfl) (by kernel_rfl) (fun _ _ _ h => h) (by rfl) ?_ hHeld ?_
                rotate_left
                · (intro w hSw; (try dsimp only at hSw); go_simp; try with_reducible rfl)
                simp only [Act.put, List.setIfInBounds_toArray, List.set_cons_zero, List.set_cons_succ]
                refine run_at (i := 1) rfl (by kernel_rfl) (by rfl) (fun K hK => ?_)
                simp only [List.getElem_toArray, List.getElem_cons_zero, List.getElem_cons_succ]
                go_simp
                first | (go_at_call 15; refine (seal_n a0 _ cap0 xs0 rfl _ (hr5.below (by first | exact (Below.refl _ _).drew | assumption)) HN0.out (by omega) (ht5.below (by first | exact (Below.refl _ _).drew | assumption))).mono ?_; rintro e w7 ⟨v7, rfl, ho7, hb7⟩; have hS7 := below_next (B := wr) (by first | exact (Below.refl _ _).drew | assumption) hb7; rw [HZ9.out] at ho7; obtain ⟨a7, c7, rfl, hr7⟩ := own_slv ho7; have hcv7 := conv_rd hr7 _ c7 rfl) | (go_at_call 13; refine (refSeal_n a0 _ cap0 xs0 rfl _ (hr5.below hS7) HN0.out (by omega)).mono ?_; rintro e w8 ⟨v8, rfl, ho8, hb8⟩; have hS8 := below_next hS7 hb8; rw [HZ9.out] at ho8; obtain ⟨a8, c8, rfl, hr8⟩ := own_slv ho8; have hcv8 := conv_rd hr8 _ c8 rfl; have hcv78 := conv_rd (hr7.below hb8) _ c7 rfl)
                go_wp2_with fail
                refine hK.out _ _ (by first | exact (Below.refl _ _).drew | assumption) ?_
                clear hK K
                intro hHeld2
                clear hHeld
                have hHeld := hHeld2
                clear hHeld2
                try simp only [Act.put, List.setIfInBounds_toArray, List.set_cons_zero, List.set_cons_succ]
                refine wpAnyH_ready (rs := [2, 4]) (by kernel_rfl) (by simp) ?_
                refine AllReadyH.cons (o := _) rfl (fun K hK => ?_) ?_
                focus
                  rw [if_pos (by rfl)]
                  refine val_wp 161 (v := ?_) rfl ?_ ?_
                  rotate_left
                  · (go_simp; try with_reducible rfl)
                  refine hK.out _ _ (by first | exact (Below.refl _ _).drew | assumption) ?_
                  clear hK K
                  intro hHeld2
                  clear hHeld
                  have hHeld := hHeld2
                  clear hHeld2
                  simp only [Act.put, List.setIfInBounds_toArray, List.set_cons_zero, List.set_cons_succ]
                  refine run_at (i := 4) rfl (by kernel_rfl) (by rfl) (fun K hK => ?_)
                  simp only [List.getElem_toArray, List.getElem_cons_zero, List.getElem_cons_succ]
                  go_simp
                  first | (go_at_call 15; refine (seal_n a0 _ cap0 xs0 rfl _ (hr5.below (by first | exact (Below.refl _ _).drew | assumption)) HN0.out (by omega) (ht5.below (by first | exact (Below.refl _ _).drew | assumption))).mono ?_; rintro e w7 ⟨v7, rfl, ho7, hb7⟩; have hS7 := below_next (B := wr) (by first | exact (Below.refl _ _).drew | assumption) hb7; rw [HZ9.out] at ho7; obtain ⟨a7, c7, rfl, hr7⟩ := own_slv ho7; have hcv7 := conv_rd hr7 _ c7 rfl) | (go_at_call 13; refine (refSeal_n a0 _ cap0 xs0 rfl _ (hr5.below hS7) HN0.out (by omega)).mono ?_; rintro e w8 ⟨v8, rfl, ho8, hb8⟩; have hS8 := below_next hS7 hb8; rw [HZ9.out] at ho8; obtain ⟨a8, c8, rfl, hr8⟩ := own_slv ho8; have hcv8 := conv_rd hr8 _ c8 rfl; have hcv78 := conv_rd (hr7.below hb8) _ c7 rfl)
                  go_wp2_with fail
                  refine hK.out _ _ (by first | exact (Below.refl _ _).drew | assumption) ?_
                  clear hK K
                  intro hHeld2
                  clear hHeld
                  have hHeld := hHeld2
                  clear hHeld2
                  try simp only [Act.put, List.setIfInBounds_toArray, List.set_cons_zero, List.set_cons_succ]
                  refine val_at (i := 5) 164 (v := ?_) rfl rfl (by kernel_rfl) (by rfl) ?_ ?_ ?_
                  rotate_left
                  · (go_simp; try with_reducible rfl)
                  · (first | exact (Below.refl _ _).drew | assumption)
                  intro hHeld2
                  clear hHeld
                  have hHeld := hHeld2
                  clear hHeld2
                  simp only [Act.put, List.setIfInBounds_toArray, List.set_cons_zero, List.set_cons_succ]
                  refine take_at (i := 6) 165 (v := ?_) rfl rfl (by kernel_rfl) (by kernel_rfl) (by kernel_rfl) (fun _ _ _ h => h) (by rfl) ?_ hHeld ?_
                  rotate_left
                  · (intro w hSw; (try dsimp only at hSw); go_simp; try with_reducible rfl)
                  simp only [Act.put, List.setIfInBounds_toArray, List.set_cons_zero, List.set_cons_succ]
                  refine take_at (i := 7) 10 (v := ?_) rfl rfl (by kernel_rfl) (by kernel_rfl) (by kernel_rfl) (fun _ _ _ h => h) (by rfl) ?_ hHeld ?_
                  rotate_left
                  · (intro w hSw; (try dsimp only at hSw); go_simp; try with_reducible rfl)
                  simp only [Act.put, List.setIfInBounds_toArray, List.set_cons_zero, List.set_cons_succ]
                  refine wpAnyH_done (by kernel_rfl) ?_ _
                  refine NoPanic.normal ?_
                rotate_left 1
                refine AllReadyH.cons (o := _) rfl (fun K hK => ?_) AllReadyH.nil
                focus
                  rw [if_pos (by rfl)]
                  simp only [List.getElem_toArray, List.getElem_cons_zero, List.getElem_cons_succ]
                  go_simp
                  first | (go_at_call 15; refine (seal_n a0 _ cap0 xs0 rfl _ (hr5.below (by first | exact (Below.refl _ _).drew | assumption)) HN0.out (by omega) (ht5.below (by first | exact (Below.refl _ _).drew | assumption))).mono ?_; rintro e w7 ⟨v7, rfl, ho7, hb7⟩; have hS7 := below_next (B := wr) (by first | exact (Below.refl _ _).drew | assumption) hb7; rw [HZ9.out] at ho7; obtain ⟨a7, c7, rfl, hr7⟩ := own_slv ho7; have hcv7 := conv_rd hr7 _ c7 rfl) | (go_at_call 13; refine (refSeal_n a0 _ cap0 xs0 rfl _ (hr5.below hS7) HN0.out (by omega)).mono ?_; rintro e w8 ⟨v8, rfl, ho8, hb8⟩; have hS8 := below_next hS7 hb8; rw [HZ9.out] at ho8; obtain ⟨a8, c8, rfl, hr8⟩ := own_slv ho8; have hcv8 := conv_rd hr8 _ c8 rfl; have hcv78 := conv_rd (hr7.below hb8) _ c7 rfl)
                  go_wp2_with fail
                  refine hK.out _ _ (by first | exact (Below.refl _ _).drew | assumption) ?_
                  clear hK K
                  intro hHeld2
                  clear hHeld
                  have hHeld := hHeld2
                  clear hHeld2
                  try simp only [Act.put, List.setIfInBounds_toArray, List.set_cons_zero, List.set_cons_succ]
                  refine wpAnyH_ready (rs := [2, 5]) (by kernel_rfl) (by simp) ?_
                  refine AllReadyH.cons (o := _) rfl (fun K hK => ?_) ?_
                  focus
                    rw [if_pos (by rfl)]
                    refine val_wp 161 (v := ?_) rfl ?_ ?_
                    rotate_left
                    · (go_simp; try with_reducible rfl)
                    refine hK.out _ _ (by first | exact (Below.refl _ _).drew | assumption) ?_
                    clear hK K
                    intro hHeld2
                    clear hHeld
                    have hHeld := hHeld2
                    clear hHeld2
                    simp only [Act.put, List.setIfInBounds_toArray, List.set_cons_zero, List.set_cons_succ]
                    refine val_at (i := 5) 164 (v := ?_) rfl rfl (by kernel_rfl) (by rfl) ?_ ?_ ?_
                    rotate_left
                    · (go_simp; try with_reducible rfl)
                    · (first | exact (Below.refl _ _).drew | assumption)
                    intro hHeld2
                    clear hHeld
                    have hHeld := hHeld2
                    clear hHeld2
                    simp only [Act.put, List.setIfInBounds_toArray, List.set_cons_zero, List.set_cons_succ]
                    refine take_at (i := 6) 165 (v := ?_) rfl rfl (by kernel_rfl) (by kernel_rfl) (by kernel_rfl) (fun _ _ _ h => h) (by rfl) ?_ hHeld ?_
                    rotate_left
                    · (intro w hSw; (try dsimp only at hSw); go_simp; try with_reducible rfl)
                    simp only [Act.put, List.setIfInBounds_toArray, List.set_cons_zero, List.set_cons_succ]
                    refine take_at (i := 7) 10 (v := ?_) rfl rfl (by kernel_rfl) (by kernel_rfl) (by kernel_rfl) (fun _ _ _ h => h) (by rfl) ?_ hHeld ?_
                    rotate_left
                    · (intro w hSw; (try dsimp only at hSw); go_simp; try with_reducible rfl)
                    simp only [Act.put, List.setIfInBounds_toArray, List.set_cons_zero, List.set_cons_succ]
                    refine wpAnyH_done (by kernel_rfl) ?_ _
                    refine NoPanic.normal ?_
                  rotate_left 1
                  refine AllReadyH.cons (o := _) rfl (fun K hK => ?_) AllReadyH.nil
                  focus
                    rw [if_pos (by rfl)]
                    refine val_wp 164 (v := ?_) rfl ?_ ?_
                    rotate_left
                    · (go_simp; try with_reducible rfl)
                    refine hK.out _ _ (by first | exact (Below.refl _ _).drew | assumption) ?_
                    clear hK K
                    intro hHeld2
                    clear hHeld
                    have hHeld := hHeld2
                    clear hHeld2
                    simp only [Act.put, List.setIfInBounds_toArray, List.set_cons_zero, List.set_cons_succ]
                    refine val_at (i := 2) 161 (v := ?_) rfl rfl (by kernel_rfl) (by rfl) ?_ ?_ ?_
                    rotate_left
                    · (go_simp; try with_reducible rfl)
                    · (first | exact (Below.refl _ _).drew | assumption)
                    intro hHeld2
                    clear hHeld
                    have hHeld := hHeld2
                    clear hHeld2
                    simp only [Act.put, List.setIfInBounds_toArray, List.set_cons_zero, List.set_cons_succ]
                    refine take_at (i := 6) 165 (v := ?_) rfl rfl (by kernel_rfl) (by kernel_rfl) (by kernel_rfl) (fun _ _ _ h => h) (by rfl) ?_ hHeld ?_
                    rotate_left
                    · (intro w hSw; (try dsimp only at hSw); go_simp; try with_reducible rfl)
                    simp only [Act.put, List.setIfInBounds_toArray, List.set_cons_zero, List.set_cons_succ]
                    refine take_at (i := 7) 10 (v := ?_) rfl rfl (by kernel_rfl) (by kernel_rfl) (by kernel_rfl) (fun _ _ _ h => h) (by rfl) ?_ hHeld ?_
                    rotate_left
                    · (intro w hSw; (try dsimp only at hSw); go_simp; try with_reducible rfl)
                    simp only [Act.put, List.setIfInBounds_toArray, List.set_cons_zero, List.set_cons_succ]
                    refine wpAnyH_done (by kernel_rfl) ?_ _
                    refine NoPanic.normal ?_
                all_goals
                  go_wp2
                  go_ret
                  exact ⟨by simp, below_next hS5.bel hS8⟩
end Go.Proofs.YtinphflminaijacDoor
