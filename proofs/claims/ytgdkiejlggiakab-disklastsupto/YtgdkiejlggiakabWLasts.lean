import Derived.Test.YtgdkiejlggiakabDStepB
import Derived.Test.YtgdkiejlggiakabOpenIss
namespace Go.Proofs.Ytgdkiejlggiakab
set_option linter.unusedVariables false
set_option linter.unusedSimpArgs false
open Go.RowKit Go.Maps
theorem far5L : farT 5 := ⟨by decide, by decide, by decide⟩
theorem flush_crash {d : Dst} (h : d.fine) (chs : List Int) : d.flush.crash chs = d.flush := by
  unfold Dst.flush
  rw [h.can]
  obtain ⟨h1, h2⟩ := h.beg
  simp only [if_true]
  rw [h1, h2]
  unfold Dst.crash crashed
  simp only [if_true]
  congr 1
  apply List.ext_getElem
  · simp
  · intro i h3 h4
    simp
def BKq (kb p b o : Nat) (ca : Option Addr) (lc cc : Nat) (u : World) : Prop := u.cell? ⟨kb, 0, none⟩ = some (.pointer (some ⟨p, 0, none⟩)) ∧ u.cell? ⟨b, o, none⟩ = some (.slice ca lc cc)
set_option maxRecDepth 20000 in
set_option maxHeartbeats 1600000 in
theorem diskLasts_walk (n0 : Int) (a1 : Option Addr) (cap1 : Nat) (xs1 : List Stp) (a2 : Option Addr) (cap2 : Nat) (xs2 : List (List Int)) (W : World) (hn0 : -9223372036854775808 ≤ n0 ∧ n0 ≤ 9223372036854775807)
    (hr1 : RdSt W a1 xs1) (hl1 : xs1.length ≤ cap1) (ha1 : a1 = none → cap1 = 0) (hc1 : cap1 ≤ 1048575) (hr2 : RdIss W a2 xs2) (hl2 : xs2.length ≤ cap2) (ha2 : a2 = none → cap2 = 0) (hc2 : cap2 ≤ 1048575) :
    Calls Try.prog 8 #[.int .i64 n0, .slice a1 xs1.length cap1, .slice a2 xs2.length cap2] W fun e w' => e = .returned (.bool true) ∧ Below W.heap.size W w' := by
  have HBG : Hid _ := begin_b n0 W hn0
  have HR1 : Hid _ := hr1
  have HR2 : Hid _ := hr2
  obtain ⟨L1, hL1⟩ : ∃ L : Nat, L = xs1.length := ⟨_, rfl⟩
  obtain ⟨L2, hL2⟩ : ∃ L : Nat, L = xs2.length := ⟨_, rfl⟩
  rw [← hL1, ← hL2]
  have HL1 : Hid _ := hL1
  have HL2 : Hid _ := hL2
  have HB1 : Hid (L1 ≤ 1048575) := by unfold Hid; omega
  have HB2 : Hid (L2 ≤ 1048575) := by unfold Hid; omega
  have HIN : Hid _ := spanS_in n0 1 65536 (by decide)
  clear hn0 hr1 ha1 hL1 hl1 hc1 hr2 ha2 hL2 hl2 hc2
  go_enter Try.func8, Try.ntmps8
  go_wp2_with fail
  refine Calls.mono HBG.out ?_
  rintro e w1 ⟨kb, rfl, hbk⟩
  obtain ⟨N, hNN⟩ : ∃ N : Nat, N = spanS n0 1 65536 := ⟨_, rfl⟩
  rw [← hNN] at hbk HIN
  have HBK2 : Hid _ := hbk
  clear hbk hNN HBG
  go_wp2_with fail
  go_loopw [9] (fun i wr => ∃ (k : Nat) (d : Dst) (M : Nat → List Int) (nx c : Nat), k ≤ L1 ∧ i = .int .i64 (k : Int) ∧ Bk W wr kb N d M nx c ∧ nx ≤ k + 1 ∧ c ≤ k) (fun i _ => L1 - (intOf i).toNat)
  case atStart => exact ⟨0, _, _, 1, 0, Nat.zero_le _, rfl, HBK2.out, Nat.le_refl _, Nat.le_refl _⟩
  case round =>
    obtain ⟨k, d, M, nx, c, hk, rfl, hbk, hnx, hc⟩ := hrel
    have HBK0 : Hid _ := hbk
    clear hbk HBK2
    have hkw : IntKind.i64.wrap ((k : Int) + 1) = ((k + 1 : Nat) : Int) := by rw [IntKind.wrap_i64]; have := HB1.out; omega
    by_cases hlt : k < L1
    · have hlti : (k : Int) < (L1 : Int) := by omega
      have hk0 : (0 : Int) ≤ (k : Int) := by omega
      have hkx : k < xs1.length := by rw [← HL1.out]; exact hlt
      obtain ⟨b, o, ca, cc, rfl, hrg, hin, hat⟩ := HR1.out k hkx
      obtain ⟨s, hs⟩ : ∃ s : Stp, s = xs1[k] := ⟨_, rfl⟩
      rw [← hs] at hrg hin hat
      have HST : Hid _ := bstep_t HBK0.out s ca cc hin hat (by have := HB1.out; omega) (by have := HB1.out; omega)
      have HRW : Hid _ := rangeAt_below hrg (Bk.bel HBK0.out)
      clear hs hrg hin hat
      go_wp2_with (first
        | (refine wpList_load_mid rfl 48 _ rfl b (o + k * 3) (by rfl) [.int .i64 s.op, .int .i64 s.at_, .slice ca s.cs.length cc] _ HRW.out Try.underlying48 rfl (by rw [(zero_of_info info_step).2]; rfl) ?_))
      refine Calls.mono HST.out ?_
      rintro e w3 ⟨rfl, d3, M3, nx3, hbk3, hnx3⟩
      have HBK3 : Hid _ := hbk3
      clear hbk3 HST HRW
      go_wp2
      go_roundw
      case rel => exact ⟨k + 1, d3, M3, nx3, c + 1, by omega, rfl, HBK3.out, by omega, by omega⟩
      case measure => simp [intOf]; omega
    · have hlti : ¬ (k : Int) < (L1 : Int) := by omega
      obtain ⟨p, g, m, DV, gm, cap, V, hds, hft, hbka⟩ := Bk.ex HBK0.out
      have HDS : Hid _ := hds
      have HBK : Hid _ := hbka
      have HFT : Hid _ := hft
      have HREL : Hid _ := Bk.rel HBK0.out
      have HBEL : Hid _ := Bk.bel HBK0.out
      have hN : N ≤ 65536 := HIN.out.2
      have c0 := hbka.k0
      obtain ⟨X, hX⟩ : ∃ X : World, X = wr := ⟨_, rfl⟩
      rw [← hX] at HDS HBK HBEL c0 ⊢
      have hcX : c ≤ 1048575 := by have := HB1.out; omega
      have hnX : nx ≤ 1048576 := by have := HB1.out; omega
      clear hX hds hft hbka HBK0 hkw
      have HFL : Hid (Calls Try.prog 12 #[.pointer (some ⟨p, 0, none⟩)] X fun e w' => e = .returned (.int .i64 0) ∧ ∃ DV', DS w' p g m d.flush DV' c ∧ BookAt w' W.heap.size kb gm cap p N M V nx ∧ (∀ b, foot p g m DV' b → W.heap.size ≤ b) ∧ Below W.heap.size W w') := by
        have h9 := flush_all p g m d DV c X HDS.out
        rw [HREL.out.fine.can] at h9
        refine h9.mono ?_
        rintro e w' ⟨rfl, DV', h10, h11⟩
        have h12 := Bk.disk (kb := kb) (N := N) (d' := d) (M := M) (M' := M) (nx := nx) (nx' := nx) (c' := c) (gm := gm) (cap := cap) (V := V) HBEL.out HDS.out HFT.out h11
        exact ⟨rfl, DV', h10, BookAt.disk HBK.out HDS.out h11, h12.1, h12.2⟩
      go_wp2_with fail
      refine HFL.out.mono ?_
      rintro e w5 ⟨rfl, DV5, hds5, hbk5, hft5, hbel5⟩
      have HDS5 : Hid _ := hds5
      have HBK5 : Hid _ := hbk5
      have HFT5 : Hid _ := hft5
      have HBEL5 : Hid _ := hbel5
      have c05 := hbk5.k0
      obtain ⟨D, hD⟩ : ∃ D : Dst, D = d.flush := ⟨_, rfl⟩
      have hIM := image_r p g D.S w5 (by rw [hD]; exact DK.secAt hds5)
      have hfD : ∀ s ∈ D.S, s.fit := by rw [hD]; exact DK.fit hds5
      have hlD : D.S.length ≤ 65536 := by rw [hD]; exact DK.most hds5
      obtain ⟨IM, hIMe⟩ : ∃ I, I = img D.S := ⟨_, rfl⟩
      obtain ⟨MI, hMI⟩ : ∃ n, n = IM.length := ⟨_, rfl⟩
      rw [← hIMe, ← hMI] at hIM
      have HMI : Hid (MI = IM.length ∧ MI ≤ 140737488355328) := ⟨hMI, by rw [hMI, hIMe, img_len (fit_ok hfD)]; omega⟩
      have HIM : Hid _ := hIM
      have HIE : Hid _ := hIMe
      have HD : Hid _ := hD
      clear hds5 hbk5 hft5 hbel5 HFL c0 hIM hMI hIMe hfD hlD hD
      go_wp2_with fail
      refine Calls.mono HIM.out ?_
      rintro e w6 ⟨rfl, hrow6, hb6⟩
      obtain ⟨J, hJ⟩ : ∃ J : Nat, J = w5.heap.size := ⟨_, rfl⟩
      rw [← hJ] at hrow6 ⊢
      have HDS6 : Hid (DS w6 p g m d.flush DV5 c) := DK.below HDS5.out hb6
      have HBK6 : Hid _ := BookAt.below HBK5.out hb6
      have HFT6 : Hid _ := HFT5.out
      have HBEL6 : Hid (Below W.heap.size W w6) := below_next HBEL5.out hb6
      have hWb : W.heap.size ≤ w6.heap.size := HBEL6.out.size
      have HRJ : Hid _ := hrow6
      have HJW : Hid (W.heap.size ≤ J) := by rw [hJ]; exact HBEL5.out.size
      clear hJ hrow6 hb6 HIM HDS5 HBK5 HFT5 HBEL5 c05
      go_wp2_with fail
      go_loopw [11, 12] (fun i _ wr => ∃ (k : Nat) (V' : Nat → Value), k ≤ N ∧ i = .int .i64 (k : Int) ∧ BookAt wr W.heap.size kb gm cap p N (fun j => if j < k then [lastI (M j)] else M j) V' nx ∧ Chg (fun b => b = gm) w6 wr) (fun i _ _ => N - (intOf i).toNat)
      case atStart => exact ⟨0, V, Nat.zero_le _, rfl, HBK6.out, Chg.refl _ _⟩
      case round =>
        obtain ⟨k, V', hk, rfl, hbk, hcg⟩ := hrel
        have c1 := hbk.k1
        have hk0 : (0 : Int) ≤ (k : Int) := by omega
        have hkw : IntKind.i64.wrap ((k : Int) + 1) = ((k + 1 : Nat) : Int) := by rw [IntKind.wrap_i64]; omega
        have HCG : Hid _ := hcg
        have HBKk : Hid _ := hbk
        by_cases hlt : k < N
        · have hlti : (k : Int) < (N : Int) := by omega
          have cv := hbk.cell k hlt
          have hne := hbk.ne k hlt
          obtain ⟨gr, cr, hv, -, hgs, hcl9⟩ := hbk.row k hlt
          simp only [Nat.lt_irrefl, if_false] at hv hcl9 hne
          obtain ⟨ln, hln⟩ : ∃ n, n = (M k).length := ⟨_, rfl⟩
          obtain ⟨y, hy⟩ : ∃ y : Nat, y = ln - 1 := ⟨_, rfl⟩
          have hpos := List.length_pos_iff.2 hne
          have hcz := hcl9 y (by omega)
          have hlz : (M k)[y]'(by omega) = lastI (M k) := by
            rw [← last_at hne]
            congr 1
            omega
          obtain ⟨v, hvv⟩ : ∃ v, v = lastI (M k) := ⟨_, rfl⟩
          rw [hlz, ← hvv] at hcz
          rw [hv, ← hln] at cv
          have hlb : ln ≤ 1099511627777 := by
            have h8 := (HREL.out.may k hlt).clen
            have h9 := CacheAt.few (DK.cache HDS.out) k
            have h10 := DK.few HDS.out
            omega
          have hyw : IntKind.i64.wrap ((ln : Int) - 1) = (y : Int) := by rw [IntKind.wrap_i64]; omega
          have hy0 : (0 : Int) ≤ (y : Int) := by omega
          have hyn : (y : Int) < (ln : Int) := by omega
          have HST : Hid _ := BookAt.single hbk (Nat.le_trans hWb hcg.size) k hlt v
          have hb1 : ∀ u, BKl kb gm N cap gr y v u → u.cell? ⟨kb, 1, none⟩ = some (.slice (some ⟨gm, 0, none⟩) N cap) := fun u hu => hu.1
          have hb2 : ∀ u, BKl kb gm N cap gr y v u → u.cell? ⟨gr, y, none⟩ = some (.int .i64 v) := fun u hu => hu.2
          have hB0 : BKl kb gm N cap gr y v wr.drew := ⟨c1, hcz⟩
          have hB1 : ∀ o, BKl kb gm N cap gr y v (wr.alloc o).drew := fun o => ⟨((al (Below.refl _ _) o).cell (p := ⟨kb, 1, none⟩) (World.block_lt_of_cell? wr _ c1)).trans c1, ((al (Below.refl _ _) o).cell (p := ⟨gr, y, none⟩) hgs).trans hcz⟩
          obtain ⟨cur, hcur, -⟩ := hbk.hm
          have hgml : gm < wr.heap.size := (Array.getElem?_eq_some_iff.1 hcur).1
          have hgmn : ¬ gm = wr.heap.size := by omega
          have hf := frozen_of_row wr gm k _ _ hcur
          have hfA : ∀ o : Obj, (wr.alloc o).frozen? ⟨gm, k, none⟩ = false := fun o => by rw [← hf]; exact World.frozen?_of_block ((al (Below.refl _ _) o).block gm hgml)
          have hB2 : BKl kb gm N cap gr y v ((wr.setCell ⟨gm, k, none⟩ (.slice (some ⟨wr.heap.size, 0, none⟩) 1 1)).alloc (.cells #[.int .i64 v] 3)).drew := by
            refine ⟨BookAt.k1 HST.out.1, ?_⟩
            have hgg : gr ≠ gm := fun e => by
              obtain ⟨c9, h9⟩ := OwnI.at_ (hbk.rows k hlt) (b := gr) (by rw [hv]; rfl)
              rw [e, hcur] at h9
              simp only [Option.some.injEq, Obj.cells.injEq] at h9
              exact absurd h9.2.1 (by decide)
            rw [← hcz]
            exact World.cell?_of_block (Chg.block HST.out.2 gr hgs hgg)
          have HNX : Hid (BookAt ((wr.setCell ⟨gm, k, none⟩ (.slice (some ⟨wr.heap.size, 0, none⟩) 1 1)).alloc (.cells #[.int .i64 v] 3)).drew W.heap.size kb gm cap p N (fun j => if j < k + 1 then [lastI (M j)] else M j) (upd V' k (.slice (some ⟨wr.heap.size, 0, none⟩) 1 1)) nx) := by
            have e9 : (fun j => if j < k + 1 then [lastI (M j)] else M j) = upd (fun j => if j < k then [lastI (M j)] else M j) k [v] := by
              funext j
              by_cases ej : j = k
              · subst ej
                rw [upd_same, if_pos (by omega), hvv]
              · rw [upd_other _ ej]
                by_cases e3 : j < k
                · simp [e3, show j < k + 1 by omega]
                · simp [e3, show ¬ j < k + 1 by omega]
            rw [e9]
            exact HST.out.1
          clear hv hcl9 hln hy hlz hvv hpos hne hbk hcg hcur
          go_wp2_with fail
          refine wp_region_noPanic ?_
          refine wp_region_held_drew (S := (fun u => BKl kb gm N cap gr y v u)) (by kernel_rfl) (by first | exact hB0 | exact hB1 _ | exact hB2 | assumption) (fun hHeld => ?_)
          refine take_at (i := 0) 61 (v := ?_) rfl rfl (by kernel_rfl) (by kernel_rfl) (by kernel_rfl) (fun _ _ _ h => h) (by rfl) ?_ hHeld ?_
          rotate_left
          · (intro w hSw; (try dsimp only at hSw); go_simp; try with_reducible rfl)
          simp only [Act.put, List.setIfInBounds_toArray, List.set_cons_zero, List.set_cons_succ]
          refine take_at (i := 1) 62 (v := ?_) rfl rfl (by kernel_rfl) (by kernel_rfl) (by kernel_rfl) (fun _ _ _ h => h) (by rfl) ?_ hHeld ?_
          rotate_left
          · (intro w hSw; (try dsimp only at hSw); go_simp; try with_reducible rfl)
          simp only [Act.put, List.setIfInBounds_toArray, List.set_cons_zero, List.set_cons_succ]
          refine take_at (i := 2) 63 (v := ?_) rfl rfl (by kernel_rfl) (by kernel_rfl) (by kernel_rfl) (fun _ _ _ h => h) (by rfl) ?_ hHeld ?_
          rotate_left
          · (intro w hSw; (try dsimp only at hSw); go_simp; try with_reducible rfl)
          simp only [Act.put, List.setIfInBounds_toArray, List.set_cons_zero, List.set_cons_succ]
          refine take_at (i := 3) 64 (v := ?_) rfl rfl (by kernel_rfl) (by kernel_rfl) (by kernel_rfl) (fun _ _ _ h => h) (by rfl) ?_ hHeld ?_
          rotate_left
          · (intro w hSw; (try dsimp only at hSw); go_simp; try with_reducible rfl)
          simp only [Act.put, List.setIfInBounds_toArray, List.set_cons_zero, List.set_cons_succ]
          refine take_at (i := 4) 65 (v := ?_) rfl rfl (by kernel_rfl) (by kernel_rfl) (by kernel_rfl) (fun _ _ _ h => h) (by rfl) ?_ hHeld ?_
          rotate_left
          · (intro w hSw; (try dsimp only at hSw); go_simp; try with_reducible rfl)
          simp only [Act.put, List.setIfInBounds_toArray, List.set_cons_zero, List.set_cons_succ]
          refine take_at (i := 5) 66 (v := ?_) rfl rfl (by kernel_rfl) (by kernel_rfl) (by kernel_rfl) (fun _ _ _ h => h) (by rfl) ?_ hHeld ?_
          rotate_left
          · (intro w hSw; (try dsimp only at hSw); go_simp; try with_reducible rfl)
          simp only [Act.put, List.setIfInBounds_toArray, List.set_cons_zero, List.set_cons_succ]
          refine take_at (i := 6) 67 (v := ?_) rfl rfl (by kernel_rfl) (by kernel_rfl) (by kernel_rfl) (fun _ _ _ h => h) (by rfl) ?_ hHeld ?_
          rotate_left
          · (intro w hSw; (try dsimp only at hSw); go_simp; try with_reducible rfl)
          simp only [Act.put, List.setIfInBounds_toArray, List.set_cons_zero, List.set_cons_succ]
          refine take_at (i := 7) 68 (v := ?_) rfl rfl (by kernel_rfl) (by kernel_rfl) (by kernel_rfl) (fun _ _ _ h => h) (by rfl) ?_ hHeld ?_
          rotate_left
          · (intro w hSw; (try dsimp only at hSw); go_simp; try with_reducible rfl)
          simp only [Act.put, List.setIfInBounds_toArray, List.set_cons_zero, List.set_cons_succ]
          refine take_at (i := 8) 69 (v := ?_) rfl rfl (by kernel_rfl) (by kernel_rfl) (by kernel_rfl) (fun _ _ _ h => h) (by rfl) ?_ hHeld ?_
          rotate_left
          · (intro w hSw; (try dsimp only at hSw); go_simp; try with_reducible rfl)
          simp only [Act.put, List.setIfInBounds_toArray, List.set_cons_zero, List.set_cons_succ]
          refine take_at (i := 9) 70 (v := ?_) rfl rfl (by kernel_rfl) (by kernel_rfl) (by kernel_rfl) (fun _ _ _ h => h) (by rfl) ?_ hHeld ?_
          rotate_left
          · (intro w hSw; (try dsimp only at hSw); go_simp; try with_reducible rfl)
          simp only [Act.put, List.setIfInBounds_toArray, List.set_cons_zero, List.set_cons_succ]
          refine take_at (i := 10) 71 (v := ?_) rfl rfl (by kernel_rfl) (by kernel_rfl) (by kernel_rfl) (fun _ _ _ h => h) (by rfl) ?_ hHeld ?_
          rotate_left
          · (intro w hSw; (try dsimp only at hSw); go_simp; try with_reducible rfl)
          simp only [Act.put, List.setIfInBounds_toArray, List.set_cons_zero, List.set_cons_succ]
          refine run_at (i := 11) rfl (by kernel_rfl) (by rfl) (fun K hK => ?_)
          simp only [List.getElem_toArray, List.getElem_cons_zero, List.getElem_cons_succ]
          go_simp
          go_wp2_with fail
          refine hK.out _ _ (by first | exact hB0 | exact hB1 _ | exact hB2 | assumption) ?_
          clear hK K
          intro hHeld2
          clear hHeld
          have hHeld := hHeld2
          clear hHeld2
          try simp only [Act.put, List.setIfInBounds_toArray, List.set_cons_zero, List.set_cons_succ]
          refine take_at (i := 12) 73 (v := ?_) rfl rfl (by kernel_rfl) (by kernel_rfl) (by kernel_rfl) (fun _ _ _ h => h) (by rfl) ?_ hHeld ?_
          rotate_left
          · (intro w hSw; (try dsimp only at hSw); go_simp; try with_reducible rfl)
          simp only [Act.put, List.setIfInBounds_toArray, List.set_cons_zero, List.set_cons_succ]
          refine run_at (i := 13) rfl (by kernel_rfl) (by rfl) (fun K hK => ?_)
          simp only [List.getElem_toArray, List.getElem_cons_zero, List.getElem_cons_succ]
          go_simp
          go_wp2_with fail
          refine hK.out _ _ (by first | exact hB0 | exact hB1 _ | exact hB2 | assumption) ?_
          clear hK K
          intro hHeld2
          clear hHeld
          have hHeld := hHeld2
          clear hHeld2
          try simp only [Act.put, List.setIfInBounds_toArray, List.set_cons_zero, List.set_cons_succ]
          refine wpAnyH_done (by kernel_rfl) ?_ _
          refine NoPanic.normal ?_
          go_wp2
          go_roundw
          case rel => exact ⟨k + 1, _, by omega, rfl, HNX.out, Chg.trans HCG.out HST.out.2 (fun b hb => .inl hb)⟩
          case measure => simp [intOf]; omega
        · have hlti : ¬ (k : Int) < (N : Int) := by omega
          obtain rfl : k = N := by omega
          have HFIN : Hid (Bk W wr kb k D (fun i => [lastI (M i)]) nx c ∧ wr.heap[J]? = some (.cells (bv IM).toArray 5 (0, 0))) := by
            have d8 : DS wr p g m d.flush DV5 c := DK.kept HDS6.out hcg (fun b hb e => by
              subst e
              obtain ⟨cur, h9, -⟩ := BookAt.hm HBK6.out
              exact DK.notT HDS6.out hb farSl h9)
            rw [← HD.out] at d8
            refine ⟨⟨⟨p, g, m, DV5, gm, cap, V', d8, HFT6.out, ⟨hbk.hk, hbk.hm, fun i hi => ?_, hbk.apart, fun i hi => by simp, hbk.bk, hbk.bg⟩⟩, by rw [HD.out]; exact HREL.out.flush, Below.trans HBEL6.out (hcg.below (fun b hb => by rw [hb]; exact hbk.bg) hWb)⟩, ?_⟩
            · have := hbk.rows i hi
              simpa [hi] using this
            · refine (hcg.block J (Array.getElem?_eq_some_iff.1 HRJ.out).1 (fun e => ?_)).trans HRJ.out
              obtain ⟨cur, h9, -⟩ := BookAt.hm HBK6.out
              rw [← e, HRJ.out] at h9
              simp only [Option.some.injEq, Obj.cells.injEq] at h9
              exact absurd h9.2.1 (by decide)
          have HDF : Hid (∀ chs, D.crash chs = D) := fun chs => by rw [HD.out]; exact flush_crash HREL.out.fine chs
          obtain ⟨M9, hM9⟩ : ∃ M9 : Nat → List Int, M9 = fun i => [lastI (M i)] := ⟨_, rfl⟩
          rw [← hM9] at HFIN
          clear hbk hcg hM9 HBKk HCG HBK6 HDS6 HFT6 HBEL6 HRJ HDS HBK HFT HREL HBEL hkw
          go_wp2_with fail
          go_loopw [13] (fun i wq => ∃ y : Nat, y ≤ L2 ∧ i = .int .i64 (y : Int) ∧ Bk W wq kb k D M9 nx c ∧ wq.heap[J]? = some (.cells (bv IM).toArray 5 (0, 0))) (fun i _ => L2 - (intOf i).toNat)
          case atStart => exact ⟨0, Nat.zero_le _, rfl, HFIN.out⟩
          case round =>
            obtain ⟨y, hy, rfl, hbk, hrJ⟩ := hrel
            clear HFIN
            have hy0 : (0 : Int) ≤ (y : Int) := by omega
            have hyw : IntKind.i64.wrap ((y : Int) + 1) = ((y + 1 : Nat) : Int) := by rw [IntKind.wrap_i64]; have := HB2.out; omega
            by_cases hlty : y < L2
            · have hltyi : (y : Int) < (L2 : Int) := by omega
              obtain ⟨b, o, ca, cc, rfl, hcell, hin⟩ := HR2.out y (by rw [← HL2.out]; exact hlty)
              obtain ⟨chs, hchs⟩ : ∃ chs, chs = xs2[y]'(by rw [← HL2.out]; exact hlty) := ⟨_, rfl⟩
              rw [← hchs] at hcell hin
              obtain ⟨p, g, m, DV, gm, cap, V, hds, hft, hbka⟩ := hbk.ex
              have hbel := hbk.bel
              have hcw : ∀ u, Below W.heap.size W u → u.cell? ⟨b, o + y, none⟩ = some (.slice ca chs.length cc) := fun u hu => (hu.cell (p := ⟨b, o + y, none⟩) (World.block_lt_of_cell? W _ hcell)).trans hcell
              have HCR : Hid (∀ u, Below wr.heap.size wr u → Calls Try.prog 15 #[.pointer (some ⟨p, 0, none⟩), .slice ca chs.length cc] u fun e w' => e = .returned (.tuple #[]) ∧ BKq kb p b (o + y) ca chs.length cc w' ∧ Bk W w' kb k D M9 nx c ∧ w'.heap[J]? = some (.cells (bv IM).toArray 5 (0, 0)) ∧ Calls Try.prog 13 #[.pointer (some ⟨p, 0, none⟩)] w' (fun e w'' => e = .returned (.slice (some ⟨w'.heap.size, 0, none⟩) MI MI) ∧ w''.heap[w'.heap.size]? = some (.cells (bv IM).toArray 5 (0, 0)) ∧ Below w'.heap.size w' w'') ∧ (∀ u', Below w'.heap.size w' u' → Calls Try.prog 13 #[.pointer (some ⟨p, 0, none⟩)] u' (fun e w'' => ∃ g9, e = .returned (.slice (some ⟨g9, 0, none⟩) MI MI) ∧ w''.heap[g9]? = some (.cells (bv IM).toArray 5 (0, 0)) ∧ Below u'.heap.size u' w''))) := by
                intro u hu
                have hdu := DK.below hds hu
                have hbu := hbka.below hu
                have hWu : Below W.heap.size W u := below_next hbel hu
                have h9 := crash_all p g m D DV c ca cc chs u hdu (Ints.below hin hWu) (fun h0 q hq => by
                  have h8 := Ints.lt hin h0 q hq
                  have a1 := hft p (.inl rfl)
                  have a2 := hft g (.inr (.inl rfl))
                  have a3 := hft m (.inr (.inr (.inl rfl)))
                  omega)
                rw [HDF.out] at h9
                refine h9.mono ?_
                rintro e w' ⟨rfl, DV', h10, h11⟩
                have h12 := Bk.disk (kb := kb) (N := k) (d' := D) (M := M9) (M' := M9) (nx := nx) (nx' := nx) (c' := c) (gm := gm) (cap := cap) (V := V) hWu hdu hft h11
                have hb9 := BookAt.disk hbu hdu h11
                have hru := (hu.block J (Array.getElem?_eq_some_iff.1 hrJ).1).trans hrJ
                refine ⟨rfl, ⟨hb9.k0, hcw w' h12.2⟩, ⟨⟨p, g, m, DV', gm, cap, V, h10, h12.1, hb9⟩, hbk.rel, h12.2⟩, (h11.chg.block J (Array.getElem?_eq_some_iff.1 hru).1 (fun hf => DK.notT hdu hf far5L hru)).trans hru, ?_, ?_⟩
                · have h13 := image_r p g D.S w' (DK.secAt h10)
                  rw [← HIE.out, ← HMI.out.1] at h13
                  exact h13
                · intro u' hu'
                  have h13 := image_r p g D.S u' (DK.secAt (DK.below h10 hu'))
                  rw [← HIE.out, ← HMI.out.1] at h13
                  exact h13.mono fun e w'' h => ⟨_, h⟩
              have hb1 : ∀ u, BKq kb p b (o + y) ca chs.length cc u → u.cell? ⟨kb, 0, none⟩ = some (.pointer (some ⟨p, 0, none⟩)) := fun u hu => hu.1
              have hb2 : ∀ u, BKq kb p b (o + y) ca chs.length cc u → u.cell? ⟨b, o + y, none⟩ = some (.slice ca chs.length cc) := fun u hu => hu.2
              have hB0 : BKq kb p b (o + y) ca chs.length cc wr.drew := ⟨hbka.k0, hcw wr hbel⟩
              obtain ⟨lc, hlc⟩ : ∃ l : Nat, l = chs.length := ⟨_, rfl⟩
              rw [← hlc] at hb1 hb2 hB0 HCR
              clear hlc hcw hbk hrJ hds hft hbka hbel hchs hcell hin
              go_wp2_with fail
              refine wp_region_noPanic ?_
              refine wp_region_held_drew (S := (fun u => BKq kb p b (o + y) ca lc cc u)) (by kernel_rfl) (by first | exact hB0 | assumption) (fun hHeld => ?_)
              refine take_at (i := 0) 80 (v := ?_) rfl rfl (by kernel_rfl) (by kernel_rfl) (by kernel_rfl) (fun _ _ _ h => h) (by rfl) ?_ hHeld ?_
              rotate_left
              · (intro w hSw; (try dsimp only at hSw); go_simp; try with_reducible rfl)
              simp only [Act.put, List.setIfInBounds_toArray, List.set_cons_zero, List.set_cons_succ]
              refine take_at (i := 1) 81 (v := ?_) rfl rfl (by kernel_rfl) (by kernel_rfl) (by kernel_rfl) (fun _ _ _ h => h) (by rfl) ?_ hHeld ?_
              rotate_left
              · (intro w hSw; (try dsimp only at hSw); go_simp; try with_reducible rfl)
              simp only [Act.put, List.setIfInBounds_toArray, List.set_cons_zero, List.set_cons_succ]
              refine take_at (i := 2) 82 (v := ?_) rfl rfl (by kernel_rfl) (by kernel_rfl) (by kernel_rfl) (fun _ _ _ h => h) (by rfl) ?_ hHeld ?_
              rotate_left
              · (intro w hSw; (try dsimp only at hSw); go_simp; try with_reducible rfl)
              simp only [Act.put, List.setIfInBounds_toArray, List.set_cons_zero, List.set_cons_succ]
              refine take_at (i := 3) 83 (v := ?_) rfl rfl (by kernel_rfl) (by kernel_rfl) (by kernel_rfl) (fun _ _ _ h => h) (by rfl) ?_ hHeld ?_
              rotate_left
              · (intro w hSw; (try dsimp only at hSw); go_simp; try with_reducible rfl)
              simp only [Act.put, List.setIfInBounds_toArray, List.set_cons_zero, List.set_cons_succ]
              refine take_at (i := 4) 84 (v := ?_) rfl rfl (by kernel_rfl) (by kernel_rfl) (by kernel_rfl) (fun _ _ _ h => h) (by rfl) ?_ hHeld ?_
              rotate_left
              · (intro w hSw; (try dsimp only at hSw); go_simp; try with_reducible rfl)
              simp only [Act.put, List.setIfInBounds_toArray, List.set_cons_zero, List.set_cons_succ]
              refine take_at (i := 5) 85 (v := ?_) rfl rfl (by kernel_rfl) (by kernel_rfl) (by kernel_rfl) (fun _ _ _ h => h) (by rfl) ?_ hHeld ?_
              rotate_left
              · (intro w hSw; (try dsimp only at hSw); go_simp; try with_reducible rfl)
              simp only [Act.put, List.setIfInBounds_toArray, List.set_cons_zero, List.set_cons_succ]
              refine take_at (i := 6) 86 (v := ?_) rfl rfl (by kernel_rfl) (by kernel_rfl) (by kernel_rfl) (fun _ _ _ h => h) (by rfl) ?_ hHeld ?_
              rotate_left
              · (intro w hSw; (try dsimp only at hSw); go_simp; try with_reducible rfl)
              simp only [Act.put, List.setIfInBounds_toArray, List.set_cons_zero, List.set_cons_succ]
              refine take_at (i := 7) 87 (v := ?_) rfl rfl (by kernel_rfl) (by kernel_rfl) (by kernel_rfl) (fun _ _ _ h => h) (by rfl) ?_ hHeld ?_
              rotate_left
              · (intro w hSw; (try dsimp only at hSw); go_simp; try with_reducible rfl)
              simp only [Act.put, List.setIfInBounds_toArray, List.set_cons_zero, List.set_cons_succ]
              refine run_at (i := 8) rfl (by kernel_rfl) (by rfl) (fun K hK => ?_)
              simp only [List.getElem_toArray, List.getElem_cons_zero, List.getElem_cons_succ]
              go_simp
              (go_at_call 15; refine (HCR.out _ (Below.refl _ _).drew).mono ?_; rintro e w7 ⟨rfl, hB7, hbk7, hr7, -, him7⟩; have HBK7 : Hid _ := hbk7; have HR7 : Hid _ := hr7; have HI7 : Hid _ := him7; have k07 := hB7.1; clear hbk7 hr7 him7)
              go_wp2_with fail
              refine hK.out _ _ (by first | exact hB0 | assumption) ?_
              clear hK K
              intro hHeld2
              clear hHeld
              have hHeld := hHeld2
              clear hHeld2
              try simp only [Act.put, List.setIfInBounds_toArray, List.set_cons_zero, List.set_cons_succ]
              refine wpAnyH_done (by kernel_rfl) ?_ _
              refine NoPanic.normal ?_
              have HPR : Hid _ := bpresent_t HBK7.out (by omega)
              clear hB0 hB7 hb1 hb2 HCR
              go_wp2_with fail
              refine Calls.mono HPR.out ?_
              rintro e w8 ⟨rfl, hb8⟩
              have k08 : w8.cell? ⟨kb, 0, none⟩ = some (.pointer (some ⟨p, 0, none⟩)) := (hb8.cell (p := ⟨kb, 0, none⟩) (World.block_lt_of_cell? w7 _ k07)).trans k07
              have HI8 : Hid _ := HI7.out w8 hb8
              have HBK8 : Hid _ := Bk.below HBK7.out hb8
              have HR8 : Hid (w8.heap[J]? = some (.cells (bv IM).toArray 5 (0, 0))) := (hb8.block J (Array.getElem?_eq_some_iff.1 HR7.out).1).trans HR7.out
              clear hb8 HPR k07 HBK7 HR7 HI7
              go_wp2_with fail
              refine Calls.mono HI8.out ?_
              rintro e w9 ⟨g9, rfl, hr9, hb9⟩
              have HR9 : Hid (w9.heap[J]? = some (.cells (bv IM).toArray 5 (0, 0))) := (hb9.block J (Array.getElem?_eq_some_iff.1 HR8.out).1).trans HR8.out
              have HBY : Hid (Calls Try.prog 20 #[.slice (some ⟨g9, 0, none⟩) MI MI, .slice (some ⟨J, 0, none⟩) MI MI] w9 fun e w' => e = .returned (.bool true) ∧ Below w9.heap.size w9 w') := by
                have h9 := byt_n (some ⟨g9, 0, none⟩) (some ⟨J, 0, none⟩) MI MI MI MI IM IM w9 HMI.out.1 HMI.out.1 (rd_row hr9) (rd_row HR9.out) (by rw [← HMI.out.1]; exact HMI.out.2) (by rw [← HMI.out.1]; exact HMI.out.2)
                rw [beq_self_eq_true] at h9
                exact h9
              have HBK9 : Hid _ := Bk.below HBK8.out hb9
              clear hr9 hb9 HI8 HBK8 HR8
              go_wp2_with fail
              refine HBY.out.mono ?_
              rintro e w10 ⟨rfl, hb10⟩
              have HR10 : Hid (w10.heap[J]? = some (.cells (bv IM).toArray 5 (0, 0))) := (hb10.block J (Array.getElem?_eq_some_iff.1 HR9.out).1).trans HR9.out
              have HBK10 : Hid _ := Bk.below HBK9.out hb10
              clear hb10 HBY
              go_wp2
              go_roundw
              case rel => exact ⟨y + 1, by omega, rfl, HBK10.out, HR10.out⟩
              case measure => simp [intOf]; omega
            · have hltyi : ¬ (y : Int) < (L2 : Int) := by omega
              have HBL : Hid _ := hbk.bel
              clear hbk hrJ
              go_wp2
              go_ret
              exact ⟨rfl, HBL.out⟩
end Go.Proofs.Ytgdkiejlggiakab
