import Derived.Test.YtgdkiejlggiakacRPut
namespace Go.Proofs.Ytgdkiejlggiakac
set_option linter.unusedVariables false
set_option linter.unusedSimpArgs false
open Go.RowKit Go.Maps
/-- what the document's Load answers -/
def RLoadOut (w : World) (e : Ending) (w' : World) : Option (List Sec) → Prop
  | none => e = .returned (.tuple #[.pointer none, .int .i64 1]) ∧ Below w.heap.size w w'
  | some S => ∃ rp gs VT Fp, e = .returned (.tuple #[.pointer (some ⟨rp, 0, none⟩), .int .i64 0]) ∧ RDk w' rp gs S.length ⟨S, fun _ => [], false, -1⟩ VT (fun _ => nilS) (fun _ => []) Fp ∧ (∀ b, Fp b → w.heap.size ≤ b) ∧ Below w.heap.size w w'
theorem size_by (u : World) : (sizeOf (Try.prog.elem 40)).run Try.prog u = .ok 1 u := by kernel_rfl
theorem sub_bytes (b o n cap lo hi : Nat) (h1 : lo ≤ hi) (h2 : hi ≤ cap) (h3 : lo < cap) (u : World) : (Instr.slice 40 (.slice (some ⟨b, o, none⟩) n cap) (some (.int .i64 (lo : Int))) (some (.int .i64 (hi : Int))) none).run Try.prog u = .ok (.slice (some ⟨b, o + lo, none⟩) (hi - lo) (cap - lo)) u := by
  rw [run_slice_lh u 40 (some ⟨b, o, none⟩) n cap (by kernel_rfl) .i64 .i64 (lo : Int) (hi : Int) (by omega) (by omega) (by omega), size_by]
  simp only [Result.andThen, sliced, Int.toNat_natCast]
  rw [if_neg (by omega)]
  simp [Go.WideShapes.add_plain]
theorem sub_from1 (b o n cap : Nat) (h1 : 1 ≤ n) (h2 : 1 < cap) (u : World) : (Instr.slice 40 (.slice (some ⟨b, o, none⟩) n cap) (some (.int .i64 1)) none none).run Try.prog u = .ok (.slice (some ⟨b, o + 1, none⟩) (n - 1) (cap - 1)) u := by
  rw [run_slice_l u 40 (some ⟨b, o, none⟩) n cap (by kernel_rfl) .i64 1 (by omega) (by omega), size_by]
  simp only [Result.andThen, sliced]
  rw [if_neg (by simp; omega)]
  simp [Go.WideShapes.add_plain]
theorem all_zero {T : List UInt8} (h : T.length = 128) (ha : T.all (· == 0) = true) : T = List.replicate 128 0 := by
  rw [List.eq_replicate_iff]
  exact ⟨h, fun x hx => by simpa using List.all_eq_true.1 ha x hx⟩
def BRl (rp gs n b o : Nat) (x : Int) (u : World) : Prop := u.cell? ⟨rp, 0, none⟩ = some (.slice (some ⟨gs, 0, none⟩) n n) ∧ u.cell? ⟨b, o, none⟩ = some (.int .u8 x)
def BRt (rp gs n : Nat) (u : World) : Prop := u.cell? ⟨rp, 0, none⟩ = some (.slice (some ⟨gs, 0, none⟩) n n)
set_option maxRecDepth 20000 in
set_option maxHeartbeats 1600000 in
theorem rload_t (ao : Option Addr) (cap : Nat) (xs : List UInt8) (w : World) (hx : Rd w ao xs) (hc : xs.length ≤ cap) (hm : xs.length ≤ 140737488355328) :
    Calls Try.prog 45 #[.slice ao xs.length cap] w fun e w' => RLoadOut w e w' (loadS xs) := by
  obtain ⟨n, hn⟩ : ∃ n : Nat, n = xs.length / 129 := ⟨_, rfl⟩
  obtain ⟨L, hL⟩ : ∃ L : Nat, L = xs.length := ⟨_, rfl⟩
  have hdv : (L : Int).tdiv 129 = (n : Int) := by rw [hL, hn]; exact tdiv129 _
  have hdw : IntKind.i64.wrap (n : Int) = (n : Int) := by rw [IntKind.wrap_i64]; omega
  have HX : Hid _ := hx
  have HL : Hid (L = xs.length ∧ L ≤ cap ∧ L ≤ 140737488355328 ∧ n = xs.length / 129) := ⟨hL, by omega, by omega, hn⟩
  rw [← hL]
  clear hx hc hm
  by_cases a1 : n < 1
  · have e : loadS xs = none := by unfold loadS; rw [if_neg (by omega)]
    rw [e]
    have a1i : (n : Int) < 1 := by omega
    clear e hn hL
    go_enter Try.func45, Try.ntmps45
    go_wp2
    go_ret2
    exact ⟨rfl, Below.refl _ _⟩
  · have a1i : ¬ (n : Int) < 1 := by omega
    by_cases a2 : 65536 < n
    · have e : loadS xs = none := by unfold loadS; rw [if_neg (by omega)]
      rw [e]
      have a2i : (65536 : Int) < (n : Int) := by omega
      clear e hn hL
      go_enter Try.func45, Try.ntmps45
      go_wp2
      go_ret2
      exact ⟨rfl, Below.refl _ _⟩
    · have a2i : ¬ (65536 : Int) < (n : Int) := by omega
      obtain ⟨K, hK⟩ : ∃ K : Nat, K = n * 129 := ⟨_, rfl⟩
      have hKw : IntKind.i64.wrap ((n : Int) * 129) = (K : Int) := by rw [IntKind.wrap_i64]; omega
      by_cases a3 : L = K
      case neg =>
        have e : loadS xs = none := by unfold loadS; rw [if_neg (by omega)]
        rw [e]
        have a3i : ¬ (L : Int) = (K : Int) := by omega
        have a3b : ((L : Int) == (K : Int)) = false := by simpa using a3i
        clear e hn hL hK
        go_enter Try.func45, Try.ntmps45
        go_wp2
        go_ret2
        exact ⟨rfl, Below.refl _ _⟩
      case pos =>
        subst a3
        have hmk := make_rsecs n (by omega)
        have HS : Hid (∀ k, k ≤ n → lall xs k = false → loadS xs = none) := fun k hk hf => by
          unfold loadS
          rw [if_neg]
          rintro ⟨-, -, -, h9⟩
          rw [← hn, lall_le hk hf] at h9
          cases h9
        have HT : Hid (lall xs n = true → loadS xs = some (lsecs xs n)) := fun h9 => by
          unfold loadS
          rw [if_pos ⟨by omega, by omega, by omega, by rw [← hn]; exact h9⟩, ← hn]
        obtain ⟨w1, hw1⟩ : ∃ w1 : World, w1 = rnewW w n := ⟨_, rfl⟩
        have hrd0 := rnewW_at w n (by omega) (by omega)
        have hb0 := rnewW_below w n
        rw [← hw1] at hrd0 hb0
        obtain ⟨rp, hrp⟩ : ∃ r : Nat, r = w.heap.size + 1 := ⟨_, rfl⟩
        obtain ⟨gs, hgs⟩ : ∃ g : Nat, g = w.heap.size := ⟨_, rfl⟩
        rw [← hrp, ← hgs] at hrd0
        have HR0 : Hid _ := hrd0
        have HB0 : Hid _ := hb0
        have HFP : Hid (∀ b, (b = gs ∨ b = rp) → w.heap.size ≤ b) := fun b hb => by omega
        have HKN : Hid (L = n * 129) := hK
        unfold rnewW at hw1
        clear hn hL hK hrd0 hb0
        go_enter Try.func45, Try.ntmps45
        go_wp2_with fail
        rw [← hw1, ← hrp]
        clear hw1 hrp hgs hmk
        go_loopw [6, 7, 8] (fun i _ _ wr => ∃ (k : Nat) (VT : Nat → Value) (Fp : Nat → Prop), k ≤ n ∧ i = .int .i64 (k : Int) ∧ lall xs k = true ∧ RDk wr rp gs n ⟨lmk xs n k, fun _ => [], false, -1⟩ VT (fun _ => nilS) (fun _ => []) Fp ∧ (∀ j, k ≤ j → VT j = nilS) ∧ (∀ b, Fp b → w.heap.size ≤ b) ∧ Below w.heap.size w wr) (fun i _ _ _ => n - (intOf i).toNat)
        case atStart => exact ⟨0, _, _, Nat.zero_le _, rfl, rfl, by rw [lmk_none]; exact HR0.out, fun _ _ => rfl, HFP.out, HB0.out⟩
        case round =>
          obtain ⟨k, VT, Fp, hk, rfl, hal, hrd, hvt, hfp, hbw⟩ := hrel
          have c0 := hrd.c0
          have HRD : Hid _ := hrd
          have HAL : Hid _ := hal
          have HVT : Hid _ := hvt
          have HFPk : Hid _ := hfp
          have HBW : Hid _ := hbw
          clear HR0 HB0 hrd hal hvt hfp
          have hkw : IntKind.i64.wrap ((k : Int) + 1) = ((k + 1 : Nat) : Int) := by rw [IntKind.wrap_i64]; omega
          by_cases hlt : k < n
          · have hlti : (k : Int) < (n : Int) := by omega
            have hk0 : (0 : Int) ≤ (k : Int) := by omega
            obtain ⟨lo, hlo⟩ : ∃ l : Nat, l = k * 129 := ⟨_, rfl⟩
            obtain ⟨hi, hhi⟩ : ∃ l : Nat, l = (k + 1) * 129 := ⟨_, rfl⟩
            obtain ⟨k1, hk1⟩ : ∃ l : Nat, l = k + 1 := ⟨_, rfl⟩
            have hlow : IntKind.i64.wrap ((k : Int) * 129) = (lo : Int) := by rw [IntKind.wrap_i64]; omega
            have hk1w : IntKind.i64.wrap ((k : Int) + 1) = (k1 : Int) := by rw [IntKind.wrap_i64]; omega
            have hhiw : IntKind.i64.wrap ((k1 : Int) * 129) = (hi : Int) := by rw [IntKind.wrap_i64]; omega
            have HK1 : Hid _ := hk1
            have hLL := HL.out
            have hKN := HKN.out
            clear hkw
            have hin : lo + 129 ≤ xs.length := by omega
            obtain ⟨b, o, rfl, hcl⟩ := HX.out (by omega)
            obtain ⟨C, hC⟩ : ∃ C : Nat, C = cap - lo := ⟨_, rfl⟩
            have hsl : ∀ u, (Instr.slice 40 (.slice (some ⟨b, o, none⟩) L cap) (some (.int .i64 (lo : Int))) (some (.int .i64 (hi : Int))) none).run Try.prog u = .ok (.slice (some ⟨b, o + lo, none⟩) 129 C) u := fun u => by
              have h9 := sub_bytes b o L cap lo hi (by omega) (by omega) (by omega) u
              rw [show hi - lo = 129 by omega, ← hC] at h9
              exact h9
            have hsl1 : ∀ u, (Instr.slice 40 (.slice (some ⟨b, o + lo, none⟩) 129 C) (some (.int .i64 1)) none none).run Try.prog u = .ok (.slice (some ⟨b, o + lo + 1, none⟩) 128 (C - 1)) u := fun u => by
              have h9 := sub_from1 b (o + lo) 129 C (by omega) (by omega) u
              exact h9
            obtain ⟨T, hT⟩ : ∃ T, T = ltext xs k := ⟨_, rfl⟩
            have hTl : T.length = 128 := by rw [hT]; exact ltext_len xs k (by omega)
            have HTR : Hid (Rd w (some ⟨b, o + lo + 1, none⟩) T) := by
              rw [hT, hlo, Nat.add_assoc]
              exact Rd.sub HX.out (k * 129 + 1) 128
            obtain ⟨x, hxv⟩ : ∃ x : UInt8, x = xs.getD (k * 129) 0 := ⟨_, rfl⟩
            have hcx : w.cell? ⟨b, o + lo, none⟩ = some (.int .u8 (x.toNat : Int)) := by
              have h9 := hcl lo (by omega)
              rw [h9, hxv, ← hlo]
              simp [List.getElem?_eq_getElem (show lo < xs.length by omega)]
            have hbl : b < w.heap.size := World.block_lt_of_cell? w _ hcx
            have hcw : ∀ u, Below w.heap.size w u → u.cell? ⟨b, o + lo, none⟩ = some (.int .u8 (x.toNat : Int)) := fun u hu => (hu.cell (p := ⟨b, o + lo, none⟩) hbl).trans hcx
            have hcr := hcw wr HBW.out
            obtain ⟨bk, hbk⟩ : ∃ bk : Bool, bk = T.all (· == 0) := ⟨_, rfl⟩
            have HON : Hid (∀ u, Below w.heap.size w u → Calls Try.prog 73 #[.slice (some ⟨b, o + lo + 1, none⟩) 128 (C - 1)] u fun e w' => e = .returned (.bool bk) ∧ w' = u) := fun u hu => by rw [hbk]; exact only_t _ 128 _ T u hTl.symm (Rd.below HTR.out hu) (by decide)
            have HLK : Hid (lok xs k = goodRow x T) := by unfold Hid lok; rw [hxv, hT]
            have HSC : Hid (lsec xs k = ⟨T, x == 1⟩) := by unfold Hid lsec; rw [hxv, hT]
            have HBK : Hid _ := hbk
            have HTL : Hid _ := hTl
            clear hlo hhi hk1 hLL hKN hin hcl hC hT hxv hcx hTl hbk
            obtain ⟨z, hz⟩ : ∃ z : Int, z = (x.toNat : Int) := ⟨_, rfl⟩
            rw [← hz] at hcr hcw
            have HZX : Hid _ := hz
            have hz0 : 0 ≤ z := by omega
            clear hz
            have s1 := HRD.out.s1 k hlt
            have s0 := HRD.out.s0 k hlt
            obtain ⟨cur, hcur, -⟩ := HRD.out.hs
            have hf1 := frozen_of_row wr gs (k * 3 + 1) _ _ hcur
            have hbr1 : ∀ u, BRl rp gs n b (o + lo) z u → u.cell? ⟨rp, 0, none⟩ = some (.slice (some ⟨gs, 0, none⟩) n n) := fun u hu => hu.1
            have hbr2 : ∀ u, BRl rp gs n b (o + lo) z u → u.cell? ⟨b, o + lo, none⟩ = some (.int .u8 z) := fun u hu => hu.2
            have HBAD : Hid (lok xs k = false → loadS xs = none) := fun h9 => HS.out (k + 1) (by omega) (by rw [lall_succ, h9, Bool.and_false])
            have HGW : Hid (w.heap.size ≤ gs) := HFPk.out gs HRD.out.fgs
            clear hcur
            have hONr := HON.out wr HBW.out
            have HONR : Hid _ := hONr
            clear hONr
            by_cases z1 : 1 < z
            · have HNO : Hid (loadS xs = none) := HBAD.out (by
                rw [HLK.out]
                unfold goodRow
                have h1 : x.toNat ≠ 0 := by have := HZX.out; omega
                have h2 : x.toNat ≠ 1 := by have := HZX.out; omega
                have e1 : (x == 0) = false := by simpa using fun e : x = 0 => h1 (by rw [e]; rfl)
                have e2 : (x == 1) = false := by simpa using fun e : x = 1 => h2 (by rw [e]; rfl)
                rw [e1, e2]
                rfl)
              go_wp2_with fail
              refine Calls.mono HONR.out ?_
              rintro e w3 ⟨rfl, hq⟩
              have hq := hq.symm
              subst hq
              go_wp2
              go_ret2
              rw [HNO.out]
              exact ⟨rfl, HBW.out⟩
            · by_cases z2 : z = 1
              · subst z2
                have hx1 : x = 1 := UInt8.toNat_inj.1 (by have := HZX.out; simp; omega)
                cases hbk : bk
                · rw [hbk] at HBK HONR
                  have HNO : Hid (loadS xs = none) := HBAD.out (by
                    rw [HLK.out, hx1]
                    unfold goodRow
                    rw [← HBK.out]
                    rfl)
                  go_wp2_with fail
                  refine Calls.mono HONR.out ?_
                  rintro e w3 ⟨rfl, hq⟩
                  have hq := hq.symm
                  subst hq
                  go_wp2
                  go_ret2
                  rw [HNO.out]
                  exact ⟨rfl, HBW.out⟩
                · rw [hbk] at HBK HONR
                  have hT0 : T = List.replicate 128 0 := all_zero HTL.out HBK.out.symm
                  have HSB : Hid _ := RDk.setBad HRD.out k hlt true (HVT.out k (Nat.le_refl _))
                  have HCB : Hid ((wr.setCell ⟨gs, k * 3 + 1, none⟩ (.bool true)).cell? ⟨b, o + lo, none⟩ = some (.int .u8 1)) := by
                    unfold Hid
                    rw [← hcr]
                    exact World.cell?_of_block ((set_chg wr gs (k * 3 + 1) (.bool true)).block b (Nat.lt_of_lt_of_le hbl (Below.size HBW.out)) (fun e => by have := HGW.out; omega))
                  have HOK : Hid (lall xs (k + 1) = true) := by
                    unfold Hid
                    rw [lall_succ, HAL.out, HLK.out, hx1]
                    unfold goodRow
                    rw [← HBK.out]
                    rfl
                  have HEQ : Hid ((lmk xs n k).set k ⟨List.replicate 128 0, true⟩ = lmk xs n (k + 1)) := by
                    unfold Hid
                    rw [← lmk_set xs n k hlt, HSC.out, hT0, hx1]
                    rfl
                  clear hbk hT0 hx1
                  go_wp2_with fail
                  refine Calls.mono HONR.out ?_
                  rintro e w3 ⟨rfl, hq⟩
                  have hq := hq.symm
                  subst hq
                  go_wp2_with fail
                  have hB0 : BRl rp gs n b (o + lo) 1 wr.drew := ⟨c0, hcr⟩
                  have hB1 : BRl rp gs n b (o + lo) 1 (wr.setCell ⟨gs, k * 3 + 1, none⟩ (.bool true)).drew := ⟨HSB.out.c0, HCB.out⟩
                  have hB2 : BRl rp gs n b (o + lo) 1 (wr.setCell ⟨gs, k * 3 + 1, none⟩ (.bool true)) := ⟨HSB.out.c0, HCB.out⟩
                  refine wp_region_noPanic ?_
                  refine wp_region_held_drew (S := (fun u => BRl rp gs n b (o + lo) 1 u)) (by kernel_rfl) (by first | exact hB0 | exact hB1 | exact hB2 | assumption) (fun hHeld => ?_)
                  refine take_at (i := 0) 58 (v := ?_) rfl rfl (by kernel_rfl) (by kernel_rfl) (by kernel_rfl) (fun _ _ _ h => h) (by rfl) ?_ hHeld ?_
                  rotate_left
                  · (intro w hSw; (try dsimp only at hSw); go_simp; try with_reducible rfl)
                  simp only [Act.put, List.setIfInBounds_toArray, List.set_cons_zero, List.set_cons_succ]
                  refine take_at (i := 1) 59 (v := ?_) rfl rfl (by kernel_rfl) (by kernel_rfl) (by kernel_rfl) (fun _ _ _ h => h) (by rfl) ?_ hHeld ?_
                  rotate_left
                  · (intro w hSw; (try dsimp only at hSw); go_simp; try with_reducible rfl)
                  simp only [Act.put, List.setIfInBounds_toArray, List.set_cons_zero, List.set_cons_succ]
                  refine take_at (i := 2) 60 (v := ?_) rfl rfl (by kernel_rfl) (by kernel_rfl) (by kernel_rfl) (fun _ _ _ h => h) (by rfl) ?_ hHeld ?_
                  rotate_left
                  · (intro w hSw; (try dsimp only at hSw); go_simp; try with_reducible rfl)
                  simp only [Act.put, List.setIfInBounds_toArray, List.set_cons_zero, List.set_cons_succ]
                  refine take_at (i := 3) 61 (v := ?_) rfl rfl (by kernel_rfl) (by kernel_rfl) (by kernel_rfl) (fun _ _ _ h => h) (by rfl) ?_ hHeld ?_
                  rotate_left
                  · (intro w hSw; (try dsimp only at hSw); go_simp; try with_reducible rfl)
                  simp only [Act.put, List.setIfInBounds_toArray, List.set_cons_zero, List.set_cons_succ]
                  refine take_at (i := 4) 62 (v := ?_) rfl rfl (by kernel_rfl) (by kernel_rfl) (by kernel_rfl) (fun _ _ _ h => h) (by rfl) ?_ hHeld ?_
                  rotate_left
                  · (intro w hSw; (try dsimp only at hSw); go_simp; try with_reducible rfl)
                  simp only [Act.put, List.setIfInBounds_toArray, List.set_cons_zero, List.set_cons_succ]
                  refine take_at (i := 5) 63 (v := ?_) rfl rfl (by kernel_rfl) (by kernel_rfl) (by kernel_rfl) (fun _ _ _ h => h) (by rfl) ?_ hHeld ?_
                  rotate_left
                  · (intro w hSw; (try dsimp only at hSw); go_simp; try with_reducible rfl)
                  simp only [Act.put, List.setIfInBounds_toArray, List.set_cons_zero, List.set_cons_succ]
                  refine take_at (i := 6) 64 (v := ?_) rfl rfl (by kernel_rfl) (by kernel_rfl) (by kernel_rfl) (fun _ _ _ h => h) (by rfl) ?_ hHeld ?_
                  rotate_left
                  · (intro w hSw; (try dsimp only at hSw); go_simp; try with_reducible rfl)
                  simp only [Act.put, List.setIfInBounds_toArray, List.set_cons_zero, List.set_cons_succ]
                  refine take_at (i := 7) 65 (v := ?_) rfl rfl (by kernel_rfl) (by kernel_rfl) (by kernel_rfl) (fun _ _ _ h => h) (by rfl) ?_ hHeld ?_
                  rotate_left
                  · (intro w hSw; (try dsimp only at hSw); go_simp; try with_reducible rfl)
                  simp only [Act.put, List.setIfInBounds_toArray, List.set_cons_zero, List.set_cons_succ]
                  refine take_at (i := 8) 66 (v := ?_) rfl rfl (by kernel_rfl) (by kernel_rfl) (by kernel_rfl) (fun _ _ _ h => h) (by rfl) ?_ hHeld ?_
                  rotate_left
                  · (intro w hSw; (try dsimp only at hSw); go_simp; try with_reducible rfl)
                  simp only [Act.put, List.setIfInBounds_toArray, List.set_cons_zero, List.set_cons_succ]
                  refine take_at (i := 9) 67 (v := ?_) rfl rfl (by kernel_rfl) (by kernel_rfl) (by kernel_rfl) (fun _ _ _ h => h) (by rfl) ?_ hHeld ?_
                  rotate_left
                  · (intro w hSw; (try dsimp only at hSw); go_simp; try with_reducible rfl)
                  simp only [Act.put, List.setIfInBounds_toArray, List.set_cons_zero, List.set_cons_succ]
                  refine take_at (i := 10) 68 (v := ?_) rfl rfl (by kernel_rfl) (by kernel_rfl) (by kernel_rfl) (fun _ _ _ h => h) (by rfl) ?_ hHeld ?_
                  rotate_left
                  · (intro w hSw; (try dsimp only at hSw); go_simp; try with_reducible rfl)
                  simp only [Act.put, List.setIfInBounds_toArray, List.set_cons_zero, List.set_cons_succ]
                  refine run_at (i := 11) rfl (by kernel_rfl) (by rfl) (fun K hK => ?_)
                  simp only [List.getElem_toArray, List.getElem_cons_zero, List.getElem_cons_succ]
                  go_simp
                  go_wp2_with fail
                  refine hK.out _ _ (by first | exact hB0 | exact hB1 | exact hB2 | assumption) ?_
                  clear hK K
                  intro hHeld2
                  clear hHeld
                  have hHeld := hHeld2
                  clear hHeld2
                  try simp only [Act.put, List.setIfInBounds_toArray, List.set_cons_zero, List.set_cons_succ]
                  refine wpAnyH_done (by kernel_rfl) ?_ _
                  refine NoPanic.normal ?_
                  clear hB0 hB1 hB2
                  go_wp2
                  go_roundw
                  case rel =>
                    refine ⟨k + 1, VT, Fp, by omega, by rw [HK1.out], HOK.out, ?_, fun j hj => HVT.out j (by omega), HFPk.out, ?_⟩
                    · have h9 := HSB.out
                      simp only [HEQ.out] at h9
                      exact RDk.below h9 (Below.refl _ _).drew
                    · exact (Below.trans HBW.out ((set_chg wr gs (k * 3 + 1) (.bool true)).below (fun b hb => by rw [hb]; exact HGW.out) (Below.size HBW.out))).drew
                  case measure => have := HK1.out; simp [intOf]; omega
              · obtain rfl : z = 0 := by omega
                have hx0 : x = 0 := UInt8.toNat_inj.1 (by have := HZX.out; simp; omega)
                have HSB : Hid _ := RDk.setBad HRD.out k hlt false (HVT.out k (Nat.le_refl _))
                have HCB : Hid ((wr.setCell ⟨gs, k * 3 + 1, none⟩ (.bool false)).cell? ⟨b, o + lo, none⟩ = some (.int .u8 0)) := by
                  unfold Hid
                  rw [← hcr]
                  exact World.cell?_of_block ((set_chg wr gs (k * 3 + 1) (.bool false)).block b (Nat.lt_of_lt_of_le hbl (Below.size HBW.out)) (fun e => by have := HGW.out; omega))
                have HOK : Hid (lall xs (k + 1) = true) := by
                  unfold Hid
                  rw [lall_succ, HAL.out, HLK.out, hx0]
                  rfl
                have HBS : Hid (Below w.heap.size w (wr.setCell ⟨gs, k * 3 + 1, none⟩ (.bool false)).drew) := (Below.trans HBW.out ((set_chg wr gs (k * 3 + 1) (.bool false)).below (fun b hb => by rw [hb]; exact HGW.out) (Below.size HBW.out))).drew
                cases hbk : bk
                · rw [hbk] at HBK HONR
                  have HEQ : Hid (((lmk xs n k).set k ⟨List.replicate 128 0, false⟩).set k ⟨T, false⟩ = lmk xs n (k + 1)) := by
                    unfold Hid
                    rw [List.set_set, ← lmk_set xs n k hlt, HSC.out, hx0]
                    rfl
                  clear hbk hx0
                  go_wp2_with fail
                  refine Calls.mono HONR.out ?_
                  rintro e w3 ⟨rfl, hq⟩
                  have hq := hq.symm
                  subst hq
                  go_wp2_with fail
                  have hB0 : BRl rp gs n b (o + lo) 0 wr.drew := ⟨c0, hcr⟩
                  have hB1 : BRl rp gs n b (o + lo) 0 (wr.setCell ⟨gs, k * 3 + 1, none⟩ (.bool false)).drew := ⟨HSB.out.c0, HCB.out⟩
                  have hB2 : BRl rp gs n b (o + lo) 0 (wr.setCell ⟨gs, k * 3 + 1, none⟩ (.bool false)) := ⟨HSB.out.c0, HCB.out⟩
                  refine wp_region_noPanic ?_
                  refine wp_region_held_drew (S := (fun u => BRl rp gs n b (o + lo) 0 u)) (by kernel_rfl) (by first | exact hB0 | exact hB1 | exact hB2 | assumption) (fun hHeld => ?_)
                  refine take_at (i := 0) 58 (v := ?_) rfl rfl (by kernel_rfl) (by kernel_rfl) (by kernel_rfl) (fun _ _ _ h => h) (by rfl) ?_ hHeld ?_
                  rotate_left
                  · (intro w hSw; (try dsimp only at hSw); go_simp; try with_reducible rfl)
                  simp only [Act.put, List.setIfInBounds_toArray, List.set_cons_zero, List.set_cons_succ]
                  refine take_at (i := 1) 59 (v := ?_) rfl rfl (by kernel_rfl) (by kernel_rfl) (by kernel_rfl) (fun _ _ _ h => h) (by rfl) ?_ hHeld ?_
                  rotate_left
                  · (intro w hSw; (try dsimp only at hSw); go_simp; try with_reducible rfl)
                  simp only [Act.put, List.setIfInBounds_toArray, List.set_cons_zero, List.set_cons_succ]
                  refine take_at (i := 2) 60 (v := ?_) rfl rfl (by kernel_rfl) (by kernel_rfl) (by kernel_rfl) (fun _ _ _ h => h) (by rfl) ?_ hHeld ?_
                  rotate_left
                  · (intro w hSw; (try dsimp only at hSw); go_simp; try with_reducible rfl)
                  simp only [Act.put, List.setIfInBounds_toArray, List.set_cons_zero, List.set_cons_succ]
                  refine take_at (i := 3) 61 (v := ?_) rfl rfl (by kernel_rfl) (by kernel_rfl) (by kernel_rfl) (fun _ _ _ h => h) (by rfl) ?_ hHeld ?_
                  rotate_left
                  · (intro w hSw; (try dsimp only at hSw); go_simp; try with_reducible rfl)
                  simp only [Act.put, List.setIfInBounds_toArray, List.set_cons_zero, List.set_cons_succ]
                  refine take_at (i := 4) 62 (v := ?_) rfl rfl (by kernel_rfl) (by kernel_rfl) (by kernel_rfl) (fun _ _ _ h => h) (by rfl) ?_ hHeld ?_
                  rotate_left
                  · (intro w hSw; (try dsimp only at hSw); go_simp; try with_reducible rfl)
                  simp only [Act.put, List.setIfInBounds_toArray, List.set_cons_zero, List.set_cons_succ]
                  refine take_at (i := 5) 63 (v := ?_) rfl rfl (by kernel_rfl) (by kernel_rfl) (by kernel_rfl) (fun _ _ _ h => h) (by rfl) ?_ hHeld ?_
                  rotate_left
                  · (intro w hSw; (try dsimp only at hSw); go_simp; try with_reducible rfl)
                  simp only [Act.put, List.setIfInBounds_toArray, List.set_cons_zero, List.set_cons_succ]
                  refine take_at (i := 6) 64 (v := ?_) rfl rfl (by kernel_rfl) (by kernel_rfl) (by kernel_rfl) (fun _ _ _ h => h) (by rfl) ?_ hHeld ?_
                  rotate_left
                  · (intro w hSw; (try dsimp only at hSw); go_simp; try with_reducible rfl)
                  simp only [Act.put, List.setIfInBounds_toArray, List.set_cons_zero, List.set_cons_succ]
                  refine take_at (i := 7) 65 (v := ?_) rfl rfl (by kernel_rfl) (by kernel_rfl) (by kernel_rfl) (fun _ _ _ h => h) (by rfl) ?_ hHeld ?_
                  rotate_left
                  · (intro w hSw; (try dsimp only at hSw); go_simp; try with_reducible rfl)
                  simp only [Act.put, List.setIfInBounds_toArray, List.set_cons_zero, List.set_cons_succ]
                  refine take_at (i := 8) 66 (v := ?_) rfl rfl (by kernel_rfl) (by kernel_rfl) (by kernel_rfl) (fun _ _ _ h => h) (by rfl) ?_ hHeld ?_
                  rotate_left
                  · (intro w hSw; (try dsimp only at hSw); go_simp; try with_reducible rfl)
                  simp only [Act.put, List.setIfInBounds_toArray, List.set_cons_zero, List.set_cons_succ]
                  refine take_at (i := 9) 67 (v := ?_) rfl rfl (by kernel_rfl) (by kernel_rfl) (by kernel_rfl) (fun _ _ _ h => h) (by rfl) ?_ hHeld ?_
                  rotate_left
                  · (intro w hSw; (try dsimp only at hSw); go_simp; try with_reducible rfl)
                  simp only [Act.put, List.setIfInBounds_toArray, List.set_cons_zero, List.set_cons_succ]
                  refine take_at (i := 10) 68 (v := ?_) rfl rfl (by kernel_rfl) (by kernel_rfl) (by kernel_rfl) (fun _ _ _ h => h) (by rfl) ?_ hHeld ?_
                  rotate_left
                  · (intro w hSw; (try dsimp only at hSw); go_simp; try with_reducible rfl)
                  simp only [Act.put, List.setIfInBounds_toArray, List.set_cons_zero, List.set_cons_succ]
                  refine run_at (i := 11) rfl (by kernel_rfl) (by rfl) (fun K hK => ?_)
                  simp only [List.getElem_toArray, List.getElem_cons_zero, List.getElem_cons_succ]
                  go_simp
                  go_wp2_with fail
                  refine hK.out _ _ (by first | exact hB0 | exact hB1 | exact hB2 | assumption) ?_
                  clear hK K
                  intro hHeld2
                  clear hHeld
                  have hHeld := hHeld2
                  clear hHeld2
                  try simp only [Act.put, List.setIfInBounds_toArray, List.set_cons_zero, List.set_cons_succ]
                  refine wpAnyH_done (by kernel_rfl) ?_ _
                  refine NoPanic.normal ?_
                  clear hB0 hB1 hB2
                  obtain ⟨wD, hwD⟩ : ∃ wD : World, wD = (wr.setCell ⟨gs, k * 3 + 1, none⟩ (.bool false)).drew := ⟨_, rfl⟩
                  have HRDD : Hid _ := RDk.below HSB.out (Below.refl _ (wr.setCell ⟨gs, k * 3 + 1, none⟩ (.bool false))).drew
                  rw [← hwD] at HRDD HBS
                  have cD0 := RDk.c0 HRDD.out
                  have hbt : ∀ u, BRt rp gs n u → u.cell? ⟨rp, 0, none⟩ = some (.slice (some ⟨gs, 0, none⟩) n n) := fun u hu => hu
                  have hT0 : BRt rp gs n wD.drew := cD0
                  have HCP : Hid (Calls Try.prog 74 #[.slice (some ⟨b, o + lo + 1, none⟩) 128 (C - 1)] wD.drew fun e w' => ∃ g9 c9, e = .returned (.slice (some ⟨g9, 0, none⟩) 128 c9) ∧ wD.heap.size ≤ g9 ∧ g9 < w'.heap.size ∧ ByAt w' (fun b => b = g9) (.slice (some ⟨g9, 0, none⟩) 128 c9) T ∧ Below wD.heap.size wD w') := by
                    refine (copied_t (some ⟨b, o + lo + 1, none⟩) 128 (C - 1) T wD.drew HTL.out.symm (Rd.below HTR.out HBS.out.drew) (fun h => by cases h) (by decide)).mono ?_
                    rintro e w' ⟨v, rfl, hown, hb9⟩
                    have hlt9 := World.ownsRow.lt hown
                    have hv9 := hown.val
                    rcases hown.2 with ⟨-, h0⟩ | ⟨g9, c9, cur9, rfl, hB9, hg9, -⟩
                    · have := HTL.out; omega
                    · obtain ⟨a8, c8, e8, -, -, -, hr8, -⟩ := hv9
                      cases e8
                      rw [HTL.out]
                      refine ⟨g9, c9, rfl, hB9, (hlt9 g9 rfl).2, ⟨g9, 0, c9, by rw [HTL.out], rfl, hr8, cur9, _, hg9⟩, ?_⟩
                      exact below_next (B := wD) (Below.refl _ _).drew hb9
                  rw [← hwD]
                  clear hwD
                  go_wp2_with fail
                  refine wp_region_noPanic ?_
                  refine wp_region_held_drew (S := (fun u => BRt rp gs n u)) (by kernel_rfl) (by first | exact hT0 | assumption) (fun hHeld => ?_)
                  refine take_at (i := 0) 71 (v := ?_) rfl rfl (by kernel_rfl) (by kernel_rfl) (by kernel_rfl) (fun _ _ _ h => h) (by rfl) ?_ hHeld ?_
                  rotate_left
                  · (intro w hSw; (try dsimp only at hSw); go_simp; try with_reducible rfl)
                  simp only [Act.put, List.setIfInBounds_toArray, List.set_cons_zero, List.set_cons_succ]
                  refine take_at (i := 1) 72 (v := ?_) rfl rfl (by kernel_rfl) (by kernel_rfl) (by kernel_rfl) (fun _ _ _ h => h) (by rfl) ?_ hHeld ?_
                  rotate_left
                  · (intro w hSw; (try dsimp only at hSw); go_simp; try with_reducible rfl)
                  simp only [Act.put, List.setIfInBounds_toArray, List.set_cons_zero, List.set_cons_succ]
                  refine take_at (i := 2) 73 (v := ?_) rfl rfl (by kernel_rfl) (by kernel_rfl) (by kernel_rfl) (fun _ _ _ h => h) (by rfl) ?_ hHeld ?_
                  rotate_left
                  · (intro w hSw; (try dsimp only at hSw); go_simp; try with_reducible rfl)
                  simp only [Act.put, List.setIfInBounds_toArray, List.set_cons_zero, List.set_cons_succ]
                  refine take_at (i := 3) 74 (v := ?_) rfl rfl (by kernel_rfl) (by kernel_rfl) (by kernel_rfl) (fun _ _ _ h => h) (by rfl) ?_ hHeld ?_
                  rotate_left
                  · (intro w hSw; (try dsimp only at hSw); go_simp; try with_reducible rfl)
                  simp only [Act.put, List.setIfInBounds_toArray, List.set_cons_zero, List.set_cons_succ]
                  refine take_at (i := 4) 75 (v := ?_) rfl rfl (by kernel_rfl) (by kernel_rfl) (by kernel_rfl) (fun _ _ _ h => h) (by rfl) ?_ hHeld ?_
                  rotate_left
                  · (intro w hSw; (try dsimp only at hSw); go_simp; try with_reducible rfl)
                  simp only [Act.put, List.setIfInBounds_toArray, List.set_cons_zero, List.set_cons_succ]
                  refine take_at (i := 5) 76 (v := ?_) rfl rfl (by kernel_rfl) (by kernel_rfl) (by kernel_rfl) (fun _ _ _ h => h) (by rfl) ?_ hHeld ?_
                  rotate_left
                  · (intro w hSw; (try dsimp only at hSw); go_simp; try with_reducible rfl)
                  simp only [Act.put, List.setIfInBounds_toArray, List.set_cons_zero, List.set_cons_succ]
                  refine take_at (i := 6) 77 (v := ?_) rfl rfl (by kernel_rfl) (by kernel_rfl) (by kernel_rfl) (fun _ _ _ h => h) (by rfl) ?_ hHeld ?_
                  rotate_left
                  · (intro w hSw; (try dsimp only at hSw); go_simp; try with_reducible rfl)
                  simp only [Act.put, List.setIfInBounds_toArray, List.set_cons_zero, List.set_cons_succ]
                  refine run_at (i := 7) rfl (by kernel_rfl) (by rfl) (fun K hK => ?_)
                  simp only [List.getElem_toArray, List.getElem_cons_zero, List.getElem_cons_succ]
                  go_simp
                  (go_at_call 74; refine HCP.out.mono ?_; rintro e w5 ⟨g9, c9, rfl, hg9, hg9l, hby9, hb95⟩; have hrd5 := RDk.below HRDD.out hb95; have hT5 : BRt rp gs n w5 := hrd5.c0; have HST5 := RDk.setText hrd5 k hlt T HTL.out (by rw [getD_set_same _ _ _ (by rw [lmk_len xs n k (by omega)]; exact hlt)]) _ g9 hg9l hby9; have hT6 : BRt rp gs n (w5.setCell ⟨gs, k * 3, none⟩ (.slice (some ⟨g9, 0, none⟩) 128 c9)) := HST5.c0; have s05 := hrd5.s0 k hlt; obtain ⟨cur5, hcur5, hcu5⟩ := hrd5.hs; have hf5 := frozen_of_row w5 gs (k * 3) _ _ hcur5; have HS5 : Hid _ := HST5; have HG5 : Hid (w.heap.size ≤ g9) := Nat.le_trans (Below.size HBS.out) hg9; have HB5 : Hid (Below w.heap.size w w5) := below_next HBS.out hb95; clear hrd5 HST5 hcur5 hcu5 hby9 hg9 hg9l hb95)
                  go_wp2_with fail
                  refine hK.out _ _ (by first | exact hT0 | assumption) ?_
                  clear hK K
                  intro hHeld2
                  clear hHeld
                  have hHeld := hHeld2
                  clear hHeld2
                  try simp only [Act.put, List.setIfInBounds_toArray, List.set_cons_zero, List.set_cons_succ]
                  refine take_at (i := 8) 79 (v := ?_) rfl rfl (by kernel_rfl) (by kernel_rfl) (by kernel_rfl) (fun _ _ _ h => h) (by rfl) ?_ hHeld ?_
                  rotate_left
                  · (intro w hSw; (try dsimp only at hSw); go_simp; try with_reducible rfl)
                  simp only [Act.put, List.setIfInBounds_toArray, List.set_cons_zero, List.set_cons_succ]
                  refine take_at (i := 9) 80 (v := ?_) rfl rfl (by kernel_rfl) (by kernel_rfl) (by kernel_rfl) (fun _ _ _ h => h) (by rfl) ?_ hHeld ?_
                  rotate_left
                  · (intro w hSw; (try dsimp only at hSw); go_simp; try with_reducible rfl)
                  simp only [Act.put, List.setIfInBounds_toArray, List.set_cons_zero, List.set_cons_succ]
                  refine run_at (i := 10) rfl (by kernel_rfl) (by rfl) (fun K hK => ?_)
                  simp only [List.getElem_toArray, List.getElem_cons_zero, List.getElem_cons_succ]
                  go_simp
                  go_wp2_with fail
                  refine hK.out _ _ (by first | exact hT0 | assumption) ?_
                  clear hK K
                  intro hHeld2
                  clear hHeld
                  have hHeld := hHeld2
                  clear hHeld2
                  try simp only [Act.put, List.setIfInBounds_toArray, List.set_cons_zero, List.set_cons_succ]
                  refine wpAnyH_done (by kernel_rfl) ?_ _
                  refine NoPanic.normal ?_
                  go_wp2
                  go_roundw
                  case rel =>
                    refine ⟨k + 1, upd VT k (.slice (some ⟨g9, 0, none⟩) 128 c9), fun b => Fp b ∨ b = g9, by omega, by rw [HK1.out], HOK.out, ?_, fun j hj => ?_, fun b hb => ?_, ?_⟩
                    · have h9 := HS5.out
                      simp only [HEQ.out] at h9
                      first
                        | exact h9
                        | exact RDk.below h9 (Below.refl _ _).drew
                    · rw [upd_other _ (by omega)]
                      exact HVT.out j (by omega)
                    · rcases hb with hb | rfl
                      · exact HFPk.out b hb
                      · exact HG5.out
                    · have h9 := Below.trans HB5.out ((set_chg w5 gs (k * 3) (.slice (some ⟨g9, 0, none⟩) 128 c9)).below (fun b hb => by rw [hb]; exact HGW.out) (Below.size HB5.out))
                      first
                        | exact h9
                        | exact h9.drew
                  case measure => have := HK1.out; simp [intOf]; omega
                · rw [hbk] at HBK HONR
                  have hT0 : T = List.replicate 128 0 := all_zero HTL.out HBK.out.symm
                  have HEQ : Hid ((lmk xs n k).set k ⟨List.replicate 128 0, false⟩ = lmk xs n (k + 1)) := by
                    unfold Hid
                    rw [← lmk_set xs n k hlt, HSC.out, hT0, hx0]
                    rfl
                  clear hbk hT0 hx0
                  go_wp2_with fail
                  refine Calls.mono HONR.out ?_
                  rintro e w3 ⟨rfl, hq⟩
                  have hq := hq.symm
                  subst hq
                  go_wp2_with fail
                  have hB0 : BRl rp gs n b (o + lo) 0 wr.drew := ⟨c0, hcr⟩
                  have hB1 : BRl rp gs n b (o + lo) 0 (wr.setCell ⟨gs, k * 3 + 1, none⟩ (.bool false)).drew := ⟨HSB.out.c0, HCB.out⟩
                  have hB2 : BRl rp gs n b (o + lo) 0 (wr.setCell ⟨gs, k * 3 + 1, none⟩ (.bool false)) := ⟨HSB.out.c0, HCB.out⟩
                  refine wp_region_noPanic ?_
                  refine wp_region_held_drew (S := (fun u => BRl rp gs n b (o + lo) 0 u)) (by kernel_rfl) (by first | exact hB0 | exact hB1 | exact hB2 | assumption) (fun hHeld => ?_)
                  refine take_at (i := 0) 58 (v := ?_) rfl rfl (by kernel_rfl) (by kernel_rfl) (by kernel_rfl) (fun _ _ _ h => h) (by rfl) ?_ hHeld ?_
                  rotate_left
                  · (intro w hSw; (try dsimp only at hSw); go_simp; try with_reducible rfl)
                  simp only [Act.put, List.setIfInBounds_toArray, List.set_cons_zero, List.set_cons_succ]
                  refine take_at (i := 1) 59 (v := ?_) rfl rfl (by kernel_rfl) (by kernel_rfl) (by kernel_rfl) (fun _ _ _ h => h) (by rfl) ?_ hHeld ?_
                  rotate_left
                  · (intro w hSw; (try dsimp only at hSw); go_simp; try with_reducible rfl)
                  simp only [Act.put, List.setIfInBounds_toArray, List.set_cons_zero, List.set_cons_succ]
                  refine take_at (i := 2) 60 (v := ?_) rfl rfl (by kernel_rfl) (by kernel_rfl) (by kernel_rfl) (fun _ _ _ h => h) (by rfl) ?_ hHeld ?_
                  rotate_left
                  · (intro w hSw; (try dsimp only at hSw); go_simp; try with_reducible rfl)
                  simp only [Act.put, List.setIfInBounds_toArray, List.set_cons_zero, List.set_cons_succ]
                  refine take_at (i := 3) 61 (v := ?_) rfl rfl (by kernel_rfl) (by kernel_rfl) (by kernel_rfl) (fun _ _ _ h => h) (by rfl) ?_ hHeld ?_
                  rotate_left
                  · (intro w hSw; (try dsimp only at hSw); go_simp; try with_reducible rfl)
                  simp only [Act.put, List.setIfInBounds_toArray, List.set_cons_zero, List.set_cons_succ]
                  refine take_at (i := 4) 62 (v := ?_) rfl rfl (by kernel_rfl) (by kernel_rfl) (by kernel_rfl) (fun _ _ _ h => h) (by rfl) ?_ hHeld ?_
                  rotate_left
                  · (intro w hSw; (try dsimp only at hSw); go_simp; try with_reducible rfl)
                  simp only [Act.put, List.setIfInBounds_toArray, List.set_cons_zero, List.set_cons_succ]
                  refine take_at (i := 5) 63 (v := ?_) rfl rfl (by kernel_rfl) (by kernel_rfl) (by kernel_rfl) (fun _ _ _ h => h) (by rfl) ?_ hHeld ?_
                  rotate_left
                  · (intro w hSw; (try dsimp only at hSw); go_simp; try with_reducible rfl)
                  simp only [Act.put, List.setIfInBounds_toArray, List.set_cons_zero, List.set_cons_succ]
                  refine take_at (i := 6) 64 (v := ?_) rfl rfl (by kernel_rfl) (by kernel_rfl) (by kernel_rfl) (fun _ _ _ h => h) (by rfl) ?_ hHeld ?_
                  rotate_left
                  · (intro w hSw; (try dsimp only at hSw); go_simp; try with_reducible rfl)
                  simp only [Act.put, List.setIfInBounds_toArray, List.set_cons_zero, List.set_cons_succ]
                  refine take_at (i := 7) 65 (v := ?_) rfl rfl (by kernel_rfl) (by kernel_rfl) (by kernel_rfl) (fun _ _ _ h => h) (by rfl) ?_ hHeld ?_
                  rotate_left
                  · (intro w hSw; (try dsimp only at hSw); go_simp; try with_reducible rfl)
                  simp only [Act.put, List.setIfInBounds_toArray, List.set_cons_zero, List.set_cons_succ]
                  refine take_at (i := 8) 66 (v := ?_) rfl rfl (by kernel_rfl) (by kernel_rfl) (by kernel_rfl) (fun _ _ _ h => h) (by rfl) ?_ hHeld ?_
                  rotate_left
                  · (intro w hSw; (try dsimp only at hSw); go_simp; try with_reducible rfl)
                  simp only [Act.put, List.setIfInBounds_toArray, List.set_cons_zero, List.set_cons_succ]
                  refine take_at (i := 9) 67 (v := ?_) rfl rfl (by kernel_rfl) (by kernel_rfl) (by kernel_rfl) (fun _ _ _ h => h) (by rfl) ?_ hHeld ?_
                  rotate_left
                  · (intro w hSw; (try dsimp only at hSw); go_simp; try with_reducible rfl)
                  simp only [Act.put, List.setIfInBounds_toArray, List.set_cons_zero, List.set_cons_succ]
                  refine take_at (i := 10) 68 (v := ?_) rfl rfl (by kernel_rfl) (by kernel_rfl) (by kernel_rfl) (fun _ _ _ h => h) (by rfl) ?_ hHeld ?_
                  rotate_left
                  · (intro w hSw; (try dsimp only at hSw); go_simp; try with_reducible rfl)
                  simp only [Act.put, List.setIfInBounds_toArray, List.set_cons_zero, List.set_cons_succ]
                  refine run_at (i := 11) rfl (by kernel_rfl) (by rfl) (fun K hK => ?_)
                  simp only [List.getElem_toArray, List.getElem_cons_zero, List.getElem_cons_succ]
                  go_simp
                  go_wp2_with fail
                  refine hK.out _ _ (by first | exact hB0 | exact hB1 | exact hB2 | assumption) ?_
                  clear hK K
                  intro hHeld2
                  clear hHeld
                  have hHeld := hHeld2
                  clear hHeld2
                  try simp only [Act.put, List.setIfInBounds_toArray, List.set_cons_zero, List.set_cons_succ]
                  refine wpAnyH_done (by kernel_rfl) ?_ _
                  refine NoPanic.normal ?_
                  clear hB0 hB1 hB2
                  go_wp2
                  go_roundw
                  case rel =>
                    refine ⟨k + 1, VT, Fp, by omega, by rw [HK1.out], HOK.out, ?_, fun j hj => HVT.out j (by omega), HFPk.out, HBS.out⟩
                    have h9 := HSB.out
                    simp only [HEQ.out] at h9
                    exact RDk.below h9 (Below.refl _ _).drew
                  case measure => have := HK1.out; simp [intOf]; omega
          · have hlti : ¬ (k : Int) < (n : Int) := by omega
            obtain rfl : k = n := by omega
            have HFN : Hid (loadS xs = some (lsecs xs k)) := HT.out HAL.out
            have HFIN : Hid (RDk wr rp gs (lsecs xs k).length ⟨lsecs xs k, fun _ => [], false, -1⟩ VT (fun _ => nilS) (fun _ => []) Fp) := by
              have h9 := HRD.out
              rw [lmk_all] at h9
              have h10 : (lsecs xs k).length = k := by simp [lsecs]
              rw [h10]
              exact h9
            go_wp2
            go_ret2
            rw [HFN.out]
            exact ⟨rp, gs, VT, Fp, rfl, HFIN.out, HFPk.out, HBW.out⟩
end Go.Proofs.Ytgdkiejlggiakac
