import Derived.Test.YtnfikcegmicooaaDoorLwD
import Derived.Test.YtnfikcegmicooaaDoorWWNil
import Derived.Test.YtnfikcegmicooaaDoorOpenW
namespace Go.Proofs.YtnfikcegmicooaaDoor
set_option linter.unusedVariables false
set_option linter.unusedSimpArgs false
open Go.RowKit Go.Maps Go.Shelf
/-- the timers behind the Sets and Stops of a script -/
def mk1 (N : Nat) (st : Nat × List Tm) (t : Wop) : Nat × List Tm :=
  if t.kind = 1 then (st.1 + 1, setL st.2 N st.1 t.id t.at_) else if t.kind = 2 then (st.1, st.2.filter (fun u => decide (u.id ≠ t.id))) else st
def mkL (N : Nat) (xs : List Wop) : Nat × List Tm := xs.foldl (mk1 N) (0, [])
theorem mkL_step (N : Nat) (xs : List Wop) (j : Nat) (hj : j < xs.length) : mkL N (xs.take (j + 1)) = mk1 N (mkL N (xs.take j)) xs[j] := by
  unfold mkL
  rw [List.take_succ_eq_append_getElem hj, List.foldl_append]
  rfl
/-- what stands behind so many of a script -/
def MkIs (N : Nat) (xs : List Wop) (j S : Nat) (L : List Tm) : Prop := mkL N (xs.take j) = (S, L)
set_option maxRecDepth 20000 in
set_option maxHeartbeats 3200000 in
theorem mades_t (x0 : Nat) (a : Option Addr) (len cap : Nat) (xs : List Wop) (w : World) (hx : len = xs.length) (hr : RdW w a xs) (hc : len ≤ 4398046511103) (ht : TabZ w) :
    Calls Tryd.prog 18 #[.int .u64 (x0 : Int), .slice a len cap] w fun e w' => ∃ p S L, e = .returned (.pointer (some ⟨p, 0, none⟩)) ∧ mkL (min x0 mxN) xs = (S, L) ∧ Wn w.heap.size w' p (min x0 mxN) S L ∧ L.length ≤ len ∧ Below w.heap.size w w' := by
  have HT : Hid _ := ht
  have HX : Hid _ := hx
  have HRD : Hid _ := hr
  obtain ⟨N, hN⟩ : ∃ N, N = min x0 mxN := ⟨_, rfl⟩
  rw [← hN]
  have HNN : Hid _ := hN
  clear ht hx hr hN
  go_enter Tryd.func18, Tryd.ntmps18
  go_wp2_with fail
  refine Calls.mono (new_n x0 w HT.out) ?_
  rintro e w2 ⟨p, rfl, h2, hb2⟩
  rw [← HNN.out] at h2
  have H2 : Hid _ := h2
  have HB2 : Hid _ := hb2
  clear h2 hb2
  go_wp2
  go_loopw [7] (fun i wr => ∃ (j S : Nat) (L : List Tm), j ≤ len ∧ i = .int .i64 (j : Int) ∧ MkIs N xs j S L ∧ Wn w.heap.size wr p N S L ∧ Below w.heap.size w wr ∧ L.length ≤ j ∧ S ≤ j) (fun i _ => len - (intOf i).toNat)
  case atStart => exact ⟨0, 0, [], Nat.zero_le _, rfl, rfl, H2.out, HB2.out, Nat.le_refl _, Nat.le_refl _⟩
  case round =>
    clear H2 HB2
    obtain ⟨j, S, L, hj, rfl, hM, hW, hB, hLj, hSj⟩ := hrel
    have HM : Hid _ := hM
    have HW : Hid _ := hW
    have HB : Hid _ := hB
    clear hM hW hB
    by_cases hlt : j < len
    · have hj1 : j < xs.length := by rw [← HX.out]; exact hlt
      obtain ⟨b, o, hab, hok, hrg⟩ := HRD.out j hj1
      have hst := mkL_step N xs j hj1
      rw [HM.out] at hst
      obtain ⟨t, hT⟩ : ∃ t, t = xs[j] := ⟨_, rfl⟩
      rw [← hT] at hok hrg hst
      clear hT
      subst hab
      have HST : Hid _ := hst
      have hk0 := hrg 0 _ rfl
      have hk1 := hrg 1 _ rfl
      have hk2 := hrg 2 _ rfl
      have hk3 := hrg 3 _ rfl
      rw [Nat.add_zero] at hk0
      have hbl : b < w.heap.size := World.block_lt_of_cell? w _ hk0
      have r1 := (HB.out.cell (p := ⟨b, _, none⟩) hbl).trans hk1
      have r2 := (HB.out.cell (p := ⟨b, _, none⟩) hbl).trans hk2
      have r3 := (HB.out.cell (p := ⟨b, _, none⟩) hbl).trans hk3
      have hbr : b < wr.heap.size := Nat.lt_of_lt_of_le hbl HB.out.size
      have HOK : Hid _ := hok
      have hS3 : wr.cell? ⟨b, o + j * 4 + 2, none⟩ = some (.int .i64 t.id) ∧ wr.cell? ⟨b, o + j * 4 + 3, none⟩ = some (.int .u64 (t.at_ : Int)) := ⟨r2, r3⟩
      clear hok hrg hk0 hk1 hk2 hk3 hst
      by_cases hk1 : t.kind = 1
      · rw [hk1] at r1
        go_wp2
        refine wp_region_noPanic ?_
        refine wp_region_held_drew (S := (fun u => u.cell? ⟨b, o + j * 4 + 2, none⟩ = some (.int .i64 t.id) ∧ u.cell? ⟨b, o + j * 4 + 3, none⟩ = some (.int .u64 (t.at_ : Int)))) (by kernel_rfl) (by first | exact hS3 | exact hS4) (fun hHeld => ?_)
        refine take_at (i := 0) 32 (v := ?_) rfl rfl (by kernel_rfl) (by kernel_rfl) (by kernel_rfl) (fun _ _ _ h => h) (by rfl) ?_ hHeld ?_
        rotate_left
        · (intro w hSw; (try dsimp only at hSw); go_simp; try with_reducible rfl)
        simp only [Act.put, List.setIfInBounds_toArray, List.set_cons_zero, List.set_cons_succ]
        refine take_at (i := 1) 33 (v := ?_) rfl rfl (by kernel_rfl) (by kernel_rfl) (by kernel_rfl) (fun _ _ _ h => h) (by rfl) ?_ hHeld ?_
        rotate_left
        · (intro w hSw; (try dsimp only at hSw); go_simp; try with_reducible rfl)
        simp only [Act.put, List.setIfInBounds_toArray, List.set_cons_zero, List.set_cons_succ]
        refine take_at (i := 2) 34 (v := ?_) rfl rfl (by kernel_rfl) (by kernel_rfl) (by kernel_rfl) (fun _ _ _ h => h) (by rfl) ?_ hHeld ?_
        rotate_left
        · (intro w hSw; (try dsimp only at hSw); go_simp; try with_reducible rfl)
        simp only [Act.put, List.setIfInBounds_toArray, List.set_cons_zero, List.set_cons_succ]
        refine take_at (i := 3) 35 (v := ?_) rfl rfl (by kernel_rfl) (by kernel_rfl) (by kernel_rfl) (fun _ _ _ h => h) (by rfl) ?_ hHeld ?_
        rotate_left
        · (intro w hSw; (try dsimp only at hSw); go_simp; try with_reducible rfl)
        simp only [Act.put, List.setIfInBounds_toArray, List.set_cons_zero, List.set_cons_succ]
        refine take_at (i := 4) 36 (v := ?_) rfl rfl (by kernel_rfl) (by kernel_rfl) (by kernel_rfl) (fun _ _ _ h => h) (by rfl) ?_ hHeld ?_
        rotate_left
        · (intro w hSw; (try dsimp only at hSw); go_simp; try with_reducible rfl)
        simp only [Act.put, List.setIfInBounds_toArray, List.set_cons_zero, List.set_cons_succ]
        refine take_at (i := 5) 37 (v := ?_) rfl rfl (by kernel_rfl) (by kernel_rfl) (by kernel_rfl) (fun _ _ _ h => h) (by rfl) ?_ hHeld ?_
        rotate_left
        · (intro w hSw; (try dsimp only at hSw); go_simp; try with_reducible rfl)
        simp only [Act.put, List.setIfInBounds_toArray, List.set_cons_zero, List.set_cons_succ]
        refine take_at (i := 6) 38 (v := ?_) rfl rfl (by kernel_rfl) (by kernel_rfl) (by kernel_rfl) (fun _ _ _ h => h) (by rfl) ?_ hHeld ?_
        rotate_left
        · (intro w hSw; (try dsimp only at hSw); go_simp; try with_reducible rfl)
        simp only [Act.put, List.setIfInBounds_toArray, List.set_cons_zero, List.set_cons_succ]
        refine take_at (i := 7) 39 (v := ?_) rfl rfl (by kernel_rfl) (by kernel_rfl) (by kernel_rfl) (fun _ _ _ h => h) (by rfl) ?_ hHeld ?_
        rotate_left
        · (intro w hSw; (try dsimp only at hSw); go_simp; try with_reducible rfl)
        simp only [Act.put, List.setIfInBounds_toArray, List.set_cons_zero, List.set_cons_succ]
        refine take_at (i := 8) 40 (v := ?_) rfl rfl (by kernel_rfl) (by kernel_rfl) (by kernel_rfl) (fun _ _ _ h => h) (by rfl) ?_ hHeld ?_
        rotate_left
        · (intro w hSw; (try dsimp only at hSw); go_simp; try with_reducible rfl)
        simp only [Act.put, List.setIfInBounds_toArray, List.set_cons_zero, List.set_cons_succ]
        refine take_at (i := 9) 41 (v := ?_) rfl rfl (by kernel_rfl) (by kernel_rfl) (by kernel_rfl) (fun _ _ _ h => h) (by rfl) ?_ hHeld ?_
        rotate_left
        · (intro w hSw; (try dsimp only at hSw); go_simp; try with_reducible rfl)
        simp only [Act.put, List.setIfInBounds_toArray, List.set_cons_zero, List.set_cons_succ]
        refine take_at (i := 10) 42 (v := ?_) rfl rfl (by kernel_rfl) (by kernel_rfl) (by kernel_rfl) (fun _ _ _ h => h) (by rfl) ?_ hHeld ?_
        rotate_left
        · (intro w hSw; (try dsimp only at hSw); go_simp; try with_reducible rfl)
        simp only [Act.put, List.setIfInBounds_toArray, List.set_cons_zero, List.set_cons_succ]
        refine run_at (i := 11) rfl (by kernel_rfl) (by rfl) (fun K hK => ?_)
        simp only [List.getElem_toArray, List.getElem_cons_zero, List.getElem_cons_succ]
        go_simp
        (go_at_call 11; refine Calls.mono (set_n (Wn.below HW.out (Below.refl _ _).drew) t.id t.at_ HOK.out.2.2.1 (by omega) (by omega)) ?_; rintro e w4 ⟨rfl, h4, hb4⟩; have HB4 : Hid (Below w.heap.size w w4) := HB.out.trans (Below.trans (Below.mono (Below.refl _ _).drew HB.out.size) hb4); have hS4 : w4.cell? ⟨b, o + j * 4 + 2, none⟩ = some (.int .i64 t.id) ∧ w4.cell? ⟨b, o + j * 4 + 3, none⟩ = some (.int .u64 (t.at_ : Int)) := ⟨(hb4.cell (p := ⟨b, _, none⟩) hbl).trans r2, (hb4.cell (p := ⟨b, _, none⟩) hbl).trans r3⟩; have H4 : Hid _ := h4; clear h4 hb4)
        go_wp2_with fail
        refine hK.out _ _ (by first | exact hS3 | exact hS4) ?_
        clear hK K
        intro hHeld2
        clear hHeld
        have hHeld := hHeld2
        clear hHeld2
        try simp only [Act.put, List.setIfInBounds_toArray, List.set_cons_zero, List.set_cons_succ]
        refine wpAnyH_done (by kernel_rfl) ?_ _
        refine NoPanic.normal ?_
        go_wp2
        go_roundw
        case rel => exact ⟨j + 1, S + 1, _, hlt, by go_num, by unfold MkIs; rw [HST.out]; unfold mk1; rw [if_pos hk1], H4.out, HB4.out, Nat.le_trans (setL_len _ _ _ _ _) (Nat.succ_le_succ hLj), by omega⟩
        case measure => simp [intOf]; omega
      · have hk1b : (t.kind == 1) = false := by simp [hk1]
        by_cases hk2 : t.kind = 2
        · rw [hk2] at r1
          go_wp2_with (go_at_call 16; refine Calls.mono (stop_n HW.out t.id HOK.out.2.2.1 (by omega)) ?_; rintro e w4 ⟨rfl, h4, hb4⟩; have HB4 : Hid (Below w.heap.size w w4) := HB.out.trans hb4; have H4 : Hid _ := h4; clear h4 hb4)
          go_roundw
          case rel => exact ⟨j + 1, S, _, hlt, by go_num, by unfold MkIs; rw [HST.out]; unfold mk1; rw [if_neg hk1, if_pos hk2], H4.out, HB4.out, Nat.le_trans (List.length_filter_le _ _) (by omega), by omega⟩
          case measure => simp [intOf]; omega
        · have hk2b : (t.kind == 2) = false := by simp [hk2]
          go_wp2
          go_roundw
          case rel => exact ⟨j + 1, S, L, hlt, by go_num, by unfold MkIs; rw [HST.out]; unfold mk1; rw [if_neg hk1, if_neg hk2], HW.out, HB.out, by omega, by omega⟩
          case measure => simp [intOf]; omega
    · have hjn : j = len := by omega
      have hfin : mkL N xs = (S, L) := by
        have h9 := HM.out
        unfold MkIs at h9
        rw [hjn, HX.out, List.take_length] at h9
        exact h9
      have HF : Hid _ := hfin
      clear hfin hSj
      go_wp2
      go_ret
      exact ⟨p, S, L, rfl, HF.out, HW.out, by omega, HB.out⟩
end Go.Proofs.YtnfikcegmicooaaDoor
