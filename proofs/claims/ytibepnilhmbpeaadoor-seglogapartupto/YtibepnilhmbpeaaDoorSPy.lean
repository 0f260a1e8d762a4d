import Derived.Test.YtibepnilhmbpeaaDoorSPx
namespace Go.Proofs.YtibepnilhmbpeaaDoor
set_option linter.unusedVariables false
set_option linter.unusedSimpArgs false
open Go.RowKit
theorem exec_loadS {P : Program} {a : Act} {oi : Oper} {t : TypeId} {x : Operand} (ho : oi.op = .load t x) {v : Value} {w : World} (h : (Instr.loadAt t (a.eval x)).run P w = .ok v w) : (execOp a.eval oi).run P w = .ok (.value v) w := by
  unfold execOp
  simp only [ho, Sem.run_bind, h, Result.andThen_ok]
  rfl
theorem pcLoad {u : World} {g N E L I : Nat} {v : Value} (h : u.cell? ⟨g, 0, none⟩ = some (.int .u64 (N : Int)) ∧ u.cell? ⟨g, 1, none⟩ = some (.int .u64 (E : Int)) ∧ u.cell? ⟨g, 2, none⟩ = some (.int .i64 (L : Int)) ∧ u.cell? ⟨g, 3, none⟩ = some (.int .i64 (I : Int)) ∧ u.cell? ⟨g, 4, none⟩ = some v) : (Instr.loadAt tPc (.pointer (some ⟨g, 0, none⟩))).run Tryd.prog u = .ok (.agg #[.int .u64 (N : Int), .int .u64 (E : Int), .int .i64 (L : Int), .int .i64 (I : Int), v]) u := by
  refine run_loadAt_mid u _ _ _ [.int .u64 (N : Int), .int .u64 (E : Int), .int .i64 (L : Int), .int .i64 (I : Int), v] _ (fun q x hv => ?_) Tryd.underlying108 rfl infoPc
  obtain ⟨h0, h1, h2, h3, h4⟩ := h
  rw [Nat.zero_add]
  rcases q with _ | _ | _ | _ | _ | q
  · simp at hv; subst hv; exact h0
  · simp at hv; subst hv; exact h1
  · simp at hv; subst hv; exact h2
  · simp at hv; subst hv; exact h3
  · simp at hv; subst hv; exact h4
  · simp at hv
theorem cellA {u : World} {p : Addr} {v : Value} {ob : Obj} (h : u.cell? p = some v) : (u.drew.alloc ob).cell? p = some v := ((alS (Below.refl _ _).drew ob).cell (World.block_lt_of_cell? u _ h)).trans h
section
set_option maxRecDepth 20000
set_option maxHeartbeats 64000000
theorem pieceOf_ok (q o cap : Nat) (xs : List UInt8) (N E L I M : Nat) (hN' : N = hdN xs 4 6) (hE' : E = hdN xs 10 6) (hL' : L = hdN xs 16 2) (hI' : I = hdN xs 18 2) (hM' : M = needS L) (hx' : xs.length = 128) (hc : 128 ≤ cap) (hcm : cap ≤ 9223372036854775807) (KD : Nat) (hK : KD = 20 + min (I * 104 + 104) L - I * 104) (w : World) (hr : Rd w (some ⟨q, o, none⟩) xs) (ht : TabOk w) (hno : I < M) :
    Calls Tryd.prog 79 #[.slice (some ⟨q, o, none⟩) 128 cap] w fun er w' => er = .returned (.tuple #[pcV N E L I (.slice (some ⟨q, o + 20, none⟩) (KD - 20) (cap - 20)), .bool (xs == pcT N E L I ((xs.drop 20).take (KD - 20)))]) ∧ Below w.heap.size w w' := by
  have hin := needS_in L I (by rw [← hM']; exact hno)
  have HT : Hid (TabOk w) := ht
  have HRX : Hid (Rd w (some ⟨q, o, none⟩) xs) := hr
  have hx : Hid (xs.length = 128) := hx'
  have hN : N < 18446744073709551616 := (by rw [hN']; exact hdN_lt _ _ _ (by decide))
  have hE : E < 18446744073709551616 := (by rw [hE']; exact hdN_lt _ _ _ (by decide))
  have hL : L < 65536 := (by rw [hL']; exact hdN_lt2 _ _)
  have hI : I < 65536 := (by rw [hI']; exact hdN_lt2 _ _)
  have HL0 : Hid (∀ (c : Nat) (u : World), Below w.heap.size w u → Calls Tryd.prog 72 #[.slice (some ⟨q, o + 4, none⟩) 6 c] u fun e w' => e = .returned (.int .u64 (N : Int)) ∧ w' = u) := (fun c u hu => by rw [hN']; exact low_p q o 4 6 c xs (by omega) (by decide) u (hr.below hu))
  have HL1 : Hid (∀ (c : Nat) (u : World), Below w.heap.size w u → Calls Tryd.prog 72 #[.slice (some ⟨q, o + 10, none⟩) 6 c] u fun e w' => e = .returned (.int .u64 (E : Int)) ∧ w' = u) := (fun c u hu => by rw [hE']; exact low_p q o 10 6 c xs (by omega) (by decide) u (hr.below hu))
  have HL2 : Hid (∀ (c : Nat) (u : World), Below w.heap.size w u → Calls Tryd.prog 72 #[.slice (some ⟨q, o + 16, none⟩) 2 c] u fun e w' => e = .returned (.int .u64 (L : Int)) ∧ w' = u) := (fun c u hu => by rw [hL']; exact low_p q o 16 2 c xs (by omega) (by decide) u (hr.below hu))
  have HL3 : Hid (∀ (c : Nat) (u : World), Below w.heap.size w u → Calls Tryd.prog 72 #[.slice (some ⟨q, o + 18, none⟩) 2 c] u fun e w' => e = .returned (.int .u64 (I : Int)) ∧ w' = u) := (fun c u hu => by rw [hI']; exact low_p q o 18 2 c xs (by omega) (by decide) u (hr.below hu))
  have HND : Hid (∀ u : World, Calls Tryd.prog 11 #[.int .i64 (L : Int)] u fun er w' => er = .returned (.int .i64 (M : Int)) ∧ w' = u) := (fun u => by rw [hM']; exact need_t L (by omega) u)
  clear hr ht hx' hN' hE' hL' hI' hM'
  obtain ⟨w1, hw1⟩ : ∃ X : World, X = w.alloc (.cells #[.int .u64 0, .int .u64 0, .int .i64 0, .int .i64 0, .slice none 0 0] tPc) := ⟨_, rfl⟩
  have HB1 : Hid (Below w.heap.size w w1) := (show Below _ _ _ by rw [hw1]; exact alS (Below.refl _ _) _)
  have HC1 : Hid (w1.heap[w.heap.size]? = some (.cells #[.int .u64 0, .int .u64 0, .int .i64 0, .int .i64 0, .slice none 0 0] tPc (0, 0))) := (show _ = _ by rw [hw1]; exact heap_alloc_new _ _)
  have HW1 : Hid (w1.heap.size = w.heap.size + 1) := (show _ = _ by rw [hw1]; simp)
  have HNE : Hid (w1.heap.size ≠ w.heap.size) := (show _ ≠ _ by have := HW1.out; omega)
  have hwL : IntKind.i64.wrap (L : Int) = (L : Int) := by rw [IntKind.wrap_i64]; omega
  have hwI : IntKind.i64.wrap (I : Int) = (I : Int) := by rw [IntKind.wrap_i64]; omega
  have h10 : (10 : Int) ≤ (cap : Int) := by omega
  have h16 : (16 : Int) ≤ (cap : Int) := by omega
  have h18 : (18 : Int) ≤ (cap : Int) := by omega
  have h20 : (20 : Int) ≤ (cap : Int) := by omega
  have g4 : ¬ cap = 4 := by omega
  have g10 : ¬ cap = 10 := by omega
  have g16 : ¬ cap = 16 := by omega
  have g18 : ¬ cap = 18 := by omega
  have g20 : ¬ cap = 20 := by omega
  have hmi : (I : Int) < (M : Int) := by omega
  obtain ⟨FR, hFR⟩ : ∃ FR, FR = I * 104 := ⟨_, rfl⟩
  obtain ⟨TO, hTO⟩ : ∃ TO, TO = min (I * 104 + 104) L := ⟨_, rfl⟩
  have hFT : FR ≤ TO ∧ TO ≤ FR + 104 ∧ TO ≤ 8192 := by omega
  have HSP : Hid (∀ u : World, Calls Tryd.prog 52 #[lbV N E L I] u fun er w' => er = .returned (.tuple #[.int .i64 (FR : Int), .int .i64 (TO : Int)]) ∧ Below u.heap.size u w') := (fun u => by rw [hFR, hTO]; exact span_t N E L I (by omega) (by omega) u)
  rw [← hTO, ← hFR] at hK
  obtain ⟨T2, hT2⟩ : ∃ T2 : Nat, T2 = 20 + TO := ⟨_, rfl⟩
  have hKI : IntKind.i64.wrap ((T2 : Int) - (FR : Int)) = (KD : Int) := by rw [IntKind.wrap_i64]; omega
  have hKJ : IntKind.i64.wrap (20 + (TO : Int)) = (T2 : Int) := by rw [IntKind.wrap_i64]; omega
  have hK1 : (20 : Int) ≤ (KD : Int) := by omega
  have hK2 : (KD : Int) ≤ (cap : Int) := by omega
  have hTB : (TO : Int) ≤ 8192 := by omega
  have hFB : (FR : Int) ≤ 8192 := by omega
  have HK4 : Hid (KD - 20 ≤ 104) := (show _ ≤ _ by omega)
  have HKL : Hid (KD - 20 = ((xs.drop 20).take (KD - 20)).length) := (show _ = _ by rw [List.length_take, List.length_drop]; have := hx.out; omega)
  obtain ⟨bb, hbb⟩ : ∃ bb, bb = (xs == pcT N E L I ((xs.drop 20).take (KD - 20))) := ⟨_, rfl⟩
  have HBB : Hid (bb = (xs == pcT N E L I ((xs.drop 20).take (KD - 20)))) := hbb
  clear hbb hFR hTO hFT hin hK hT2 hTB hFB
  go_enter Tryd.func79, Tryd.ntmps79
  go_wp2_with fail
  rw [← hw1]
  clear hw1
  refine wp_region_held_drew (S := (fun u => Below w.heap.size w u)) (by kernel_rfl) (by first | exact HB1.out.drew | exact alS HB1.out.drew _ | assumption) (fun hHeld => ?_)
  refine take_at (i := 0) 8 (v := ?_) rfl rfl (by kernel_rfl) (by kernel_rfl) (by kernel_rfl) (fun _ _ _ h => h) (by rfl) ?_ hHeld ?_
  rotate_left
  · (intro w hSw; (try dsimp only at hSw); go_simp; try with_reducible rfl)
  simp only [Act.put, List.setIfInBounds_toArray, List.set_cons_zero, List.set_cons_succ]
  refine take_at (i := 1) 9 (v := ?_) rfl rfl (by kernel_rfl) (by kernel_rfl) (by kernel_rfl) (fun _ _ _ h => h) (by rfl) ?_ hHeld ?_
  rotate_left
  · (intro w hSw; (try dsimp only at hSw); go_simp; try with_reducible rfl)
  simp only [Act.put, List.setIfInBounds_toArray, List.set_cons_zero, List.set_cons_succ]
  refine take_at (i := 3) 11 (v := ?_) rfl rfl (by kernel_rfl) (by kernel_rfl) (by kernel_rfl) (fun _ _ _ h => h) (by rfl) ?_ hHeld ?_
  rotate_left
  · (intro w hSw; (try dsimp only at hSw); go_simp; try with_reducible rfl)
  simp only [Act.put, List.setIfInBounds_toArray, List.set_cons_zero, List.set_cons_succ]
  refine take_at (i := 4) 12 (v := ?_) rfl rfl (by kernel_rfl) (by kernel_rfl) (by kernel_rfl) (fun _ _ _ h => h) (by rfl) ?_ hHeld ?_
  rotate_left
  · (intro w hSw; (try dsimp only at hSw); go_simp; try with_reducible rfl)
  simp only [Act.put, List.setIfInBounds_toArray, List.set_cons_zero, List.set_cons_succ]
  refine take_at (i := 6) 14 (v := ?_) rfl rfl (by kernel_rfl) (by kernel_rfl) (by kernel_rfl) (fun _ _ _ h => h) (by rfl) ?_ hHeld ?_
  rotate_left
  · (intro w hSw; (try dsimp only at hSw); go_simp; try with_reducible rfl)
  simp only [Act.put, List.setIfInBounds_toArray, List.set_cons_zero, List.set_cons_succ]
  refine take_at (i := 7) 15 (v := ?_) rfl rfl (by kernel_rfl) (by kernel_rfl) (by kernel_rfl) (fun _ _ _ h => h) (by rfl) ?_ hHeld ?_
  rotate_left
  · (intro w hSw; (try dsimp only at hSw); go_simp; try with_reducible rfl)
  simp only [Act.put, List.setIfInBounds_toArray, List.set_cons_zero, List.set_cons_succ]
  refine take_at (i := 10) 18 (v := ?_) rfl rfl (by kernel_rfl) (by kernel_rfl) (by kernel_rfl) (fun _ _ _ h => h) (by rfl) ?_ hHeld ?_
  rotate_left
  · (intro w hSw; (try dsimp only at hSw); go_simp; try with_reducible rfl)
  simp only [Act.put, List.setIfInBounds_toArray, List.set_cons_zero, List.set_cons_succ]
  refine take_at (i := 11) 19 (v := ?_) rfl rfl (by kernel_rfl) (by kernel_rfl) (by kernel_rfl) (fun _ _ _ h => h) (by rfl) ?_ hHeld ?_
  rotate_left
  · (intro w hSw; (try dsimp only at hSw); go_simp; try with_reducible rfl)
  simp only [Act.put, List.setIfInBounds_toArray, List.set_cons_zero, List.set_cons_succ]
  refine wpAnyH_ready (rs := [2, 15]) (by kernel_rfl) (by simp) ?_
  refine AllReadyH.cons (o := _) rfl (fun K hK => ?_) ?_
  focus
    rw [if_pos (by rfl)]
    simp only [List.getElem_toArray, List.getElem_cons_zero, List.getElem_cons_succ]
    (go_simp; go_at_call 72; refine Calls.mono (HL0.out _ _ (by first | exact HB1.out.drew | exact alS HB1.out.drew _)) ?_; rintro er u9 ⟨rfl, rfl⟩; go_wp2_with fail)
    refine hK.out _ _ (by first | exact HB1.out.drew | exact alS HB1.out.drew _ | assumption) ?_
    clear hK K
    intro hHeld2
    clear hHeld
    have hHeld := hHeld2
    clear hHeld2
    try simp only [Act.put, List.setIfInBounds_toArray, List.set_cons_zero, List.set_cons_succ]
    refine wpAnyH_ready (rs := [5, 15]) (by kernel_rfl) (by simp) ?_
    refine AllReadyH.cons (o := _) rfl (fun K hK => ?_) ?_
    focus
      rw [if_pos (by rfl)]
      simp only [List.getElem_toArray, List.getElem_cons_zero, List.getElem_cons_succ]
      (go_simp; go_at_call 72; refine Calls.mono (HL1.out _ _ (by first | exact HB1.out.drew | exact alS HB1.out.drew _)) ?_; rintro er u9 ⟨rfl, rfl⟩; go_wp2_with fail)
      refine hK.out _ _ (by first | exact HB1.out.drew | exact alS HB1.out.drew _ | assumption) ?_
      clear hK K
      intro hHeld2
      clear hHeld
      have hHeld := hHeld2
      clear hHeld2
      try simp only [Act.put, List.setIfInBounds_toArray, List.set_cons_zero, List.set_cons_succ]
      refine wpAnyH_ready (rs := [8, 15]) (by kernel_rfl) (by simp) ?_
      refine AllReadyH.cons (o := _) rfl (fun K hK => ?_) ?_
      focus
        rw [if_pos (by rfl)]
        simp only [List.getElem_toArray, List.getElem_cons_zero, List.getElem_cons_succ]
        (go_simp; go_at_call 72; refine Calls.mono (HL2.out _ _ (by first | exact HB1.out.drew | exact alS HB1.out.drew _)) ?_; rintro er u9 ⟨rfl, rfl⟩; go_wp2_with fail)
        refine hK.out _ _ (by first | exact HB1.out.drew | exact alS HB1.out.drew _ | assumption) ?_
        clear hK K
        intro hHeld2
        clear hHeld
        have hHeld := hHeld2
        clear hHeld2
        try simp only [Act.put, List.setIfInBounds_toArray, List.set_cons_zero, List.set_cons_succ]
        refine take_at (i := 9) 17 (v := .int .i64 (L : Int)) rfl rfl (by kernel_rfl) (by kernel_rfl) (by kernel_rfl) (fun _ _ _ h => h) (by rfl) ?_ hHeld ?_
        · (intro w hSw; (try dsimp only at hSw); go_simp; first | done | with_reducible rfl | (rw [hwL]))
        simp only [Act.put, List.setIfInBounds_toArray, List.set_cons_zero, List.set_cons_succ]
        refine wpAnyH_ready (rs := [12, 15]) (by kernel_rfl) (by simp) ?_
        refine AllReadyH.cons (o := _) rfl (fun K hK => ?_) ?_
        focus
          rw [if_pos (by rfl)]
          simp only [List.getElem_toArray, List.getElem_cons_zero, List.getElem_cons_succ]
          (go_simp; go_at_call 72; refine Calls.mono (HL3.out _ _ (by first | exact HB1.out.drew | exact alS HB1.out.drew _)) ?_; rintro er u9 ⟨rfl, rfl⟩; go_wp2_with fail)
          refine hK.out _ _ (by first | exact HB1.out.drew | exact alS HB1.out.drew _ | assumption) ?_
          clear hK K
          intro hHeld2
          clear hHeld
          have hHeld := hHeld2
          clear hHeld2
          try simp only [Act.put, List.setIfInBounds_toArray, List.set_cons_zero, List.set_cons_succ]
          refine take_at (i := 13) 21 (v := .int .i64 (I : Int)) rfl rfl (by kernel_rfl) (by kernel_rfl) (by kernel_rfl) (fun _ _ _ h => h) (by rfl) ?_ hHeld ?_
          · (intro w hSw; (try dsimp only at hSw); go_simp; first | done | with_reducible rfl | (rw [hwI]))
          simp only [Act.put, List.setIfInBounds_toArray, List.set_cons_zero, List.set_cons_succ]
          refine take_at (i := 14) 22 (v := ?_) rfl rfl (by kernel_rfl) (by kernel_rfl) (by kernel_rfl) (fun _ _ _ h => h) (by rfl) ?_ hHeld ?_
          rotate_left
          · (intro w hSw; (try dsimp only at hSw); go_simp; try with_reducible rfl)
          simp only [Act.put, List.setIfInBounds_toArray, List.set_cons_zero, List.set_cons_succ]
          refine run_at (i := 15) rfl (by kernel_rfl) (by rfl) (fun K hK => ?_)
          simp only [List.getElem_toArray, List.getElem_cons_zero, List.getElem_cons_succ]
          go_simp
          go_wp2_with fail
          refine hK.out _ _ (by first | exact HB1.out.drew | exact alS HB1.out.drew _ | assumption) ?_
          clear hK K
          intro hHeld2
          clear hHeld
          have hHeld := hHeld2
          clear hHeld2
          try simp only [Act.put, List.setIfInBounds_toArray, List.set_cons_zero, List.set_cons_succ]
          refine run_at (i := 16) rfl (by kernel_rfl) (by rfl) (fun K hK => ?_)
          simp only [List.getElem_toArray, List.getElem_cons_zero, List.getElem_cons_succ]
          ((refine wpo_storeL (W := w) _ _ rfl _ _ _ _ _ (by rfl) (by rfl) (by simp [Value.oneCell']) _ _ _ _ _ (heap_alloc_new _ _) (alS HB1.out.drew _) HB1.out.size ?_; intro z hz hcz hgz))
          refine hK.out _ _ (by first | exact HB1.out.drew | exact alS HB1.out.drew _ | assumption) ?_
          clear hK K
          intro hHeld2
          clear hHeld
          have hHeld := hHeld2
          clear hHeld2
          try simp only [Act.put, List.setIfInBounds_toArray, List.set_cons_zero, List.set_cons_succ]
          refine wpAnyH_done (by kernel_rfl) ?_ _
        rotate_left 1
        refine AllReadyH.cons (o := _) rfl (fun K hK => ?_) AllReadyH.nil
        focus
          rw [if_pos (by rfl)]
          simp only [List.getElem_toArray, List.getElem_cons_zero, List.getElem_cons_succ]
          go_simp
          go_wp2_with fail
          refine hK.out _ _ (by first | exact HB1.out.drew | exact alS HB1.out.drew _ | assumption) ?_
          clear hK K
          intro hHeld2
          clear hHeld
          have hHeld := hHeld2
          clear hHeld2
          try simp only [Act.put, List.setIfInBounds_toArray, List.set_cons_zero, List.set_cons_succ]
          refine run_at (i := 12) rfl (by kernel_rfl) (by rfl) (fun K hK => ?_)
          simp only [List.getElem_toArray, List.getElem_cons_zero, List.getElem_cons_succ]
          (go_simp; go_at_call 72; refine Calls.mono (HL3.out _ _ (by first | exact HB1.out.drew | exact alS HB1.out.drew _)) ?_; rintro er u9 ⟨rfl, rfl⟩; go_wp2_with fail)
          refine hK.out _ _ (by first | exact HB1.out.drew | exact alS HB1.out.drew _ | assumption) ?_
          clear hK K
          intro hHeld2
          clear hHeld
          have hHeld := hHeld2
          clear hHeld2
          try simp only [Act.put, List.setIfInBounds_toArray, List.set_cons_zero, List.set_cons_succ]
          refine take_at (i := 13) 21 (v := .int .i64 (I : Int)) rfl rfl (by kernel_rfl) (by kernel_rfl) (by kernel_rfl) (fun _ _ _ h => h) (by rfl) ?_ hHeld ?_
          · (intro w hSw; (try dsimp only at hSw); go_simp; first | done | with_reducible rfl | (rw [hwI]))
          simp only [Act.put, List.setIfInBounds_toArray, List.set_cons_zero, List.set_cons_succ]
          refine take_at (i := 14) 22 (v := ?_) rfl rfl (by kernel_rfl) (by kernel_rfl) (by kernel_rfl) (fun _ _ _ h => h) (by rfl) ?_ hHeld ?_
          rotate_left
          · (intro w hSw; (try dsimp only at hSw); go_simp; try with_reducible rfl)
          simp only [Act.put, List.setIfInBounds_toArray, List.set_cons_zero, List.set_cons_succ]
          refine run_at (i := 16) rfl (by kernel_rfl) (by rfl) (fun K hK => ?_)
          simp only [List.getElem_toArray, List.getElem_cons_zero, List.getElem_cons_succ]
          ((refine wpo_storeL (W := w) _ _ rfl _ _ _ _ _ (by rfl) (by rfl) (by simp [Value.oneCell']) _ _ _ _ _ (heap_alloc_new _ _) (alS HB1.out.drew _) HB1.out.size ?_; intro z hz hcz hgz))
          refine hK.out _ _ (by first | exact HB1.out.drew | exact alS HB1.out.drew _ | assumption) ?_
          clear hK K
          intro hHeld2
          clear hHeld
          have hHeld := hHeld2
          clear hHeld2
          try simp only [Act.put, List.setIfInBounds_toArray, List.set_cons_zero, List.set_cons_succ]
          refine wpAnyH_done (by kernel_rfl) ?_ _
      rotate_left 2
      refine AllReadyH.cons (o := _) rfl (fun K hK => ?_) AllReadyH.nil
      focus
        rw [if_pos (by rfl)]
        simp only [List.getElem_toArray, List.getElem_cons_zero, List.getElem_cons_succ]
        go_simp
        go_wp2_with fail
        refine hK.out _ _ (by first | exact HB1.out.drew | exact alS HB1.out.drew _ | assumption) ?_
        clear hK K
        intro hHeld2
        clear hHeld
        have hHeld := hHeld2
        clear hHeld2
        try simp only [Act.put, List.setIfInBounds_toArray, List.set_cons_zero, List.set_cons_succ]
        refine run_at (i := 8) rfl (by kernel_rfl) (by rfl) (fun K hK => ?_)
        simp only [List.getElem_toArray, List.getElem_cons_zero, List.getElem_cons_succ]
        (go_simp; go_at_call 72; refine Calls.mono (HL2.out _ _ (by first | exact HB1.out.drew | exact alS HB1.out.drew _)) ?_; rintro er u9 ⟨rfl, rfl⟩; go_wp2_with fail)
        refine hK.out _ _ (by first | exact HB1.out.drew | exact alS HB1.out.drew _ | assumption) ?_
        clear hK K
        intro hHeld2
        clear hHeld
        have hHeld := hHeld2
        clear hHeld2
        try simp only [Act.put, List.setIfInBounds_toArray, List.set_cons_zero, List.set_cons_succ]
        refine take_at (i := 9) 17 (v := .int .i64 (L : Int)) rfl rfl (by kernel_rfl) (by kernel_rfl) (by kernel_rfl) (fun _ _ _ h => h) (by rfl) ?_ hHeld ?_
        · (intro w hSw; (try dsimp only at hSw); go_simp; first | done | with_reducible rfl | (rw [hwL]))
        simp only [Act.put, List.setIfInBounds_toArray, List.set_cons_zero, List.set_cons_succ]
        refine run_at (i := 12) rfl (by kernel_rfl) (by rfl) (fun K hK => ?_)
        simp only [List.getElem_toArray, List.getElem_cons_zero, List.getElem_cons_succ]
        (go_simp; go_at_call 72; refine Calls.mono (HL3.out _ _ (by first | exact HB1.out.drew | exact alS HB1.out.drew _)) ?_; rintro er u9 ⟨rfl, rfl⟩; go_wp2_with fail)
        refine hK.out _ _ (by first | exact HB1.out.drew | exact alS HB1.out.drew _ | assumption) ?_
        clear hK K
        intro hHeld2
        clear hHeld
        have hHeld := hHeld2
        clear hHeld2
        try simp only [Act.put, List.setIfInBounds_toArray, List.set_cons_zero, List.set_cons_succ]
        refine take_at (i := 13) 21 (v := .int .i64 (I : Int)) rfl rfl (by kernel_rfl) (by kernel_rfl) (by kernel_rfl) (fun _ _ _ h => h) (by rfl) ?_ hHeld ?_
        · (intro w hSw; (try dsimp only at hSw); go_simp; first | done | with_reducible rfl | (rw [hwI]))
        simp only [Act.put, List.setIfInBounds_toArray, List.set_cons_zero, List.set_cons_succ]
        refine take_at (i := 14) 22 (v := ?_) rfl rfl (by kernel_rfl) (by kernel_rfl) (by kernel_rfl) (fun _ _ _ h => h) (by rfl) ?_ hHeld ?_
        rotate_left
        · (intro w hSw; (try dsimp only at hSw); go_simp; try with_reducible rfl)
        simp only [Act.put, List.setIfInBounds_toArray, List.set_cons_zero, List.set_cons_succ]
        refine run_at (i := 16) rfl (by kernel_rfl) (by rfl) (fun K hK => ?_)
        simp only [List.getElem_toArray, List.getElem_cons_zero, List.getElem_cons_succ]
        ((refine wpo_storeL (W := w) _ _ rfl _ _ _ _ _ (by rfl) (by rfl) (by simp [Value.oneCell']) _ _ _ _ _ (heap_alloc_new _ _) (alS HB1.out.drew _) HB1.out.size ?_; intro z hz hcz hgz))
        refine hK.out _ _ (by first | exact HB1.out.drew | exact alS HB1.out.drew _ | assumption) ?_
        clear hK K
        intro hHeld2
        clear hHeld
        have hHeld := hHeld2
        clear hHeld2
        try simp only [Act.put, List.setIfInBounds_toArray, List.set_cons_zero, List.set_cons_succ]
        refine wpAnyH_done (by kernel_rfl) ?_ _
    rotate_left 3
    refine AllReadyH.cons (o := _) rfl (fun K hK => ?_) AllReadyH.nil
    focus
      rw [if_pos (by rfl)]
      simp only [List.getElem_toArray, List.getElem_cons_zero, List.getElem_cons_succ]
      go_simp
      go_wp2_with fail
      refine hK.out _ _ (by first | exact HB1.out.drew | exact alS HB1.out.drew _ | assumption) ?_
      clear hK K
      intro hHeld2
      clear hHeld
      have hHeld := hHeld2
      clear hHeld2
      try simp only [Act.put, List.setIfInBounds_toArray, List.set_cons_zero, List.set_cons_succ]
      refine run_at (i := 5) rfl (by kernel_rfl) (by rfl) (fun K hK => ?_)
      simp only [List.getElem_toArray, List.getElem_cons_zero, List.getElem_cons_succ]
      (go_simp; go_at_call 72; refine Calls.mono (HL1.out _ _ (by first | exact HB1.out.drew | exact alS HB1.out.drew _)) ?_; rintro er u9 ⟨rfl, rfl⟩; go_wp2_with fail)
      refine hK.out _ _ (by first | exact HB1.out.drew | exact alS HB1.out.drew _ | assumption) ?_
      clear hK K
      intro hHeld2
      clear hHeld
      have hHeld := hHeld2
      clear hHeld2
      try simp only [Act.put, List.setIfInBounds_toArray, List.set_cons_zero, List.set_cons_succ]
      refine run_at (i := 8) rfl (by kernel_rfl) (by rfl) (fun K hK => ?_)
      simp only [List.getElem_toArray, List.getElem_cons_zero, List.getElem_cons_succ]
      (go_simp; go_at_call 72; refine Calls.mono (HL2.out _ _ (by first | exact HB1.out.drew | exact alS HB1.out.drew _)) ?_; rintro er u9 ⟨rfl, rfl⟩; go_wp2_with fail)
      refine hK.out _ _ (by first | exact HB1.out.drew | exact alS HB1.out.drew _ | assumption) ?_
      clear hK K
      intro hHeld2
      clear hHeld
      have hHeld := hHeld2
      clear hHeld2
      try simp only [Act.put, List.setIfInBounds_toArray, List.set_cons_zero, List.set_cons_succ]
      refine take_at (i := 9) 17 (v := .int .i64 (L : Int)) rfl rfl (by kernel_rfl) (by kernel_rfl) (by kernel_rfl) (fun _ _ _ h => h) (by rfl) ?_ hHeld ?_
      · (intro w hSw; (try dsimp only at hSw); go_simp; first | done | with_reducible rfl | (rw [hwL]))
      simp only [Act.put, List.setIfInBounds_toArray, List.set_cons_zero, List.set_cons_succ]
      refine run_at (i := 12) rfl (by kernel_rfl) (by rfl) (fun K hK => ?_)
      simp only [List.getElem_toArray, List.getElem_cons_zero, List.getElem_cons_succ]
      (go_simp; go_at_call 72; refine Calls.mono (HL3.out _ _ (by first | exact HB1.out.drew | exact alS HB1.out.drew _)) ?_; rintro er u9 ⟨rfl, rfl⟩; go_wp2_with fail)
      refine hK.out _ _ (by first | exact HB1.out.drew | exact alS HB1.out.drew _ | assumption) ?_
      clear hK K
      intro hHeld2
      clear hHeld
      have hHeld := hHeld2
      clear hHeld2
      try simp only [Act.put, List.setIfInBounds_toArray, List.set_cons_zero, List.set_cons_succ]
      refine take_at (i := 13) 21 (v := .int .i64 (I : Int)) rfl rfl (by kernel_rfl) (by kernel_rfl) (by kernel_rfl) (fun _ _ _ h => h) (by rfl) ?_ hHeld ?_
      · (intro w hSw; (try dsimp only at hSw); go_simp; first | done | with_reducible rfl | (rw [hwI]))
      simp only [Act.put, List.setIfInBounds_toArray, List.set_cons_zero, List.set_cons_succ]
      refine take_at (i := 14) 22 (v := ?_) rfl rfl (by kernel_rfl) (by kernel_rfl) (by kernel_rfl) (fun _ _ _ h => h) (by rfl) ?_ hHeld ?_
      rotate_left
      · (intro w hSw; (try dsimp only at hSw); go_simp; try with_reducible rfl)
      simp only [Act.put, List.setIfInBounds_toArray, List.set_cons_zero, List.set_cons_succ]
      refine run_at (i := 16) rfl (by kernel_rfl) (by rfl) (fun K hK => ?_)
      simp only [List.getElem_toArray, List.getElem_cons_zero, List.getElem_cons_succ]
      ((refine wpo_storeL (W := w) _ _ rfl _ _ _ _ _ (by rfl) (by rfl) (by simp [Value.oneCell']) _ _ _ _ _ (heap_alloc_new _ _) (alS HB1.out.drew _) HB1.out.size ?_; intro z hz hcz hgz))
      refine hK.out _ _ (by first | exact HB1.out.drew | exact alS HB1.out.drew _ | assumption) ?_
      clear hK K
      intro hHeld2
      clear hHeld
      have hHeld := hHeld2
      clear hHeld2
      try simp only [Act.put, List.setIfInBounds_toArray, List.set_cons_zero, List.set_cons_succ]
      refine wpAnyH_done (by kernel_rfl) ?_ _
  rotate_left 4
  refine AllReadyH.cons (o := _) rfl (fun K hK => ?_) AllReadyH.nil
  focus
    rw [if_pos (by rfl)]
    simp only [List.getElem_toArray, List.getElem_cons_zero, List.getElem_cons_succ]
    go_simp
    go_wp2_with fail
    refine hK.out _ _ (by first | exact HB1.out.drew | exact alS HB1.out.drew _ | assumption) ?_
    clear hK K
    intro hHeld2
    clear hHeld
    have hHeld := hHeld2
    clear hHeld2
    try simp only [Act.put, List.setIfInBounds_toArray, List.set_cons_zero, List.set_cons_succ]
    refine run_at (i := 2) rfl (by kernel_rfl) (by rfl) (fun K hK => ?_)
    simp only [List.getElem_toArray, List.getElem_cons_zero, List.getElem_cons_succ]
    (go_simp; go_at_call 72; refine Calls.mono (HL0.out _ _ (by first | exact HB1.out.drew | exact alS HB1.out.drew _)) ?_; rintro er u9 ⟨rfl, rfl⟩; go_wp2_with fail)
    refine hK.out _ _ (by first | exact HB1.out.drew | exact alS HB1.out.drew _ | assumption) ?_
    clear hK K
    intro hHeld2
    clear hHeld
    have hHeld := hHeld2
    clear hHeld2
    try simp only [Act.put, List.setIfInBounds_toArray, List.set_cons_zero, List.set_cons_succ]
    refine run_at (i := 5) rfl (by kernel_rfl) (by rfl) (fun K hK => ?_)
    simp only [List.getElem_toArray, List.getElem_cons_zero, List.getElem_cons_succ]
    (go_simp; go_at_call 72; refine Calls.mono (HL1.out _ _ (by first | exact HB1.out.drew | exact alS HB1.out.drew _)) ?_; rintro er u9 ⟨rfl, rfl⟩; go_wp2_with fail)
    refine hK.out _ _ (by first | exact HB1.out.drew | exact alS HB1.out.drew _ | assumption) ?_
    clear hK K
    intro hHeld2
    clear hHeld
    have hHeld := hHeld2
    clear hHeld2
    try simp only [Act.put, List.setIfInBounds_toArray, List.set_cons_zero, List.set_cons_succ]
    refine run_at (i := 8) rfl (by kernel_rfl) (by rfl) (fun K hK => ?_)
    simp only [List.getElem_toArray, List.getElem_cons_zero, List.getElem_cons_succ]
    (go_simp; go_at_call 72; refine Calls.mono (HL2.out _ _ (by first | exact HB1.out.drew | exact alS HB1.out.drew _)) ?_; rintro er u9 ⟨rfl, rfl⟩; go_wp2_with fail)
    refine hK.out _ _ (by first | exact HB1.out.drew | exact alS HB1.out.drew _ | assumption) ?_
    clear hK K
    intro hHeld2
    clear hHeld
    have hHeld := hHeld2
    clear hHeld2
    try simp only [Act.put, List.setIfInBounds_toArray, List.set_cons_zero, List.set_cons_succ]
    refine take_at (i := 9) 17 (v := .int .i64 (L : Int)) rfl rfl (by kernel_rfl) (by kernel_rfl) (by kernel_rfl) (fun _ _ _ h => h) (by rfl) ?_ hHeld ?_
    · (intro w hSw; (try dsimp only at hSw); go_simp; first | done | with_reducible rfl | (rw [hwL]))
    simp only [Act.put, List.setIfInBounds_toArray, List.set_cons_zero, List.set_cons_succ]
    refine run_at (i := 12) rfl (by kernel_rfl) (by rfl) (fun K hK => ?_)
    simp only [List.getElem_toArray, List.getElem_cons_zero, List.getElem_cons_succ]
    (go_simp; go_at_call 72; refine Calls.mono (HL3.out _ _ (by first | exact HB1.out.drew | exact alS HB1.out.drew _)) ?_; rintro er u9 ⟨rfl, rfl⟩; go_wp2_with fail)
    refine hK.out _ _ (by first | exact HB1.out.drew | exact alS HB1.out.drew _ | assumption) ?_
    clear hK K
    intro hHeld2
    clear hHeld
    have hHeld := hHeld2
    clear hHeld2
    try simp only [Act.put, List.setIfInBounds_toArray, List.set_cons_zero, List.set_cons_succ]
    refine take_at (i := 13) 21 (v := .int .i64 (I : Int)) rfl rfl (by kernel_rfl) (by kernel_rfl) (by kernel_rfl) (fun _ _ _ h => h) (by rfl) ?_ hHeld ?_
    · (intro w hSw; (try dsimp only at hSw); go_simp; first | done | with_reducible rfl | (rw [hwI]))
    simp only [Act.put, List.setIfInBounds_toArray, List.set_cons_zero, List.set_cons_succ]
    refine take_at (i := 14) 22 (v := ?_) rfl rfl (by kernel_rfl) (by kernel_rfl) (by kernel_rfl) (fun _ _ _ h => h) (by rfl) ?_ hHeld ?_
    rotate_left
    · (intro w hSw; (try dsimp only at hSw); go_simp; try with_reducible rfl)
    simp only [Act.put, List.setIfInBounds_toArray, List.set_cons_zero, List.set_cons_succ]
    refine run_at (i := 16) rfl (by kernel_rfl) (by rfl) (fun K hK => ?_)
    simp only [List.getElem_toArray, List.getElem_cons_zero, List.getElem_cons_succ]
    ((refine wpo_storeL (W := w) _ _ rfl _ _ _ _ _ (by rfl) (by rfl) (by simp [Value.oneCell']) _ _ _ _ _ (heap_alloc_new _ _) (alS HB1.out.drew _) HB1.out.size ?_; intro z hz hcz hgz))
    refine hK.out _ _ (by first | exact HB1.out.drew | exact alS HB1.out.drew _ | assumption) ?_
    clear hK K
    intro hHeld2
    clear hHeld
    have hHeld := hHeld2
    clear hHeld2
    try simp only [Act.put, List.setIfInBounds_toArray, List.set_cons_zero, List.set_cons_succ]
    refine wpAnyH_done (by kernel_rfl) ?_ _
  focus
    have HBz : Hid (Below w.heap.size w z.drew) := hz.drew
    have HCz : Hid (z.drew.heap[w1.heap.size]? = some (.cells #[.int .u64 (N : Int), .int .u64 (E : Int), .int .i64 (L : Int), .int .i64 (I : Int)] tLb (0, 0))) := hcz
    have HZz : Hid (z.drew.heap[w.heap.size]? = some (.cells #[.int .u64 0, .int .u64 0, .int .i64 0, .int .i64 0, .slice none 0 0] tPc (0, 0))) := (show z.heap[w.heap.size]? = _ from grown_blk hgz (below_blk (alS (Below.refl _ _).drew _) HC1.out) HNE.out.symm)
    have hsz := cells4 HCz.out
    clear hz hcz hgz
    go_wp2_with fail
    refine wp_region_held_drew (S := (fun u => u.cell? ⟨w1.heap.size, 0, none⟩ = some (.int .u64 (N : Int)) ∧ u.cell? ⟨w1.heap.size, 1, none⟩ = some (.int .u64 (E : Int)) ∧ u.cell? ⟨w1.heap.size, 2, none⟩ = some (.int .i64 (L : Int)) ∧ u.cell? ⟨w1.heap.size, 3, none⟩ = some (.int .i64 (I : Int)))) (by kernel_rfl) (by first | exact hsz | assumption) (fun hHeld => ?_)
    refine take_at (i := 0) 23 (v := ?_) rfl rfl (by kernel_rfl) (by kernel_rfl) (by kernel_rfl) (fun _ _ _ h => h) (by rfl) ?_ hHeld ?_
    rotate_left
    · (intro w hSw; (try dsimp only at hSw); go_simp; try with_reducible rfl)
    simp only [Act.put, List.setIfInBounds_toArray, List.set_cons_zero, List.set_cons_succ]
    refine take_at (i := 1) 24 (v := ?_) rfl rfl (by kernel_rfl) (by kernel_rfl) (by kernel_rfl) (fun _ _ _ h => h) (by rfl) ?_ hHeld ?_
    rotate_left
    · (intro w hSw; (try dsimp only at hSw); go_simp; try with_reducible rfl)
    simp only [Act.put, List.setIfInBounds_toArray, List.set_cons_zero, List.set_cons_succ]
    refine take_at (i := 2) 25 (v := ?_) rfl rfl (by kernel_rfl) (by kernel_rfl) (by kernel_rfl) (fun _ _ _ h => h) (by rfl) ?_ hHeld ?_
    rotate_left
    · (intro w hSw; (try dsimp only at hSw); go_simp; try with_reducible rfl)
    simp only [Act.put, List.setIfInBounds_toArray, List.set_cons_zero, List.set_cons_succ]
    refine take_at (i := 3) 26 (v := ?_) rfl rfl (by kernel_rfl) (by kernel_rfl) (by kernel_rfl) (fun _ _ _ h => h) (by rfl) ?_ hHeld ?_
    rotate_left
    · (intro w hSw; (try dsimp only at hSw); go_simp; try with_reducible rfl)
    simp only [Act.put, List.setIfInBounds_toArray, List.set_cons_zero, List.set_cons_succ]
    refine run_at (i := 4) rfl (by kernel_rfl) (by rfl) (fun K hK => ?_)
    simp only [List.getElem_toArray, List.getElem_cons_zero, List.getElem_cons_succ]
    (go_simp; go_at_call 11; refine Calls.mono (HND.out _) ?_; rintro er u9 ⟨rfl, rfl⟩; go_wp2_with fail)
    refine hK.out _ _ (by first | exact hsz | assumption) ?_
    clear hK K
    intro hHeld2
    clear hHeld
    have hHeld := hHeld2
    clear hHeld2
    try simp only [Act.put, List.setIfInBounds_toArray, List.set_cons_zero, List.set_cons_succ]
    refine take_at (i := 5) 28 (v := .bool false) rfl rfl (by kernel_rfl) (by kernel_rfl) (by kernel_rfl) (fun _ _ _ h => h) (by rfl) ?_ hHeld ?_
    · (intro w hSw; (try dsimp only at hSw); go_simp; first | done | with_reducible rfl | omega | (simp; omega))
    simp only [Act.put, List.setIfInBounds_toArray, List.set_cons_zero, List.set_cons_succ]
    refine wpAnyH_done (by kernel_rfl) ?_ _
    obtain ⟨u3, hu3⟩ : ∃ X : World, X = z.drew := ⟨_, rfl⟩
    rw [← hu3]
    rw [← hu3] at HZz HBz HCz
    have hs3 := cells4 HCz.out
    clear hsz hHeld hu3
    go_wp2_with fail
    refine Calls.mono (HSP.out u3) ?_
    rintro er u4 ⟨rfl, hb4⟩
    have HB4 : Hid (Below w.heap.size w u4) := below_next HBz.out hb4
    have HC4 : Hid (u4.heap[w1.heap.size]? = some (.cells #[.int .u64 (N : Int), .int .u64 (E : Int), .int .i64 (L : Int), .int .i64 (I : Int)] tLb (0, 0))) := below_blk hb4 HCz.out
    have HZ4 : Hid (u4.heap[w.heap.size]? = some (.cells #[.int .u64 0, .int .u64 0, .int .i64 0, .int .i64 0, .slice none 0 0] tPc (0, 0))) := below_blk hb4 HZz.out
    have hs4 := cells4 HC4.out
    have HN4 : Hid (u4.heap.size ≠ w.heap.size) := (show _ ≠ _ by have := (Array.getElem?_eq_some_iff.1 HZ4.out).1; omega)
    have HN5 : Hid (w1.heap.size ≠ u4.heap.size) := (show _ ≠ _ by have := (Array.getElem?_eq_some_iff.1 HC4.out).1; omega)
    clear hb4 hs3 HBz HCz HZz
    go_wp2_with fail
    refine wp_region_held_drew (S := (fun u => u.cell? ⟨w1.heap.size, 0, none⟩ = some (.int .u64 (N : Int)) ∧ u.cell? ⟨w1.heap.size, 1, none⟩ = some (.int .u64 (E : Int)) ∧ u.cell? ⟨w1.heap.size, 2, none⟩ = some (.int .i64 (L : Int)) ∧ u.cell? ⟨w1.heap.size, 3, none⟩ = some (.int .i64 (I : Int)))) (by kernel_rfl) (by first | exact hs4 | assumption | (refine ⟨?_, ?_, ?_, ?_⟩ <;> (first | exact cellA hs4.1 | exact cellA hs4.2.1 | exact cellA hs4.2.2.1 | exact cellA hs4.2.2.2)) | exact cells4 (grown_blk hgz (below_blk (alS (Below.refl _ _).drew _) HC4.out) HN5.out)) (fun hHeld => ?_)
    refine take_at (i := 0) 35 (v := ?_) rfl rfl (by kernel_rfl) (by kernel_rfl) (by kernel_rfl) (fun _ _ _ h => h) (by rfl) ?_ hHeld ?_
    rotate_left
    · (intro w hSw; (try dsimp only at hSw); go_simp; try with_reducible rfl)
    simp only [Act.put, List.setIfInBounds_toArray, List.set_cons_zero, List.set_cons_succ]
    refine take_at (i := 1) 36 (v := ?_) rfl rfl (by kernel_rfl) (by kernel_rfl) (by kernel_rfl) (fun _ _ _ h => h) (by rfl) ?_ hHeld ?_
    rotate_left
    · (intro w hSw; (try dsimp only at hSw); go_simp; try with_reducible rfl)
    simp only [Act.put, List.setIfInBounds_toArray, List.set_cons_zero, List.set_cons_succ]
    refine take_at (i := 2) 37 (v := ?_) rfl rfl (by kernel_rfl) (by kernel_rfl) (by kernel_rfl) (fun _ _ _ h => h) (by rfl) ?_ hHeld ?_
    rotate_left
    · (intro w hSw; (try dsimp only at hSw); go_simp; try with_reducible rfl)
    simp only [Act.put, List.setIfInBounds_toArray, List.set_cons_zero, List.set_cons_succ]
    refine take_at (i := 3) 38 (v := .int .i64 (T2 : Int)) rfl rfl (by kernel_rfl) (by kernel_rfl) (by kernel_rfl) (fun _ _ _ h => h) (by rfl) ?_ hHeld ?_
    · (intro w hSw; (try dsimp only at hSw); go_simp; try with_reducible rfl)
    simp only [Act.put, List.setIfInBounds_toArray, List.set_cons_zero, List.set_cons_succ]
    refine take_at (i := 4) 39 (v := ?_) rfl rfl (by kernel_rfl) (by kernel_rfl) (by kernel_rfl) (fun _ _ _ h => h) (by rfl) ?_ hHeld ?_
    rotate_left
    · (intro w hSw; (try dsimp only at hSw); go_simp; try with_reducible rfl)
    simp only [Act.put, List.setIfInBounds_toArray, List.set_cons_zero, List.set_cons_succ]
    refine take_at (i := 5) 40 (v := .int .i64 (KD : Int)) rfl rfl (by kernel_rfl) (by kernel_rfl) (by kernel_rfl) (fun _ _ _ h => h) (by rfl) ?_ hHeld ?_
    · (intro w hSw; (try dsimp only at hSw); go_simp; try with_reducible rfl)
    simp only [Act.put, List.setIfInBounds_toArray, List.set_cons_zero, List.set_cons_succ]
    refine take_at (i := 6) 41 (v := ?_) rfl rfl (by kernel_rfl) (by kernel_rfl) (by kernel_rfl) (fun _ _ _ h => h) (by rfl) ?_ hHeld ?_
    rotate_left
    · (intro w hSw; (try dsimp only at hSw); go_simp; try with_reducible rfl)
    simp only [Act.put, List.setIfInBounds_toArray, List.set_cons_zero, List.set_cons_succ]
    refine take_at (i := 7) 42 (v := ?_) rfl rfl (by kernel_rfl) (by kernel_rfl) (by kernel_rfl) (fun _ _ _ h => h) (by rfl) ?_ hHeld ?_
    rotate_left
    · (intro w hSw; (try dsimp only at hSw); go_simp; try with_reducible rfl)
    simp only [Act.put, List.setIfInBounds_toArray, List.set_cons_zero, List.set_cons_succ]
    refine run_at (i := 8) rfl (by kernel_rfl) (by rfl) (fun K hK => ?_)
    simp only [List.getElem_toArray, List.getElem_cons_zero, List.getElem_cons_succ]
    go_simp
    go_wp2_with fail
    refine hK.out _ _ (by first | exact hs4 | assumption | (refine ⟨?_, ?_, ?_, ?_⟩ <;> (first | exact cellA hs4.1 | exact cellA hs4.2.1 | exact cellA hs4.2.2.1 | exact cellA hs4.2.2.2)) | exact cells4 (grown_blk hgz (below_blk (alS (Below.refl _ _).drew _) HC4.out) HN5.out)) ?_
    clear hK K
    intro hHeld2
    clear hHeld
    have hHeld := hHeld2
    clear hHeld2
    try simp only [Act.put, List.setIfInBounds_toArray, List.set_cons_zero, List.set_cons_succ]
    refine run_at (i := 9) rfl (by kernel_rfl) (by rfl) (fun K hK => ?_)
    simp only [List.getElem_toArray, List.getElem_cons_zero, List.getElem_cons_succ]
    ((refine wpo_storeP (W := w) _ _ rfl _ _ _ _ _ _ (by rfl) (by rfl) (by simp [Value.oneCell']) _ _ _ _ _ _ (heap_alloc_new _ _) (alS HB4.out.drew _) HB4.out.size ?_; intro z5 hz hcz hgz))
    refine hK.out _ _ (by first | exact hs4 | assumption | (refine ⟨?_, ?_, ?_, ?_⟩ <;> (first | exact cellA hs4.1 | exact cellA hs4.2.1 | exact cellA hs4.2.2.1 | exact cellA hs4.2.2.2)) | exact cells4 (grown_blk hgz (below_blk (alS (Below.refl _ _).drew _) HC4.out) HN5.out)) ?_
    clear hK K
    intro hHeld2
    clear hHeld
    have hHeld := hHeld2
    clear hHeld2
    try simp only [Act.put, List.setIfInBounds_toArray, List.set_cons_zero, List.set_cons_succ]
    refine wpAnyH_done (by kernel_rfl) ?_ _
    have HB5 : Hid (Below w.heap.size w z5.drew) := hz.drew
    have HC5 : Hid (z5.drew.heap[u4.heap.size]? = some (.cells #[.int .u64 (N : Int), .int .u64 (E : Int), .int .i64 (L : Int), .int .i64 (I : Int), .slice (some ⟨q, o + 20, none⟩) (KD - 20) (cap - 20)] tPc (0, 0))) := hcz
    have HZ5 : Hid (z5.drew.heap[w.heap.size]? = some (.cells #[.int .u64 0, .int .u64 0, .int .i64 0, .int .i64 0, .slice none 0 0] tPc (0, 0))) := (show z5.heap[w.heap.size]? = _ from grown_blk hgz (below_blk (alS (Below.refl _ _).drew _) HZ4.out) HN4.out.symm)
    have hs5 := cells5 HC5.out
    clear hz hcz hgz
    go_wp2_with fail
    refine wp_region_held_drew (S := (fun u => u.cell? ⟨u4.heap.size, 0, none⟩ = some (.int .u64 (N : Int)) ∧ u.cell? ⟨u4.heap.size, 1, none⟩ = some (.int .u64 (E : Int)) ∧ u.cell? ⟨u4.heap.size, 2, none⟩ = some (.int .i64 (L : Int)) ∧ u.cell? ⟨u4.heap.size, 3, none⟩ = some (.int .i64 (I : Int)) ∧ u.cell? ⟨u4.heap.size, 4, none⟩ = some (.slice (some ⟨q, o + 20, none⟩) (KD - 20) (cap - 20)))) (by kernel_rfl) (by first | exact hs5 | assumption) (fun hHeld => ?_)
    refine take_at (i := 0) 43 (v := .agg #[.int .u64 (N : Int), .int .u64 (E : Int), .int .i64 (L : Int), .int .i64 (I : Int), .slice (some ⟨q, o + 20, none⟩) (KD - 20) (cap - 20)]) rfl rfl (by kernel_rfl) (by kernel_rfl) (by kernel_rfl) (fun _ _ _ h => h) (by rfl) ?_ hHeld ?_
    · (intro w hSw; refine exec_loadS (by rfl) ?_; exact pcLoad hSw)
    simp only [Act.put, List.setIfInBounds_toArray, List.set_cons_zero, List.set_cons_succ]
    refine take_at (i := 1) 44 (v := ?_) rfl rfl (by kernel_rfl) (by kernel_rfl) (by kernel_rfl) (fun _ _ _ h => h) (by rfl) ?_ hHeld ?_
    rotate_left
    · (intro w hSw; (try dsimp only at hSw); go_simp; try with_reducible rfl)
    simp only [Act.put, List.setIfInBounds_toArray, List.set_cons_zero, List.set_cons_succ]
    refine take_at (i := 2) 45 (v := .agg #[.int .u64 (N : Int), .int .u64 (E : Int), .int .i64 (L : Int), .int .i64 (I : Int), .slice (some ⟨q, o + 20, none⟩) (KD - 20) (cap - 20)]) rfl rfl (by kernel_rfl) (by kernel_rfl) (by kernel_rfl) (fun _ _ _ h => h) (by rfl) ?_ hHeld ?_
    · (intro w hSw; refine exec_loadS (by rfl) ?_; exact pcLoad hSw)
    simp only [Act.put, List.setIfInBounds_toArray, List.set_cons_zero, List.set_cons_succ]
    refine run_at (i := 3) rfl (by kernel_rfl) (by rfl) (fun K hK => ?_)
    simp only [List.getElem_toArray, List.getElem_cons_zero, List.getElem_cons_succ]
    (go_simp; go_at_call 69; refine Calls.mono (pieceText_t N E L I (some ⟨q, o + 20, none⟩) (KD - 20) (cap - 20) ((xs.drop 20).take (KD - 20)) HKL.out HK4.out (fun h => by cases h) hN hE (by omega) (by omega) _ (rd_part (Rd.below HRX.out HB5.out) 20 (KD - 20)) (HT.out.below HB5.out)) ?_; rintro er y6 ⟨v6, rfl, ho6, hb6⟩; obtain ⟨a6, c6, hv6, -⟩ := Own.val ho6; rw [pcT_len _ _ _ _ _ (by rw [← HKL.out]; exact HK4.out)] at hv6; subst hv6; have HO6 : Hid (Rd y6 a6 (pcT N E L I ((xs.drop 20).take (KD - 20)))) := Rd.of_own ho6; have HB6 : Hid (Below w.heap.size w y6) := below_next HB5.out hb6; have HC6 : Hid (y6.heap[u4.heap.size]? = some (.cells #[.int .u64 (N : Int), .int .u64 (E : Int), .int .i64 (L : Int), .int .i64 (I : Int), .slice (some ⟨q, o + 20, none⟩) (KD - 20) (cap - 20)] tPc (0, 0))) := below_blk hb6 HC5.out; have HZ6 : Hid (y6.heap[w.heap.size]? = some (.cells #[.int .u64 0, .int .u64 0, .int .i64 0, .int .i64 0, .slice none 0 0] tPc (0, 0))) := below_blk hb6 HZ5.out; have hs6 := cells5 HC6.out; clear ho6 hb6 hs5; go_wp2_with fail)
    refine hK.out _ _ (by first | exact hs5 | assumption) ?_
    clear hK K
    intro hHeld2
    clear hHeld
    have hHeld := hHeld2
    clear hHeld2
    try simp only [Act.put, List.setIfInBounds_toArray, List.set_cons_zero, List.set_cons_succ]
    refine run_at (i := 4) rfl (by kernel_rfl) (by rfl) (fun K hK => ?_)
    simp only [List.getElem_toArray, List.getElem_cons_zero, List.getElem_cons_succ]
    (go_simp; go_at_call 73; refine Calls.mono (show Calls _ _ _ _ (fun e w' => e = .returned (.bool bb) ∧ w' = _) by rw [HBB.out]; exact equal_t _ 128 cap xs hx.out.symm a6 128 c6 _ (pcT_len _ _ _ _ _ (by rw [← HKL.out]; exact HK4.out)).symm _ (Rd.below HRX.out HB6.out) HO6.out) ?_; rintro er u9 ⟨rfl, rfl⟩; go_wp2_with fail)
    refine hK.out _ _ (by first | exact hs5 | assumption) ?_
    clear hK K
    intro hHeld2
    clear hHeld
    have hHeld := hHeld2
    clear hHeld2
    try simp only [Act.put, List.setIfInBounds_toArray, List.set_cons_zero, List.set_cons_succ]
    refine run_at (i := 5) rfl (by kernel_rfl) (by rfl) (fun K hK => ?_)
    simp only [List.getElem_toArray, List.getElem_cons_zero, List.getElem_cons_succ]
    ((refine wpo_storeP (W := w) _ _ rfl _ _ _ _ _ _ (by rfl) (by rfl) (by simp [Value.oneCell']) _ _ _ _ _ _ HZ6.out HB6.out (Nat.le_refl _) ?_; intro y7 hz hcz hgz; have HB7 : Hid (Below w.heap.size w y7) := hz; have HZ7 : Hid (y7.heap[w.heap.size]? = some (.cells #[.int .u64 (N : Int), .int .u64 (E : Int), .int .i64 (L : Int), .int .i64 (I : Int), .slice (some ⟨q, o + 20, none⟩) (KD - 20) (cap - 20)] tPc (0, 0))) := hcz; have hs7 := cells5 (grown_blk hgz HC6.out HN4.out); clear hz hcz hgz hs6))
    refine hK.out _ _ (by first | exact hs5 | assumption) ?_
    clear hK K
    intro hHeld2
    clear hHeld
    have hHeld := hHeld2
    clear hHeld2
    try simp only [Act.put, List.setIfInBounds_toArray, List.set_cons_zero, List.set_cons_succ]
    refine take_at (i := 6) 3 (v := ?_) rfl rfl (by kernel_rfl) (by kernel_rfl) (by kernel_rfl) (fun _ _ _ h => h) (by rfl) ?_ hHeld ?_
    rotate_left
    · (intro w hSw; (try dsimp only at hSw); go_simp; try with_reducible rfl)
    simp only [Act.put, List.setIfInBounds_toArray, List.set_cons_zero, List.set_cons_succ]
    refine wpAnyH_done (by kernel_rfl) ?_ _
    obtain ⟨k0, k1, k2, k3, k4⟩ := cells5 HZ7.out
    go_wp2_with fail
    refine bodyPost_ret (v := .tuple #[pcV N E L I (.slice (some ⟨q, o + 20, none⟩) (KD - 20) (cap - 20)), .bool bb]) (by simp [results, Tryd.results79, go_sem, k0, k1, k2, k3, k4]) rfl ⟨by rw [HBB.out], HB7.out⟩
  focus
    have HBz : Hid (Below w.heap.size w z.drew) := hz.drew
    have HCz : Hid (z.drew.heap[w1.heap.size]? = some (.cells #[.int .u64 (N : Int), .int .u64 (E : Int), .int .i64 (L : Int), .int .i64 (I : Int)] tLb (0, 0))) := hcz
    have HZz : Hid (z.drew.heap[w.heap.size]? = some (.cells #[.int .u64 0, .int .u64 0, .int .i64 0, .int .i64 0, .slice none 0 0] tPc (0, 0))) := (show z.heap[w.heap.size]? = _ from grown_blk hgz (below_blk (alS (Below.refl _ _).drew _) HC1.out) HNE.out.symm)
    have hsz := cells4 HCz.out
    clear hz hcz hgz
    go_wp2_with fail
    refine wp_region_held_drew (S := (fun u => u.cell? ⟨w1.heap.size, 0, none⟩ = some (.int .u64 (N : Int)) ∧ u.cell? ⟨w1.heap.size, 1, none⟩ = some (.int .u64 (E : Int)) ∧ u.cell? ⟨w1.heap.size, 2, none⟩ = some (.int .i64 (L : Int)) ∧ u.cell? ⟨w1.heap.size, 3, none⟩ = some (.int .i64 (I : Int)))) (by kernel_rfl) (by first | exact hsz | assumption) (fun hHeld => ?_)
    refine take_at (i := 0) 23 (v := ?_) rfl rfl (by kernel_rfl) (by kernel_rfl) (by kernel_rfl) (fun _ _ _ h => h) (by rfl) ?_ hHeld ?_
    rotate_left
    · (intro w hSw; (try dsimp only at hSw); go_simp; try with_reducible rfl)
    simp only [Act.put, List.setIfInBounds_toArray, List.set_cons_zero, List.set_cons_succ]
    refine take_at (i := 1) 24 (v := ?_) rfl rfl (by kernel_rfl) (by kernel_rfl) (by kernel_rfl) (fun _ _ _ h => h) (by rfl) ?_ hHeld ?_
    rotate_left
    · (intro w hSw; (try dsimp only at hSw); go_simp; try with_reducible rfl)
    simp only [Act.put, List.setIfInBounds_toArray, List.set_cons_zero, List.set_cons_succ]
    refine take_at (i := 2) 25 (v := ?_) rfl rfl (by kernel_rfl) (by kernel_rfl) (by kernel_rfl) (fun _ _ _ h => h) (by rfl) ?_ hHeld ?_
    rotate_left
    · (intro w hSw; (try dsimp only at hSw); go_simp; try with_reducible rfl)
    simp only [Act.put, List.setIfInBounds_toArray, List.set_cons_zero, List.set_cons_succ]
    refine take_at (i := 3) 26 (v := ?_) rfl rfl (by kernel_rfl) (by kernel_rfl) (by kernel_rfl) (fun _ _ _ h => h) (by rfl) ?_ hHeld ?_
    rotate_left
    · (intro w hSw; (try dsimp only at hSw); go_simp; try with_reducible rfl)
    simp only [Act.put, List.setIfInBounds_toArray, List.set_cons_zero, List.set_cons_succ]
    refine run_at (i := 4) rfl (by kernel_rfl) (by rfl) (fun K hK => ?_)
    simp only [List.getElem_toArray, List.getElem_cons_zero, List.getElem_cons_succ]
    (go_simp; go_at_call 11; refine Calls.mono (HND.out _) ?_; rintro er u9 ⟨rfl, rfl⟩; go_wp2_with fail)
    refine hK.out _ _ (by first | exact hsz | assumption) ?_
    clear hK K
    intro hHeld2
    clear hHeld
    have hHeld := hHeld2
    clear hHeld2
    try simp only [Act.put, List.setIfInBounds_toArray, List.set_cons_zero, List.set_cons_succ]
    refine take_at (i := 5) 28 (v := .bool false) rfl rfl (by kernel_rfl) (by kernel_rfl) (by kernel_rfl) (fun _ _ _ h => h) (by rfl) ?_ hHeld ?_
    · (intro w hSw; (try dsimp only at hSw); go_simp; first | done | with_reducible rfl | omega | (simp; omega))
    simp only [Act.put, List.setIfInBounds_toArray, List.set_cons_zero, List.set_cons_succ]
    refine wpAnyH_done (by kernel_rfl) ?_ _
    obtain ⟨u3, hu3⟩ : ∃ X : World, X = z.drew := ⟨_, rfl⟩
    rw [← hu3]
    rw [← hu3] at HZz HBz HCz
    have hs3 := cells4 HCz.out
    clear hsz hHeld hu3
    go_wp2_with fail
    refine Calls.mono (HSP.out u3) ?_
    rintro er u4 ⟨rfl, hb4⟩
    have HB4 : Hid (Below w.heap.size w u4) := below_next HBz.out hb4
    have HC4 : Hid (u4.heap[w1.heap.size]? = some (.cells #[.int .u64 (N : Int), .int .u64 (E : Int), .int .i64 (L : Int), .int .i64 (I : Int)] tLb (0, 0))) := below_blk hb4 HCz.out
    have HZ4 : Hid (u4.heap[w.heap.size]? = some (.cells #[.int .u64 0, .int .u64 0, .int .i64 0, .int .i64 0, .slice none 0 0] tPc (0, 0))) := below_blk hb4 HZz.out
    have hs4 := cells4 HC4.out
    have HN4 : Hid (u4.heap.size ≠ w.heap.size) := (show _ ≠ _ by have := (Array.getElem?_eq_some_iff.1 HZ4.out).1; omega)
    have HN5 : Hid (w1.heap.size ≠ u4.heap.size) := (show _ ≠ _ by have := (Array.getElem?_eq_some_iff.1 HC4.out).1; omega)
    clear hb4 hs3 HBz HCz HZz
    go_wp2_with fail
    refine wp_region_held_drew (S := (fun u => u.cell? ⟨w1.heap.size, 0, none⟩ = some (.int .u64 (N : Int)) ∧ u.cell? ⟨w1.heap.size, 1, none⟩ = some (.int .u64 (E : Int)) ∧ u.cell? ⟨w1.heap.size, 2, none⟩ = some (.int .i64 (L : Int)) ∧ u.cell? ⟨w1.heap.size, 3, none⟩ = some (.int .i64 (I : Int)))) (by kernel_rfl) (by first | exact hs4 | assumption | (refine ⟨?_, ?_, ?_, ?_⟩ <;> (first | exact cellA hs4.1 | exact cellA hs4.2.1 | exact cellA hs4.2.2.1 | exact cellA hs4.2.2.2)) | exact cells4 (grown_blk hgz (below_blk (alS (Below.refl _ _).drew _) HC4.out) HN5.out)) (fun hHeld => ?_)
    refine take_at (i := 0) 35 (v := ?_) rfl rfl (by kernel_rfl) (by kernel_rfl) (by kernel_rfl) (fun _ _ _ h => h) (by rfl) ?_ hHeld ?_
    rotate_left
    · (intro w hSw; (try dsimp only at hSw); go_simp; try with_reducible rfl)
    simp only [Act.put, List.setIfInBounds_toArray, List.set_cons_zero, List.set_cons_succ]
    refine take_at (i := 1) 36 (v := ?_) rfl rfl (by kernel_rfl) (by kernel_rfl) (by kernel_rfl) (fun _ _ _ h => h) (by rfl) ?_ hHeld ?_
    rotate_left
    · (intro w hSw; (try dsimp only at hSw); go_simp; try with_reducible rfl)
    simp only [Act.put, List.setIfInBounds_toArray, List.set_cons_zero, List.set_cons_succ]
    refine take_at (i := 2) 37 (v := ?_) rfl rfl (by kernel_rfl) (by kernel_rfl) (by kernel_rfl) (fun _ _ _ h => h) (by rfl) ?_ hHeld ?_
    rotate_left
    · (intro w hSw; (try dsimp only at hSw); go_simp; try with_reducible rfl)
    simp only [Act.put, List.setIfInBounds_toArray, List.set_cons_zero, List.set_cons_succ]
    refine take_at (i := 3) 38 (v := .int .i64 (T2 : Int)) rfl rfl (by kernel_rfl) (by kernel_rfl) (by kernel_rfl) (fun _ _ _ h => h) (by rfl) ?_ hHeld ?_
    · (intro w hSw; (try dsimp only at hSw); go_simp; try with_reducible rfl)
    simp only [Act.put, List.setIfInBounds_toArray, List.set_cons_zero, List.set_cons_succ]
    refine take_at (i := 4) 39 (v := ?_) rfl rfl (by kernel_rfl) (by kernel_rfl) (by kernel_rfl) (fun _ _ _ h => h) (by rfl) ?_ hHeld ?_
    rotate_left
    · (intro w hSw; (try dsimp only at hSw); go_simp; try with_reducible rfl)
    simp only [Act.put, List.setIfInBounds_toArray, List.set_cons_zero, List.set_cons_succ]
    refine take_at (i := 5) 40 (v := .int .i64 (KD : Int)) rfl rfl (by kernel_rfl) (by kernel_rfl) (by kernel_rfl) (fun _ _ _ h => h) (by rfl) ?_ hHeld ?_
    · (intro w hSw; (try dsimp only at hSw); go_simp; try with_reducible rfl)
    simp only [Act.put, List.setIfInBounds_toArray, List.set_cons_zero, List.set_cons_succ]
    refine take_at (i := 6) 41 (v := ?_) rfl rfl (by kernel_rfl) (by kernel_rfl) (by kernel_rfl) (fun _ _ _ h => h) (by rfl) ?_ hHeld ?_
    rotate_left
    · (intro w hSw; (try dsimp only at hSw); go_simp; try with_reducible rfl)
    simp only [Act.put, List.setIfInBounds_toArray, List.set_cons_zero, List.set_cons_succ]
    refine take_at (i := 7) 42 (v := ?_) rfl rfl (by kernel_rfl) (by kernel_rfl) (by kernel_rfl) (fun _ _ _ h => h) (by rfl) ?_ hHeld ?_
    rotate_left
    · (intro w hSw; (try dsimp only at hSw); go_simp; try with_reducible rfl)
    simp only [Act.put, List.setIfInBounds_toArray, List.set_cons_zero, List.set_cons_succ]
    refine run_at (i := 8) rfl (by kernel_rfl) (by rfl) (fun K hK => ?_)
    simp only [List.getElem_toArray, List.getElem_cons_zero, List.getElem_cons_succ]
    go_simp
    go_wp2_with fail
    refine hK.out _ _ (by first | exact hs4 | assumption | (refine ⟨?_, ?_, ?_, ?_⟩ <;> (first | exact cellA hs4.1 | exact cellA hs4.2.1 | exact cellA hs4.2.2.1 | exact cellA hs4.2.2.2)) | exact cells4 (grown_blk hgz (below_blk (alS (Below.refl _ _).drew _) HC4.out) HN5.out)) ?_
    clear hK K
    intro hHeld2
    clear hHeld
    have hHeld := hHeld2
    clear hHeld2
    try simp only [Act.put, List.setIfInBounds_toArray, List.set_cons_zero, List.set_cons_succ]
    refine run_at (i := 9) rfl (by kernel_rfl) (by rfl) (fun K hK => ?_)
    simp only [List.getElem_toArray, List.getElem_cons_zero, List.getElem_cons_succ]
    ((refine wpo_storeP (W := w) _ _ rfl _ _ _ _ _ _ (by rfl) (by rfl) (by simp [Value.oneCell']) _ _ _ _ _ _ (heap_alloc_new _ _) (alS HB4.out.drew _) HB4.out.size ?_; intro z5 hz hcz hgz))
    refine hK.out _ _ (by first | exact hs4 | assumption | (refine ⟨?_, ?_, ?_, ?_⟩ <;> (first | exact cellA hs4.1 | exact cellA hs4.2.1 | exact cellA hs4.2.2.1 | exact cellA hs4.2.2.2)) | exact cells4 (grown_blk hgz (below_blk (alS (Below.refl _ _).drew _) HC4.out) HN5.out)) ?_
    clear hK K
    intro hHeld2
    clear hHeld
    have hHeld := hHeld2
    clear hHeld2
    try simp only [Act.put, List.setIfInBounds_toArray, List.set_cons_zero, List.set_cons_succ]
    refine wpAnyH_done (by kernel_rfl) ?_ _
    have HB5 : Hid (Below w.heap.size w z5.drew) := hz.drew
    have HC5 : Hid (z5.drew.heap[u4.heap.size]? = some (.cells #[.int .u64 (N : Int), .int .u64 (E : Int), .int .i64 (L : Int), .int .i64 (I : Int), .slice (some ⟨q, o + 20, none⟩) (KD - 20) (cap - 20)] tPc (0, 0))) := hcz
    have HZ5 : Hid (z5.drew.heap[w.heap.size]? = some (.cells #[.int .u64 0, .int .u64 0, .int .i64 0, .int .i64 0, .slice none 0 0] tPc (0, 0))) := (show z5.heap[w.heap.size]? = _ from grown_blk hgz (below_blk (alS (Below.refl _ _).drew _) HZ4.out) HN4.out.symm)
    have hs5 := cells5 HC5.out
    clear hz hcz hgz
    go_wp2_with fail
    refine wp_region_held_drew (S := (fun u => u.cell? ⟨u4.heap.size, 0, none⟩ = some (.int .u64 (N : Int)) ∧ u.cell? ⟨u4.heap.size, 1, none⟩ = some (.int .u64 (E : Int)) ∧ u.cell? ⟨u4.heap.size, 2, none⟩ = some (.int .i64 (L : Int)) ∧ u.cell? ⟨u4.heap.size, 3, none⟩ = some (.int .i64 (I : Int)) ∧ u.cell? ⟨u4.heap.size, 4, none⟩ = some (.slice (some ⟨q, o + 20, none⟩) (KD - 20) (cap - 20)))) (by kernel_rfl) (by first | exact hs5 | assumption) (fun hHeld => ?_)
    refine take_at (i := 0) 43 (v := .agg #[.int .u64 (N : Int), .int .u64 (E : Int), .int .i64 (L : Int), .int .i64 (I : Int), .slice (some ⟨q, o + 20, none⟩) (KD - 20) (cap - 20)]) rfl rfl (by kernel_rfl) (by kernel_rfl) (by kernel_rfl) (fun _ _ _ h => h) (by rfl) ?_ hHeld ?_
    · (intro w hSw; refine exec_loadS (by rfl) ?_; exact pcLoad hSw)
    simp only [Act.put, List.setIfInBounds_toArray, List.set_cons_zero, List.set_cons_succ]
    refine take_at (i := 1) 44 (v := ?_) rfl rfl (by kernel_rfl) (by kernel_rfl) (by kernel_rfl) (fun _ _ _ h => h) (by rfl) ?_ hHeld ?_
    rotate_left
    · (intro w hSw; (try dsimp only at hSw); go_simp; try with_reducible rfl)
    simp only [Act.put, List.setIfInBounds_toArray, List.set_cons_zero, List.set_cons_succ]
    refine take_at (i := 2) 45 (v := .agg #[.int .u64 (N : Int), .int .u64 (E : Int), .int .i64 (L : Int), .int .i64 (I : Int), .slice (some ⟨q, o + 20, none⟩) (KD - 20) (cap - 20)]) rfl rfl (by kernel_rfl) (by kernel_rfl) (by kernel_rfl) (fun _ _ _ h => h) (by rfl) ?_ hHeld ?_
    · (intro w hSw; refine exec_loadS (by rfl) ?_; exact pcLoad hSw)
    simp only [Act.put, List.setIfInBounds_toArray, List.set_cons_zero, List.set_cons_succ]
    refine run_at (i := 3) rfl (by kernel_rfl) (by rfl) (fun K hK => ?_)
    simp only [List.getElem_toArray, List.getElem_cons_zero, List.getElem_cons_succ]
    (go_simp; go_at_call 69; refine Calls.mono (pieceText_t N E L I (some ⟨q, o + 20, none⟩) (KD - 20) (cap - 20) ((xs.drop 20).take (KD - 20)) HKL.out HK4.out (fun h => by cases h) hN hE (by omega) (by omega) _ (rd_part (Rd.below HRX.out HB5.out) 20 (KD - 20)) (HT.out.below HB5.out)) ?_; rintro er y6 ⟨v6, rfl, ho6, hb6⟩; obtain ⟨a6, c6, hv6, -⟩ := Own.val ho6; rw [pcT_len _ _ _ _ _ (by rw [← HKL.out]; exact HK4.out)] at hv6; subst hv6; have HO6 : Hid (Rd y6 a6 (pcT N E L I ((xs.drop 20).take (KD - 20)))) := Rd.of_own ho6; have HB6 : Hid (Below w.heap.size w y6) := below_next HB5.out hb6; have HC6 : Hid (y6.heap[u4.heap.size]? = some (.cells #[.int .u64 (N : Int), .int .u64 (E : Int), .int .i64 (L : Int), .int .i64 (I : Int), .slice (some ⟨q, o + 20, none⟩) (KD - 20) (cap - 20)] tPc (0, 0))) := below_blk hb6 HC5.out; have HZ6 : Hid (y6.heap[w.heap.size]? = some (.cells #[.int .u64 0, .int .u64 0, .int .i64 0, .int .i64 0, .slice none 0 0] tPc (0, 0))) := below_blk hb6 HZ5.out; have hs6 := cells5 HC6.out; clear ho6 hb6 hs5; go_wp2_with fail)
    refine hK.out _ _ (by first | exact hs5 | assumption) ?_
    clear hK K
    intro hHeld2
    clear hHeld
    have hHeld := hHeld2
    clear hHeld2
    try simp only [Act.put, List.setIfInBounds_toArray, List.set_cons_zero, List.set_cons_succ]
    refine run_at (i := 4) rfl (by kernel_rfl) (by rfl) (fun K hK => ?_)
    simp only [List.getElem_toArray, List.getElem_cons_zero, List.getElem_cons_succ]
    (go_simp; go_at_call 73; refine Calls.mono (show Calls _ _ _ _ (fun e w' => e = .returned (.bool bb) ∧ w' = _) by rw [HBB.out]; exact equal_t _ 128 cap xs hx.out.symm a6 128 c6 _ (pcT_len _ _ _ _ _ (by rw [← HKL.out]; exact HK4.out)).symm _ (Rd.below HRX.out HB6.out) HO6.out) ?_; rintro er u9 ⟨rfl, rfl⟩; go_wp2_with fail)
    refine hK.out _ _ (by first | exact hs5 | assumption) ?_
    clear hK K
    intro hHeld2
    clear hHeld
    have hHeld := hHeld2
    clear hHeld2
    try simp only [Act.put, List.setIfInBounds_toArray, List.set_cons_zero, List.set_cons_succ]
    refine run_at (i := 5) rfl (by kernel_rfl) (by rfl) (fun K hK => ?_)
    simp only [List.getElem_toArray, List.getElem_cons_zero, List.getElem_cons_succ]
    ((refine wpo_storeP (W := w) _ _ rfl _ _ _ _ _ _ (by rfl) (by rfl) (by simp [Value.oneCell']) _ _ _ _ _ _ HZ6.out HB6.out (Nat.le_refl _) ?_; intro y7 hz hcz hgz; have HB7 : Hid (Below w.heap.size w y7) := hz; have HZ7 : Hid (y7.heap[w.heap.size]? = some (.cells #[.int .u64 (N : Int), .int .u64 (E : Int), .int .i64 (L : Int), .int .i64 (I : Int), .slice (some ⟨q, o + 20, none⟩) (KD - 20) (cap - 20)] tPc (0, 0))) := hcz; have hs7 := cells5 (grown_blk hgz HC6.out HN4.out); clear hz hcz hgz hs6))
    refine hK.out _ _ (by first | exact hs5 | assumption) ?_
    clear hK K
    intro hHeld2
    clear hHeld
    have hHeld := hHeld2
    clear hHeld2
    try simp only [Act.put, List.setIfInBounds_toArray, List.set_cons_zero, List.set_cons_succ]
    refine take_at (i := 6) 3 (v := ?_) rfl rfl (by kernel_rfl) (by kernel_rfl) (by kernel_rfl) (fun _ _ _ h => h) (by rfl) ?_ hHeld ?_
    rotate_left
    · (intro w hSw; (try dsimp only at hSw); go_simp; try with_reducible rfl)
    simp only [Act.put, List.setIfInBounds_toArray, List.set_cons_zero, List.set_cons_succ]
    refine wpAnyH_done (by kernel_rfl) ?_ _
    obtain ⟨k0, k1, k2, k3, k4⟩ := cells5 HZ7.out
    go_wp2_with fail
    refine bodyPost_ret (v := .tuple #[pcV N E L I (.slice (some ⟨q, o + 20, none⟩) (KD - 20) (cap - 20)), .bool bb]) (by simp [results, Tryd.results79, go_sem, k0, k1, k2, k3, k4]) rfl ⟨by rw [HBB.out], HB7.out⟩
  focus
    have HBz : Hid (Below w.heap.size w z.drew) := hz.drew
    have HCz : Hid (z.drew.heap[w1.heap.size]? = some (.cells #[.int .u64 (N : Int), .int .u64 (E : Int), .int .i64 (L : Int), .int .i64 (I : Int)] tLb (0, 0))) := hcz
    have HZz : Hid (z.drew.heap[w.heap.size]? = some (.cells #[.int .u64 0, .int .u64 0, .int .i64 0, .int .i64 0, .slice none 0 0] tPc (0, 0))) := (show z.heap[w.heap.size]? = _ from grown_blk hgz (below_blk (alS (Below.refl _ _).drew _) HC1.out) HNE.out.symm)
    have hsz := cells4 HCz.out
    clear hz hcz hgz
    go_wp2_with fail
    refine wp_region_held_drew (S := (fun u => u.cell? ⟨w1.heap.size, 0, none⟩ = some (.int .u64 (N : Int)) ∧ u.cell? ⟨w1.heap.size, 1, none⟩ = some (.int .u64 (E : Int)) ∧ u.cell? ⟨w1.heap.size, 2, none⟩ = some (.int .i64 (L : Int)) ∧ u.cell? ⟨w1.heap.size, 3, none⟩ = some (.int .i64 (I : Int)))) (by kernel_rfl) (by first | exact hsz | assumption) (fun hHeld => ?_)
    refine take_at (i := 0) 23 (v := ?_) rfl rfl (by kernel_rfl) (by kernel_rfl) (by kernel_rfl) (fun _ _ _ h => h) (by rfl) ?_ hHeld ?_
    rotate_left
    · (intro w hSw; (try dsimp only at hSw); go_simp; try with_reducible rfl)
    simp only [Act.put, List.setIfInBounds_toArray, List.set_cons_zero, List.set_cons_succ]
    refine take_at (i := 1) 24 (v := ?_) rfl rfl (by kernel_rfl) (by kernel_rfl) (by kernel_rfl) (fun _ _ _ h => h) (by rfl) ?_ hHeld ?_
    rotate_left
    · (intro w hSw; (try dsimp only at hSw); go_simp; try with_reducible rfl)
    simp only [Act.put, List.setIfInBounds_toArray, List.set_cons_zero, List.set_cons_succ]
    refine take_at (i := 2) 25 (v := ?_) rfl rfl (by kernel_rfl) (by kernel_rfl) (by kernel_rfl) (fun _ _ _ h => h) (by rfl) ?_ hHeld ?_
    rotate_left
    · (intro w hSw; (try dsimp only at hSw); go_simp; try with_reducible rfl)
    simp only [Act.put, List.setIfInBounds_toArray, List.set_cons_zero, List.set_cons_succ]
    refine take_at (i := 3) 26 (v := ?_) rfl rfl (by kernel_rfl) (by kernel_rfl) (by kernel_rfl) (fun _ _ _ h => h) (by rfl) ?_ hHeld ?_
    rotate_left
    · (intro w hSw; (try dsimp only at hSw); go_simp; try with_reducible rfl)
    simp only [Act.put, List.setIfInBounds_toArray, List.set_cons_zero, List.set_cons_succ]
    refine run_at (i := 4) rfl (by kernel_rfl) (by rfl) (fun K hK => ?_)
    simp only [List.getElem_toArray, List.getElem_cons_zero, List.getElem_cons_succ]
    (go_simp; go_at_call 11; refine Calls.mono (HND.out _) ?_; rintro er u9 ⟨rfl, rfl⟩; go_wp2_with fail)
    refine hK.out _ _ (by first | exact hsz | assumption) ?_
    clear hK K
    intro hHeld2
    clear hHeld
    have hHeld := hHeld2
    clear hHeld2
    try simp only [Act.put, List.setIfInBounds_toArray, List.set_cons_zero, List.set_cons_succ]
    refine take_at (i := 5) 28 (v := .bool false) rfl rfl (by kernel_rfl) (by kernel_rfl) (by kernel_rfl) (fun _ _ _ h => h) (by rfl) ?_ hHeld ?_
    · (intro w hSw; (try dsimp only at hSw); go_simp; first | done | with_reducible rfl | omega | (simp; omega))
    simp only [Act.put, List.setIfInBounds_toArray, List.set_cons_zero, List.set_cons_succ]
    refine wpAnyH_done (by kernel_rfl) ?_ _
    obtain ⟨u3, hu3⟩ : ∃ X : World, X = z.drew := ⟨_, rfl⟩
    rw [← hu3]
    rw [← hu3] at HZz HBz HCz
    have hs3 := cells4 HCz.out
    clear hsz hHeld hu3
    go_wp2_with fail
    refine Calls.mono (HSP.out u3) ?_
    rintro er u4 ⟨rfl, hb4⟩
    have HB4 : Hid (Below w.heap.size w u4) := below_next HBz.out hb4
    have HC4 : Hid (u4.heap[w1.heap.size]? = some (.cells #[.int .u64 (N : Int), .int .u64 (E : Int), .int .i64 (L : Int), .int .i64 (I : Int)] tLb (0, 0))) := below_blk hb4 HCz.out
    have HZ4 : Hid (u4.heap[w.heap.size]? = some (.cells #[.int .u64 0, .int .u64 0, .int .i64 0, .int .i64 0, .slice none 0 0] tPc (0, 0))) := below_blk hb4 HZz.out
    have hs4 := cells4 HC4.out
    have HN4 : Hid (u4.heap.size ≠ w.heap.size) := (show _ ≠ _ by have := (Array.getElem?_eq_some_iff.1 HZ4.out).1; omega)
    have HN5 : Hid (w1.heap.size ≠ u4.heap.size) := (show _ ≠ _ by have := (Array.getElem?_eq_some_iff.1 HC4.out).1; omega)
    clear hb4 hs3 HBz HCz HZz
    go_wp2_with fail
    refine wp_region_held_drew (S := (fun u => u.cell? ⟨w1.heap.size, 0, none⟩ = some (.int .u64 (N : Int)) ∧ u.cell? ⟨w1.heap.size, 1, none⟩ = some (.int .u64 (E : Int)) ∧ u.cell? ⟨w1.heap.size, 2, none⟩ = some (.int .i64 (L : Int)) ∧ u.cell? ⟨w1.heap.size, 3, none⟩ = some (.int .i64 (I : Int)))) (by kernel_rfl) (by first | exact hs4 | assumption | (refine ⟨?_, ?_, ?_, ?_⟩ <;> (first | exact cellA hs4.1 | exact cellA hs4.2.1 | exact cellA hs4.2.2.1 | exact cellA hs4.2.2.2)) | exact cells4 (grown_blk hgz (below_blk (alS (Below.refl _ _).drew _) HC4.out) HN5.out)) (fun hHeld => ?_)
    refine take_at (i := 0) 35 (v := ?_) rfl rfl (by kernel_rfl) (by kernel_rfl) (by kernel_rfl) (fun _ _ _ h => h) (by rfl) ?_ hHeld ?_
    rotate_left
    · (intro w hSw; (try dsimp only at hSw); go_simp; try with_reducible rfl)
    simp only [Act.put, List.setIfInBounds_toArray, List.set_cons_zero, List.set_cons_succ]
    refine take_at (i := 1) 36 (v := ?_) rfl rfl (by kernel_rfl) (by kernel_rfl) (by kernel_rfl) (fun _ _ _ h => h) (by rfl) ?_ hHeld ?_
    rotate_left
    · (intro w hSw; (try dsimp only at hSw); go_simp; try with_reducible rfl)
    simp only [Act.put, List.setIfInBounds_toArray, List.set_cons_zero, List.set_cons_succ]
    refine take_at (i := 2) 37 (v := ?_) rfl rfl (by kernel_rfl) (by kernel_rfl) (by kernel_rfl) (fun _ _ _ h => h) (by rfl) ?_ hHeld ?_
    rotate_left
    · (intro w hSw; (try dsimp only at hSw); go_simp; try with_reducible rfl)
    simp only [Act.put, List.setIfInBounds_toArray, List.set_cons_zero, List.set_cons_succ]
    refine take_at (i := 3) 38 (v := .int .i64 (T2 : Int)) rfl rfl (by kernel_rfl) (by kernel_rfl) (by kernel_rfl) (fun _ _ _ h => h) (by rfl) ?_ hHeld ?_
    · (intro w hSw; (try dsimp only at hSw); go_simp; try with_reducible rfl)
    simp only [Act.put, List.setIfInBounds_toArray, List.set_cons_zero, List.set_cons_succ]
    refine take_at (i := 4) 39 (v := ?_) rfl rfl (by kernel_rfl) (by kernel_rfl) (by kernel_rfl) (fun _ _ _ h => h) (by rfl) ?_ hHeld ?_
    rotate_left
    · (intro w hSw; (try dsimp only at hSw); go_simp; try with_reducible rfl)
    simp only [Act.put, List.setIfInBounds_toArray, List.set_cons_zero, List.set_cons_succ]
    refine take_at (i := 5) 40 (v := .int .i64 (KD : Int)) rfl rfl (by kernel_rfl) (by kernel_rfl) (by kernel_rfl) (fun _ _ _ h => h) (by rfl) ?_ hHeld ?_
    · (intro w hSw; (try dsimp only at hSw); go_simp; try with_reducible rfl)
    simp only [Act.put, List.setIfInBounds_toArray, List.set_cons_zero, List.set_cons_succ]
    refine take_at (i := 6) 41 (v := ?_) rfl rfl (by kernel_rfl) (by kernel_rfl) (by kernel_rfl) (fun _ _ _ h => h) (by rfl) ?_ hHeld ?_
    rotate_left
    · (intro w hSw; (try dsimp only at hSw); go_simp; try with_reducible rfl)
    simp only [Act.put, List.setIfInBounds_toArray, List.set_cons_zero, List.set_cons_succ]
    refine take_at (i := 7) 42 (v := ?_) rfl rfl (by kernel_rfl) (by kernel_rfl) (by kernel_rfl) (fun _ _ _ h => h) (by rfl) ?_ hHeld ?_
    rotate_left
    · (intro w hSw; (try dsimp only at hSw); go_simp; try with_reducible rfl)
    simp only [Act.put, List.setIfInBounds_toArray, List.set_cons_zero, List.set_cons_succ]
    refine run_at (i := 8) rfl (by kernel_rfl) (by rfl) (fun K hK => ?_)
    simp only [List.getElem_toArray, List.getElem_cons_zero, List.getElem_cons_succ]
    go_simp
    go_wp2_with fail
    refine hK.out _ _ (by first | exact hs4 | assumption | (refine ⟨?_, ?_, ?_, ?_⟩ <;> (first | exact cellA hs4.1 | exact cellA hs4.2.1 | exact cellA hs4.2.2.1 | exact cellA hs4.2.2.2)) | exact cells4 (grown_blk hgz (below_blk (alS (Below.refl _ _).drew _) HC4.out) HN5.out)) ?_
    clear hK K
    intro hHeld2
    clear hHeld
    have hHeld := hHeld2
    clear hHeld2
    try simp only [Act.put, List.setIfInBounds_toArray, List.set_cons_zero, List.set_cons_succ]
    refine run_at (i := 9) rfl (by kernel_rfl) (by rfl) (fun K hK => ?_)
    simp only [List.getElem_toArray, List.getElem_cons_zero, List.getElem_cons_succ]
    ((refine wpo_storeP (W := w) _ _ rfl _ _ _ _ _ _ (by rfl) (by rfl) (by simp [Value.oneCell']) _ _ _ _ _ _ (heap_alloc_new _ _) (alS HB4.out.drew _) HB4.out.size ?_; intro z5 hz hcz hgz))
    refine hK.out _ _ (by first | exact hs4 | assumption | (refine ⟨?_, ?_, ?_, ?_⟩ <;> (first | exact cellA hs4.1 | exact cellA hs4.2.1 | exact cellA hs4.2.2.1 | exact cellA hs4.2.2.2)) | exact cells4 (grown_blk hgz (below_blk (alS (Below.refl _ _).drew _) HC4.out) HN5.out)) ?_
    clear hK K
    intro hHeld2
    clear hHeld
    have hHeld := hHeld2
    clear hHeld2
    try simp only [Act.put, List.setIfInBounds_toArray, List.set_cons_zero, List.set_cons_succ]
    refine wpAnyH_done (by kernel_rfl) ?_ _
    have HB5 : Hid (Below w.heap.size w z5.drew) := hz.drew
    have HC5 : Hid (z5.drew.heap[u4.heap.size]? = some (.cells #[.int .u64 (N : Int), .int .u64 (E : Int), .int .i64 (L : Int), .int .i64 (I : Int), .slice (some ⟨q, o + 20, none⟩) (KD - 20) (cap - 20)] tPc (0, 0))) := hcz
    have HZ5 : Hid (z5.drew.heap[w.heap.size]? = some (.cells #[.int .u64 0, .int .u64 0, .int .i64 0, .int .i64 0, .slice none 0 0] tPc (0, 0))) := (show z5.heap[w.heap.size]? = _ from grown_blk hgz (below_blk (alS (Below.refl _ _).drew _) HZ4.out) HN4.out.symm)
    have hs5 := cells5 HC5.out
    clear hz hcz hgz
    go_wp2_with fail
    refine wp_region_held_drew (S := (fun u => u.cell? ⟨u4.heap.size, 0, none⟩ = some (.int .u64 (N : Int)) ∧ u.cell? ⟨u4.heap.size, 1, none⟩ = some (.int .u64 (E : Int)) ∧ u.cell? ⟨u4.heap.size, 2, none⟩ = some (.int .i64 (L : Int)) ∧ u.cell? ⟨u4.heap.size, 3, none⟩ = some (.int .i64 (I : Int)) ∧ u.cell? ⟨u4.heap.size, 4, none⟩ = some (.slice (some ⟨q, o + 20, none⟩) (KD - 20) (cap - 20)))) (by kernel_rfl) (by first | exact hs5 | assumption) (fun hHeld => ?_)
    refine take_at (i := 0) 43 (v := .agg #[.int .u64 (N : Int), .int .u64 (E : Int), .int .i64 (L : Int), .int .i64 (I : Int), .slice (some ⟨q, o + 20, none⟩) (KD - 20) (cap - 20)]) rfl rfl (by kernel_rfl) (by kernel_rfl) (by kernel_rfl) (fun _ _ _ h => h) (by rfl) ?_ hHeld ?_
    · (intro w hSw; refine exec_loadS (by rfl) ?_; exact pcLoad hSw)
    simp only [Act.put, List.setIfInBounds_toArray, List.set_cons_zero, List.set_cons_succ]
    refine take_at (i := 1) 44 (v := ?_) rfl rfl (by kernel_rfl) (by kernel_rfl) (by kernel_rfl) (fun _ _ _ h => h) (by rfl) ?_ hHeld ?_
    rotate_left
    · (intro w hSw; (try dsimp only at hSw); go_simp; try with_reducible rfl)
    simp only [Act.put, List.setIfInBounds_toArray, List.set_cons_zero, List.set_cons_succ]
    refine take_at (i := 2) 45 (v := .agg #[.int .u64 (N : Int), .int .u64 (E : Int), .int .i64 (L : Int), .int .i64 (I : Int), .slice (some ⟨q, o + 20, none⟩) (KD - 20) (cap - 20)]) rfl rfl (by kernel_rfl) (by kernel_rfl) (by kernel_rfl) (fun _ _ _ h => h) (by rfl) ?_ hHeld ?_
    · (intro w hSw; refine exec_loadS (by rfl) ?_; exact pcLoad hSw)
    simp only [Act.put, List.setIfInBounds_toArray, List.set_cons_zero, List.set_cons_succ]
    refine run_at (i := 3) rfl (by kernel_rfl) (by rfl) (fun K hK => ?_)
    simp only [List.getElem_toArray, List.getElem_cons_zero, List.getElem_cons_succ]
    (go_simp; go_at_call 69; refine Calls.mono (pieceText_t N E L I (some ⟨q, o + 20, none⟩) (KD - 20) (cap - 20) ((xs.drop 20).take (KD - 20)) HKL.out HK4.out (fun h => by cases h) hN hE (by omega) (by omega) _ (rd_part (Rd.below HRX.out HB5.out) 20 (KD - 20)) (HT.out.below HB5.out)) ?_; rintro er y6 ⟨v6, rfl, ho6, hb6⟩; obtain ⟨a6, c6, hv6, -⟩ := Own.val ho6; rw [pcT_len _ _ _ _ _ (by rw [← HKL.out]; exact HK4.out)] at hv6; subst hv6; have HO6 : Hid (Rd y6 a6 (pcT N E L I ((xs.drop 20).take (KD - 20)))) := Rd.of_own ho6; have HB6 : Hid (Below w.heap.size w y6) := below_next HB5.out hb6; have HC6 : Hid (y6.heap[u4.heap.size]? = some (.cells #[.int .u64 (N : Int), .int .u64 (E : Int), .int .i64 (L : Int), .int .i64 (I : Int), .slice (some ⟨q, o + 20, none⟩) (KD - 20) (cap - 20)] tPc (0, 0))) := below_blk hb6 HC5.out; have HZ6 : Hid (y6.heap[w.heap.size]? = some (.cells #[.int .u64 0, .int .u64 0, .int .i64 0, .int .i64 0, .slice none 0 0] tPc (0, 0))) := below_blk hb6 HZ5.out; have hs6 := cells5 HC6.out; clear ho6 hb6 hs5; go_wp2_with fail)
    refine hK.out _ _ (by first | exact hs5 | assumption) ?_
    clear hK K
    intro hHeld2
    clear hHeld
    have hHeld := hHeld2
    clear hHeld2
    try simp only [Act.put, List.setIfInBounds_toArray, List.set_cons_zero, List.set_cons_succ]
    refine run_at (i := 4) rfl (by kernel_rfl) (by rfl) (fun K hK => ?_)
    simp only [List.getElem_toArray, List.getElem_cons_zero, List.getElem_cons_succ]
    (go_simp; go_at_call 73; refine Calls.mono (show Calls _ _ _ _ (fun e w' => e = .returned (.bool bb) ∧ w' = _) by rw [HBB.out]; exact equal_t _ 128 cap xs hx.out.symm a6 128 c6 _ (pcT_len _ _ _ _ _ (by rw [← HKL.out]; exact HK4.out)).symm _ (Rd.below HRX.out HB6.out) HO6.out) ?_; rintro er u9 ⟨rfl, rfl⟩; go_wp2_with fail)
    refine hK.out _ _ (by first | exact hs5 | assumption) ?_
    clear hK K
    intro hHeld2
    clear hHeld
    have hHeld := hHeld2
    clear hHeld2
    try simp only [Act.put, List.setIfInBounds_toArray, List.set_cons_zero, List.set_cons_succ]
    refine run_at (i := 5) rfl (by kernel_rfl) (by rfl) (fun K hK => ?_)
    simp only [List.getElem_toArray, List.getElem_cons_zero, List.getElem_cons_succ]
    ((refine wpo_storeP (W := w) _ _ rfl _ _ _ _ _ _ (by rfl) (by rfl) (by simp [Value.oneCell']) _ _ _ _ _ _ HZ6.out HB6.out (Nat.le_refl _) ?_; intro y7 hz hcz hgz; have HB7 : Hid (Below w.heap.size w y7) := hz; have HZ7 : Hid (y7.heap[w.heap.size]? = some (.cells #[.int .u64 (N : Int), .int .u64 (E : Int), .int .i64 (L : Int), .int .i64 (I : Int), .slice (some ⟨q, o + 20, none⟩) (KD - 20) (cap - 20)] tPc (0, 0))) := hcz; have hs7 := cells5 (grown_blk hgz HC6.out HN4.out); clear hz hcz hgz hs6))
    refine hK.out _ _ (by first | exact hs5 | assumption) ?_
    clear hK K
    intro hHeld2
    clear hHeld
    have hHeld := hHeld2
    clear hHeld2
    try simp only [Act.put, List.setIfInBounds_toArray, List.set_cons_zero, List.set_cons_succ]
    refine take_at (i := 6) 3 (v := ?_) rfl rfl (by kernel_rfl) (by kernel_rfl) (by kernel_rfl) (fun _ _ _ h => h) (by rfl) ?_ hHeld ?_
    rotate_left
    · (intro w hSw; (try dsimp only at hSw); go_simp; try with_reducible rfl)
    simp only [Act.put, List.setIfInBounds_toArray, List.set_cons_zero, List.set_cons_succ]
    refine wpAnyH_done (by kernel_rfl) ?_ _
    obtain ⟨k0, k1, k2, k3, k4⟩ := cells5 HZ7.out
    go_wp2_with fail
    refine bodyPost_ret (v := .tuple #[pcV N E L I (.slice (some ⟨q, o + 20, none⟩) (KD - 20) (cap - 20)), .bool bb]) (by simp [results, Tryd.results79, go_sem, k0, k1, k2, k3, k4]) rfl ⟨by rw [HBB.out], HB7.out⟩
  focus
    have HBz : Hid (Below w.heap.size w z.drew) := hz.drew
    have HCz : Hid (z.drew.heap[w1.heap.size]? = some (.cells #[.int .u64 (N : Int), .int .u64 (E : Int), .int .i64 (L : Int), .int .i64 (I : Int)] tLb (0, 0))) := hcz
    have HZz : Hid (z.drew.heap[w.heap.size]? = some (.cells #[.int .u64 0, .int .u64 0, .int .i64 0, .int .i64 0, .slice none 0 0] tPc (0, 0))) := (show z.heap[w.heap.size]? = _ from grown_blk hgz (below_blk (alS (Below.refl _ _).drew _) HC1.out) HNE.out.symm)
    have hsz := cells4 HCz.out
    clear hz hcz hgz
    go_wp2_with fail
    refine wp_region_held_drew (S := (fun u => u.cell? ⟨w1.heap.size, 0, none⟩ = some (.int .u64 (N : Int)) ∧ u.cell? ⟨w1.heap.size, 1, none⟩ = some (.int .u64 (E : Int)) ∧ u.cell? ⟨w1.heap.size, 2, none⟩ = some (.int .i64 (L : Int)) ∧ u.cell? ⟨w1.heap.size, 3, none⟩ = some (.int .i64 (I : Int)))) (by kernel_rfl) (by first | exact hsz | assumption) (fun hHeld => ?_)
    refine take_at (i := 0) 23 (v := ?_) rfl rfl (by kernel_rfl) (by kernel_rfl) (by kernel_rfl) (fun _ _ _ h => h) (by rfl) ?_ hHeld ?_
    rotate_left
    · (intro w hSw; (try dsimp only at hSw); go_simp; try with_reducible rfl)
    simp only [Act.put, List.setIfInBounds_toArray, List.set_cons_zero, List.set_cons_succ]
    refine take_at (i := 1) 24 (v := ?_) rfl rfl (by kernel_rfl) (by kernel_rfl) (by kernel_rfl) (fun _ _ _ h => h) (by rfl) ?_ hHeld ?_
    rotate_left
    · (intro w hSw; (try dsimp only at hSw); go_simp; try with_reducible rfl)
    simp only [Act.put, List.setIfInBounds_toArray, List.set_cons_zero, List.set_cons_succ]
    refine take_at (i := 2) 25 (v := ?_) rfl rfl (by kernel_rfl) (by kernel_rfl) (by kernel_rfl) (fun _ _ _ h => h) (by rfl) ?_ hHeld ?_
    rotate_left
    · (intro w hSw; (try dsimp only at hSw); go_simp; try with_reducible rfl)
    simp only [Act.put, List.setIfInBounds_toArray, List.set_cons_zero, List.set_cons_succ]
    refine take_at (i := 3) 26 (v := ?_) rfl rfl (by kernel_rfl) (by kernel_rfl) (by kernel_rfl) (fun _ _ _ h => h) (by rfl) ?_ hHeld ?_
    rotate_left
    · (intro w hSw; (try dsimp only at hSw); go_simp; try with_reducible rfl)
    simp only [Act.put, List.setIfInBounds_toArray, List.set_cons_zero, List.set_cons_succ]
    refine run_at (i := 4) rfl (by kernel_rfl) (by rfl) (fun K hK => ?_)
    simp only [List.getElem_toArray, List.getElem_cons_zero, List.getElem_cons_succ]
    (go_simp; go_at_call 11; refine Calls.mono (HND.out _) ?_; rintro er u9 ⟨rfl, rfl⟩; go_wp2_with fail)
    refine hK.out _ _ (by first | exact hsz | assumption) ?_
    clear hK K
    intro hHeld2
    clear hHeld
    have hHeld := hHeld2
    clear hHeld2
    try simp only [Act.put, List.setIfInBounds_toArray, List.set_cons_zero, List.set_cons_succ]
    refine take_at (i := 5) 28 (v := .bool false) rfl rfl (by kernel_rfl) (by kernel_rfl) (by kernel_rfl) (fun _ _ _ h => h) (by rfl) ?_ hHeld ?_
    · (intro w hSw; (try dsimp only at hSw); go_simp; first | done | with_reducible rfl | omega | (simp; omega))
    simp only [Act.put, List.setIfInBounds_toArray, List.set_cons_zero, List.set_cons_succ]
    refine wpAnyH_done (by kernel_rfl) ?_ _
    obtain ⟨u3, hu3⟩ : ∃ X : World, X = z.drew := ⟨_, rfl⟩
    rw [← hu3]
    rw [← hu3] at HZz HBz HCz
    have hs3 := cells4 HCz.out
    clear hsz hHeld hu3
    go_wp2_with fail
    refine Calls.mono (HSP.out u3) ?_
    rintro er u4 ⟨rfl, hb4⟩
    have HB4 : Hid (Below w.heap.size w u4) := below_next HBz.out hb4
    have HC4 : Hid (u4.heap[w1.heap.size]? = some (.cells #[.int .u64 (N : Int), .int .u64 (E : Int), .int .i64 (L : Int), .int .i64 (I : Int)] tLb (0, 0))) := below_blk hb4 HCz.out
    have HZ4 : Hid (u4.heap[w.heap.size]? = some (.cells #[.int .u64 0, .int .u64 0, .int .i64 0, .int .i64 0, .slice none 0 0] tPc (0, 0))) := below_blk hb4 HZz.out
    have hs4 := cells4 HC4.out
    have HN4 : Hid (u4.heap.size ≠ w.heap.size) := (show _ ≠ _ by have := (Array.getElem?_eq_some_iff.1 HZ4.out).1; omega)
    have HN5 : Hid (w1.heap.size ≠ u4.heap.size) := (show _ ≠ _ by have := (Array.getElem?_eq_some_iff.1 HC4.out).1; omega)
    clear hb4 hs3 HBz HCz HZz
    go_wp2_with fail
    refine wp_region_held_drew (S := (fun u => u.cell? ⟨w1.heap.size, 0, none⟩ = some (.int .u64 (N : Int)) ∧ u.cell? ⟨w1.heap.size, 1, none⟩ = some (.int .u64 (E : Int)) ∧ u.cell? ⟨w1.heap.size, 2, none⟩ = some (.int .i64 (L : Int)) ∧ u.cell? ⟨w1.heap.size, 3, none⟩ = some (.int .i64 (I : Int)))) (by kernel_rfl) (by first | exact hs4 | assumption | (refine ⟨?_, ?_, ?_, ?_⟩ <;> (first | exact cellA hs4.1 | exact cellA hs4.2.1 | exact cellA hs4.2.2.1 | exact cellA hs4.2.2.2)) | exact cells4 (grown_blk hgz (below_blk (alS (Below.refl _ _).drew _) HC4.out) HN5.out)) (fun hHeld => ?_)
    refine take_at (i := 0) 35 (v := ?_) rfl rfl (by kernel_rfl) (by kernel_rfl) (by kernel_rfl) (fun _ _ _ h => h) (by rfl) ?_ hHeld ?_
    rotate_left
    · (intro w hSw; (try dsimp only at hSw); go_simp; try with_reducible rfl)
    simp only [Act.put, List.setIfInBounds_toArray, List.set_cons_zero, List.set_cons_succ]
    refine take_at (i := 1) 36 (v := ?_) rfl rfl (by kernel_rfl) (by kernel_rfl) (by kernel_rfl) (fun _ _ _ h => h) (by rfl) ?_ hHeld ?_
    rotate_left
    · (intro w hSw; (try dsimp only at hSw); go_simp; try with_reducible rfl)
    simp only [Act.put, List.setIfInBounds_toArray, List.set_cons_zero, List.set_cons_succ]
    refine take_at (i := 2) 37 (v := ?_) rfl rfl (by kernel_rfl) (by kernel_rfl) (by kernel_rfl) (fun _ _ _ h => h) (by rfl) ?_ hHeld ?_
    rotate_left
    · (intro w hSw; (try dsimp only at hSw); go_simp; try with_reducible rfl)
    simp only [Act.put, List.setIfInBounds_toArray, List.set_cons_zero, List.set_cons_succ]
    refine take_at (i := 3) 38 (v := .int .i64 (T2 : Int)) rfl rfl (by kernel_rfl) (by kernel_rfl) (by kernel_rfl) (fun _ _ _ h => h) (by rfl) ?_ hHeld ?_
    · (intro w hSw; (try dsimp only at hSw); go_simp; try with_reducible rfl)
    simp only [Act.put, List.setIfInBounds_toArray, List.set_cons_zero, List.set_cons_succ]
    refine take_at (i := 4) 39 (v := ?_) rfl rfl (by kernel_rfl) (by kernel_rfl) (by kernel_rfl) (fun _ _ _ h => h) (by rfl) ?_ hHeld ?_
    rotate_left
    · (intro w hSw; (try dsimp only at hSw); go_simp; try with_reducible rfl)
    simp only [Act.put, List.setIfInBounds_toArray, List.set_cons_zero, List.set_cons_succ]
    refine take_at (i := 5) 40 (v := .int .i64 (KD : Int)) rfl rfl (by kernel_rfl) (by kernel_rfl) (by kernel_rfl) (fun _ _ _ h => h) (by rfl) ?_ hHeld ?_
    · (intro w hSw; (try dsimp only at hSw); go_simp; try with_reducible rfl)
    simp only [Act.put, List.setIfInBounds_toArray, List.set_cons_zero, List.set_cons_succ]
    refine take_at (i := 6) 41 (v := ?_) rfl rfl (by kernel_rfl) (by kernel_rfl) (by kernel_rfl) (fun _ _ _ h => h) (by rfl) ?_ hHeld ?_
    rotate_left
    · (intro w hSw; (try dsimp only at hSw); go_simp; try with_reducible rfl)
    simp only [Act.put, List.setIfInBounds_toArray, List.set_cons_zero, List.set_cons_succ]
    refine take_at (i := 7) 42 (v := ?_) rfl rfl (by kernel_rfl) (by kernel_rfl) (by kernel_rfl) (fun _ _ _ h => h) (by rfl) ?_ hHeld ?_
    rotate_left
    · (intro w hSw; (try dsimp only at hSw); go_simp; try with_reducible rfl)
    simp only [Act.put, List.setIfInBounds_toArray, List.set_cons_zero, List.set_cons_succ]
    refine run_at (i := 8) rfl (by kernel_rfl) (by rfl) (fun K hK => ?_)
    simp only [List.getElem_toArray, List.getElem_cons_zero, List.getElem_cons_succ]
    go_simp
    go_wp2_with fail
    refine hK.out _ _ (by first | exact hs4 | assumption | (refine ⟨?_, ?_, ?_, ?_⟩ <;> (first | exact cellA hs4.1 | exact cellA hs4.2.1 | exact cellA hs4.2.2.1 | exact cellA hs4.2.2.2)) | exact cells4 (grown_blk hgz (below_blk (alS (Below.refl _ _).drew _) HC4.out) HN5.out)) ?_
    clear hK K
    intro hHeld2
    clear hHeld
    have hHeld := hHeld2
    clear hHeld2
    try simp only [Act.put, List.setIfInBounds_toArray, List.set_cons_zero, List.set_cons_succ]
    refine run_at (i := 9) rfl (by kernel_rfl) (by rfl) (fun K hK => ?_)
    simp only [List.getElem_toArray, List.getElem_cons_zero, List.getElem_cons_succ]
    ((refine wpo_storeP (W := w) _ _ rfl _ _ _ _ _ _ (by rfl) (by rfl) (by simp [Value.oneCell']) _ _ _ _ _ _ (heap_alloc_new _ _) (alS HB4.out.drew _) HB4.out.size ?_; intro z5 hz hcz hgz))
    refine hK.out _ _ (by first | exact hs4 | assumption | (refine ⟨?_, ?_, ?_, ?_⟩ <;> (first | exact cellA hs4.1 | exact cellA hs4.2.1 | exact cellA hs4.2.2.1 | exact cellA hs4.2.2.2)) | exact cells4 (grown_blk hgz (below_blk (alS (Below.refl _ _).drew _) HC4.out) HN5.out)) ?_
    clear hK K
    intro hHeld2
    clear hHeld
    have hHeld := hHeld2
    clear hHeld2
    try simp only [Act.put, List.setIfInBounds_toArray, List.set_cons_zero, List.set_cons_succ]
    refine wpAnyH_done (by kernel_rfl) ?_ _
    have HB5 : Hid (Below w.heap.size w z5.drew) := hz.drew
    have HC5 : Hid (z5.drew.heap[u4.heap.size]? = some (.cells #[.int .u64 (N : Int), .int .u64 (E : Int), .int .i64 (L : Int), .int .i64 (I : Int), .slice (some ⟨q, o + 20, none⟩) (KD - 20) (cap - 20)] tPc (0, 0))) := hcz
    have HZ5 : Hid (z5.drew.heap[w.heap.size]? = some (.cells #[.int .u64 0, .int .u64 0, .int .i64 0, .int .i64 0, .slice none 0 0] tPc (0, 0))) := (show z5.heap[w.heap.size]? = _ from grown_blk hgz (below_blk (alS (Below.refl _ _).drew _) HZ4.out) HN4.out.symm)
    have hs5 := cells5 HC5.out
    clear hz hcz hgz
    go_wp2_with fail
    refine wp_region_held_drew (S := (fun u => u.cell? ⟨u4.heap.size, 0, none⟩ = some (.int .u64 (N : Int)) ∧ u.cell? ⟨u4.heap.size, 1, none⟩ = some (.int .u64 (E : Int)) ∧ u.cell? ⟨u4.heap.size, 2, none⟩ = some (.int .i64 (L : Int)) ∧ u.cell? ⟨u4.heap.size, 3, none⟩ = some (.int .i64 (I : Int)) ∧ u.cell? ⟨u4.heap.size, 4, none⟩ = some (.slice (some ⟨q, o + 20, none⟩) (KD - 20) (cap - 20)))) (by kernel_rfl) (by first | exact hs5 | assumption) (fun hHeld => ?_)
    refine take_at (i := 0) 43 (v := .agg #[.int .u64 (N : Int), .int .u64 (E : Int), .int .i64 (L : Int), .int .i64 (I : Int), .slice (some ⟨q, o + 20, none⟩) (KD - 20) (cap - 20)]) rfl rfl (by kernel_rfl) (by kernel_rfl) (by kernel_rfl) (fun _ _ _ h => h) (by rfl) ?_ hHeld ?_
    · (intro w hSw; refine exec_loadS (by rfl) ?_; exact pcLoad hSw)
    simp only [Act.put, List.setIfInBounds_toArray, List.set_cons_zero, List.set_cons_succ]
    refine take_at (i := 1) 44 (v := ?_) rfl rfl (by kernel_rfl) (by kernel_rfl) (by kernel_rfl) (fun _ _ _ h => h) (by rfl) ?_ hHeld ?_
    rotate_left
    · (intro w hSw; (try dsimp only at hSw); go_simp; try with_reducible rfl)
    simp only [Act.put, List.setIfInBounds_toArray, List.set_cons_zero, List.set_cons_succ]
    refine take_at (i := 2) 45 (v := .agg #[.int .u64 (N : Int), .int .u64 (E : Int), .int .i64 (L : Int), .int .i64 (I : Int), .slice (some ⟨q, o + 20, none⟩) (KD - 20) (cap - 20)]) rfl rfl (by kernel_rfl) (by kernel_rfl) (by kernel_rfl) (fun _ _ _ h => h) (by rfl) ?_ hHeld ?_
    · (intro w hSw; refine exec_loadS (by rfl) ?_; exact pcLoad hSw)
    simp only [Act.put, List.setIfInBounds_toArray, List.set_cons_zero, List.set_cons_succ]
    refine run_at (i := 3) rfl (by kernel_rfl) (by rfl) (fun K hK => ?_)
    simp only [List.getElem_toArray, List.getElem_cons_zero, List.getElem_cons_succ]
    (go_simp; go_at_call 69; refine Calls.mono (pieceText_t N E L I (some ⟨q, o + 20, none⟩) (KD - 20) (cap - 20) ((xs.drop 20).take (KD - 20)) HKL.out HK4.out (fun h => by cases h) hN hE (by omega) (by omega) _ (rd_part (Rd.below HRX.out HB5.out) 20 (KD - 20)) (HT.out.below HB5.out)) ?_; rintro er y6 ⟨v6, rfl, ho6, hb6⟩; obtain ⟨a6, c6, hv6, -⟩ := Own.val ho6; rw [pcT_len _ _ _ _ _ (by rw [← HKL.out]; exact HK4.out)] at hv6; subst hv6; have HO6 : Hid (Rd y6 a6 (pcT N E L I ((xs.drop 20).take (KD - 20)))) := Rd.of_own ho6; have HB6 : Hid (Below w.heap.size w y6) := below_next HB5.out hb6; have HC6 : Hid (y6.heap[u4.heap.size]? = some (.cells #[.int .u64 (N : Int), .int .u64 (E : Int), .int .i64 (L : Int), .int .i64 (I : Int), .slice (some ⟨q, o + 20, none⟩) (KD - 20) (cap - 20)] tPc (0, 0))) := below_blk hb6 HC5.out; have HZ6 : Hid (y6.heap[w.heap.size]? = some (.cells #[.int .u64 0, .int .u64 0, .int .i64 0, .int .i64 0, .slice none 0 0] tPc (0, 0))) := below_blk hb6 HZ5.out; have hs6 := cells5 HC6.out; clear ho6 hb6 hs5; go_wp2_with fail)
    refine hK.out _ _ (by first | exact hs5 | assumption) ?_
    clear hK K
    intro hHeld2
    clear hHeld
    have hHeld := hHeld2
    clear hHeld2
    try simp only [Act.put, List.setIfInBounds_toArray, List.set_cons_zero, List.set_cons_succ]
    refine run_at (i := 4) rfl (by kernel_rfl) (by rfl) (fun K hK => ?_)
    simp only [List.getElem_toArray, List.getElem_cons_zero, List.getElem_cons_succ]
    (go_simp; go_at_call 73; refine Calls.mono (show Calls _ _ _ _ (fun e w' => e = .returned (.bool bb) ∧ w' = _) by rw [HBB.out]; exact equal_t _ 128 cap xs hx.out.symm a6 128 c6 _ (pcT_len _ _ _ _ _ (by rw [← HKL.out]; exact HK4.out)).symm _ (Rd.below HRX.out HB6.out) HO6.out) ?_; rintro er u9 ⟨rfl, rfl⟩; go_wp2_with fail)
    refine hK.out _ _ (by first | exact hs5 | assumption) ?_
    clear hK K
    intro hHeld2
    clear hHeld
    have hHeld := hHeld2
    clear hHeld2
    try simp only [Act.put, List.setIfInBounds_toArray, List.set_cons_zero, List.set_cons_succ]
    refine run_at (i := 5) rfl (by kernel_rfl) (by rfl) (fun K hK => ?_)
    simp only [List.getElem_toArray, List.getElem_cons_zero, List.getElem_cons_succ]
    ((refine wpo_storeP (W := w) _ _ rfl _ _ _ _ _ _ (by rfl) (by rfl) (by simp [Value.oneCell']) _ _ _ _ _ _ HZ6.out HB6.out (Nat.le_refl _) ?_; intro y7 hz hcz hgz; have HB7 : Hid (Below w.heap.size w y7) := hz; have HZ7 : Hid (y7.heap[w.heap.size]? = some (.cells #[.int .u64 (N : Int), .int .u64 (E : Int), .int .i64 (L : Int), .int .i64 (I : Int), .slice (some ⟨q, o + 20, none⟩) (KD - 20) (cap - 20)] tPc (0, 0))) := hcz; have hs7 := cells5 (grown_blk hgz HC6.out HN4.out); clear hz hcz hgz hs6))
    refine hK.out _ _ (by first | exact hs5 | assumption) ?_
    clear hK K
    intro hHeld2
    clear hHeld
    have hHeld := hHeld2
    clear hHeld2
    try simp only [Act.put, List.setIfInBounds_toArray, List.set_cons_zero, List.set_cons_succ]
    refine take_at (i := 6) 3 (v := ?_) rfl rfl (by kernel_rfl) (by kernel_rfl) (by kernel_rfl) (fun _ _ _ h => h) (by rfl) ?_ hHeld ?_
    rotate_left
    · (intro w hSw; (try dsimp only at hSw); go_simp; try with_reducible rfl)
    simp only [Act.put, List.setIfInBounds_toArray, List.set_cons_zero, List.set_cons_succ]
    refine wpAnyH_done (by kernel_rfl) ?_ _
    obtain ⟨k0, k1, k2, k3, k4⟩ := cells5 HZ7.out
    go_wp2_with fail
    refine bodyPost_ret (v := .tuple #[pcV N E L I (.slice (some ⟨q, o + 20, none⟩) (KD - 20) (cap - 20)), .bool bb]) (by simp [results, Tryd.results79, go_sem, k0, k1, k2, k3, k4]) rfl ⟨by rw [HBB.out], HB7.out⟩
  focus
    have HBz : Hid (Below w.heap.size w z.drew) := hz.drew
    have HCz : Hid (z.drew.heap[w1.heap.size]? = some (.cells #[.int .u64 (N : Int), .int .u64 (E : Int), .int .i64 (L : Int), .int .i64 (I : Int)] tLb (0, 0))) := hcz
    have HZz : Hid (z.drew.heap[w.heap.size]? = some (.cells #[.int .u64 0, .int .u64 0, .int .i64 0, .int .i64 0, .slice none 0 0] tPc (0, 0))) := (show z.heap[w.heap.size]? = _ from grown_blk hgz (below_blk (alS (Below.refl _ _).drew _) HC1.out) HNE.out.symm)
    have hsz := cells4 HCz.out
    clear hz hcz hgz
    go_wp2_with fail
    refine wp_region_held_drew (S := (fun u => u.cell? ⟨w1.heap.size, 0, none⟩ = some (.int .u64 (N : Int)) ∧ u.cell? ⟨w1.heap.size, 1, none⟩ = some (.int .u64 (E : Int)) ∧ u.cell? ⟨w1.heap.size, 2, none⟩ = some (.int .i64 (L : Int)) ∧ u.cell? ⟨w1.heap.size, 3, none⟩ = some (.int .i64 (I : Int)))) (by kernel_rfl) (by first | exact hsz | assumption) (fun hHeld => ?_)
    refine take_at (i := 0) 23 (v := ?_) rfl rfl (by kernel_rfl) (by kernel_rfl) (by kernel_rfl) (fun _ _ _ h => h) (by rfl) ?_ hHeld ?_
    rotate_left
    · (intro w hSw; (try dsimp only at hSw); go_simp; try with_reducible rfl)
    simp only [Act.put, List.setIfInBounds_toArray, List.set_cons_zero, List.set_cons_succ]
    refine take_at (i := 1) 24 (v := ?_) rfl rfl (by kernel_rfl) (by kernel_rfl) (by kernel_rfl) (fun _ _ _ h => h) (by rfl) ?_ hHeld ?_
    rotate_left
    · (intro w hSw; (try dsimp only at hSw); go_simp; try with_reducible rfl)
    simp only [Act.put, List.setIfInBounds_toArray, List.set_cons_zero, List.set_cons_succ]
    refine take_at (i := 2) 25 (v := ?_) rfl rfl (by kernel_rfl) (by kernel_rfl) (by kernel_rfl) (fun _ _ _ h => h) (by rfl) ?_ hHeld ?_
    rotate_left
    · (intro w hSw; (try dsimp only at hSw); go_simp; try with_reducible rfl)
    simp only [Act.put, List.setIfInBounds_toArray, List.set_cons_zero, List.set_cons_succ]
    refine take_at (i := 3) 26 (v := ?_) rfl rfl (by kernel_rfl) (by kernel_rfl) (by kernel_rfl) (fun _ _ _ h => h) (by rfl) ?_ hHeld ?_
    rotate_left
    · (intro w hSw; (try dsimp only at hSw); go_simp; try with_reducible rfl)
    simp only [Act.put, List.setIfInBounds_toArray, List.set_cons_zero, List.set_cons_succ]
    refine run_at (i := 4) rfl (by kernel_rfl) (by rfl) (fun K hK => ?_)
    simp only [List.getElem_toArray, List.getElem_cons_zero, List.getElem_cons_succ]
    (go_simp; go_at_call 11; refine Calls.mono (HND.out _) ?_; rintro er u9 ⟨rfl, rfl⟩; go_wp2_with fail)
    refine hK.out _ _ (by first | exact hsz | assumption) ?_
    clear hK K
    intro hHeld2
    clear hHeld
    have hHeld := hHeld2
    clear hHeld2
    try simp only [Act.put, List.setIfInBounds_toArray, List.set_cons_zero, List.set_cons_succ]
    refine take_at (i := 5) 28 (v := .bool false) rfl rfl (by kernel_rfl) (by kernel_rfl) (by kernel_rfl) (fun _ _ _ h => h) (by rfl) ?_ hHeld ?_
    · (intro w hSw; (try dsimp only at hSw); go_simp; first | done | with_reducible rfl | omega | (simp; omega))
    simp only [Act.put, List.setIfInBounds_toArray, List.set_cons_zero, List.set_cons_succ]
    refine wpAnyH_done (by kernel_rfl) ?_ _
    obtain ⟨u3, hu3⟩ : ∃ X : World, X = z.drew := ⟨_, rfl⟩
    rw [← hu3]
    rw [← hu3] at HZz HBz HCz
    have hs3 := cells4 HCz.out
    clear hsz hHeld hu3
    go_wp2_with fail
    refine Calls.mono (HSP.out u3) ?_
    rintro er u4 ⟨rfl, hb4⟩
    have HB4 : Hid (Below w.heap.size w u4) := below_next HBz.out hb4
    have HC4 : Hid (u4.heap[w1.heap.size]? = some (.cells #[.int .u64 (N : Int), .int .u64 (E : Int), .int .i64 (L : Int), .int .i64 (I : Int)] tLb (0, 0))) := below_blk hb4 HCz.out
    have HZ4 : Hid (u4.heap[w.heap.size]? = some (.cells #[.int .u64 0, .int .u64 0, .int .i64 0, .int .i64 0, .slice none 0 0] tPc (0, 0))) := below_blk hb4 HZz.out
    have hs4 := cells4 HC4.out
    have HN4 : Hid (u4.heap.size ≠ w.heap.size) := (show _ ≠ _ by have := (Array.getElem?_eq_some_iff.1 HZ4.out).1; omega)
    have HN5 : Hid (w1.heap.size ≠ u4.heap.size) := (show _ ≠ _ by have := (Array.getElem?_eq_some_iff.1 HC4.out).1; omega)
    clear hb4 hs3 HBz HCz HZz
    go_wp2_with fail
    refine wp_region_held_drew (S := (fun u => u.cell? ⟨w1.heap.size, 0, none⟩ = some (.int .u64 (N : Int)) ∧ u.cell? ⟨w1.heap.size, 1, none⟩ = some (.int .u64 (E : Int)) ∧ u.cell? ⟨w1.heap.size, 2, none⟩ = some (.int .i64 (L : Int)) ∧ u.cell? ⟨w1.heap.size, 3, none⟩ = some (.int .i64 (I : Int)))) (by kernel_rfl) (by first | exact hs4 | assumption | (refine ⟨?_, ?_, ?_, ?_⟩ <;> (first | exact cellA hs4.1 | exact cellA hs4.2.1 | exact cellA hs4.2.2.1 | exact cellA hs4.2.2.2)) | exact cells4 (grown_blk hgz (below_blk (alS (Below.refl _ _).drew _) HC4.out) HN5.out)) (fun hHeld => ?_)
    refine take_at (i := 0) 35 (v := ?_) rfl rfl (by kernel_rfl) (by kernel_rfl) (by kernel_rfl) (fun _ _ _ h => h) (by rfl) ?_ hHeld ?_
    rotate_left
    · (intro w hSw; (try dsimp only at hSw); go_simp; try with_reducible rfl)
    simp only [Act.put, List.setIfInBounds_toArray, List.set_cons_zero, List.set_cons_succ]
    refine take_at (i := 1) 36 (v := ?_) rfl rfl (by kernel_rfl) (by kernel_rfl) (by kernel_rfl) (fun _ _ _ h => h) (by rfl) ?_ hHeld ?_
    rotate_left
    · (intro w hSw; (try dsimp only at hSw); go_simp; try with_reducible rfl)
    simp only [Act.put, List.setIfInBounds_toArray, List.set_cons_zero, List.set_cons_succ]
    refine take_at (i := 2) 37 (v := ?_) rfl rfl (by kernel_rfl) (by kernel_rfl) (by kernel_rfl) (fun _ _ _ h => h) (by rfl) ?_ hHeld ?_
    rotate_left
    · (intro w hSw; (try dsimp only at hSw); go_simp; try with_reducible rfl)
    simp only [Act.put, List.setIfInBounds_toArray, List.set_cons_zero, List.set_cons_succ]
    refine take_at (i := 3) 38 (v := .int .i64 (T2 : Int)) rfl rfl (by kernel_rfl) (by kernel_rfl) (by kernel_rfl) (fun _ _ _ h => h) (by rfl) ?_ hHeld ?_
    · (intro w hSw; (try dsimp only at hSw); go_simp; try with_reducible rfl)
    simp only [Act.put, List.setIfInBounds_toArray, List.set_cons_zero, List.set_cons_succ]
    refine take_at (i := 4) 39 (v := ?_) rfl rfl (by kernel_rfl) (by kernel_rfl) (by kernel_rfl) (fun _ _ _ h => h) (by rfl) ?_ hHeld ?_
    rotate_left
    · (intro w hSw; (try dsimp only at hSw); go_simp; try with_reducible rfl)
    simp only [Act.put, List.setIfInBounds_toArray, List.set_cons_zero, List.set_cons_succ]
    refine take_at (i := 5) 40 (v := .int .i64 (KD : Int)) rfl rfl (by kernel_rfl) (by kernel_rfl) (by kernel_rfl) (fun _ _ _ h => h) (by rfl) ?_ hHeld ?_
    · (intro w hSw; (try dsimp only at hSw); go_simp; try with_reducible rfl)
    simp only [Act.put, List.setIfInBounds_toArray, List.set_cons_zero, List.set_cons_succ]
    refine take_at (i := 6) 41 (v := ?_) rfl rfl (by kernel_rfl) (by kernel_rfl) (by kernel_rfl) (fun _ _ _ h => h) (by rfl) ?_ hHeld ?_
    rotate_left
    · (intro w hSw; (try dsimp only at hSw); go_simp; try with_reducible rfl)
    simp only [Act.put, List.setIfInBounds_toArray, List.set_cons_zero, List.set_cons_succ]
    refine take_at (i := 7) 42 (v := ?_) rfl rfl (by kernel_rfl) (by kernel_rfl) (by kernel_rfl) (fun _ _ _ h => h) (by rfl) ?_ hHeld ?_
    rotate_left
    · (intro w hSw; (try dsimp only at hSw); go_simp; try with_reducible rfl)
    simp only [Act.put, List.setIfInBounds_toArray, List.set_cons_zero, List.set_cons_succ]
    refine run_at (i := 8) rfl (by kernel_rfl) (by rfl) (fun K hK => ?_)
    simp only [List.getElem_toArray, List.getElem_cons_zero, List.getElem_cons_succ]
    go_simp
    go_wp2_with fail
    refine hK.out _ _ (by first | exact hs4 | assumption | (refine ⟨?_, ?_, ?_, ?_⟩ <;> (first | exact cellA hs4.1 | exact cellA hs4.2.1 | exact cellA hs4.2.2.1 | exact cellA hs4.2.2.2)) | exact cells4 (grown_blk hgz (below_blk (alS (Below.refl _ _).drew _) HC4.out) HN5.out)) ?_
    clear hK K
    intro hHeld2
    clear hHeld
    have hHeld := hHeld2
    clear hHeld2
    try simp only [Act.put, List.setIfInBounds_toArray, List.set_cons_zero, List.set_cons_succ]
    refine run_at (i := 9) rfl (by kernel_rfl) (by rfl) (fun K hK => ?_)
    simp only [List.getElem_toArray, List.getElem_cons_zero, List.getElem_cons_succ]
    ((refine wpo_storeP (W := w) _ _ rfl _ _ _ _ _ _ (by rfl) (by rfl) (by simp [Value.oneCell']) _ _ _ _ _ _ (heap_alloc_new _ _) (alS HB4.out.drew _) HB4.out.size ?_; intro z5 hz hcz hgz))
    refine hK.out _ _ (by first | exact hs4 | assumption | (refine ⟨?_, ?_, ?_, ?_⟩ <;> (first | exact cellA hs4.1 | exact cellA hs4.2.1 | exact cellA hs4.2.2.1 | exact cellA hs4.2.2.2)) | exact cells4 (grown_blk hgz (below_blk (alS (Below.refl _ _).drew _) HC4.out) HN5.out)) ?_
    clear hK K
    intro hHeld2
    clear hHeld
    have hHeld := hHeld2
    clear hHeld2
    try simp only [Act.put, List.setIfInBounds_toArray, List.set_cons_zero, List.set_cons_succ]
    refine wpAnyH_done (by kernel_rfl) ?_ _
    have HB5 : Hid (Below w.heap.size w z5.drew) := hz.drew
    have HC5 : Hid (z5.drew.heap[u4.heap.size]? = some (.cells #[.int .u64 (N : Int), .int .u64 (E : Int), .int .i64 (L : Int), .int .i64 (I : Int), .slice (some ⟨q, o + 20, none⟩) (KD - 20) (cap - 20)] tPc (0, 0))) := hcz
    have HZ5 : Hid (z5.drew.heap[w.heap.size]? = some (.cells #[.int .u64 0, .int .u64 0, .int .i64 0, .int .i64 0, .slice none 0 0] tPc (0, 0))) := (show z5.heap[w.heap.size]? = _ from grown_blk hgz (below_blk (alS (Below.refl _ _).drew _) HZ4.out) HN4.out.symm)
    have hs5 := cells5 HC5.out
    clear hz hcz hgz
    go_wp2_with fail
    refine wp_region_held_drew (S := (fun u => u.cell? ⟨u4.heap.size, 0, none⟩ = some (.int .u64 (N : Int)) ∧ u.cell? ⟨u4.heap.size, 1, none⟩ = some (.int .u64 (E : Int)) ∧ u.cell? ⟨u4.heap.size, 2, none⟩ = some (.int .i64 (L : Int)) ∧ u.cell? ⟨u4.heap.size, 3, none⟩ = some (.int .i64 (I : Int)) ∧ u.cell? ⟨u4.heap.size, 4, none⟩ = some (.slice (some ⟨q, o + 20, none⟩) (KD - 20) (cap - 20)))) (by kernel_rfl) (by first | exact hs5 | assumption) (fun hHeld => ?_)
    refine take_at (i := 0) 43 (v := .agg #[.int .u64 (N : Int), .int .u64 (E : Int), .int .i64 (L : Int), .int .i64 (I : Int), .slice (some ⟨q, o + 20, none⟩) (KD - 20) (cap - 20)]) rfl rfl (by kernel_rfl) (by kernel_rfl) (by kernel_rfl) (fun _ _ _ h => h) (by rfl) ?_ hHeld ?_
    · (intro w hSw; refine exec_loadS (by rfl) ?_; exact pcLoad hSw)
    simp only [Act.put, List.setIfInBounds_toArray, List.set_cons_zero, List.set_cons_succ]
    refine take_at (i := 1) 44 (v := ?_) rfl rfl (by kernel_rfl) (by kernel_rfl) (by kernel_rfl) (fun _ _ _ h => h) (by rfl) ?_ hHeld ?_
    rotate_left
    · (intro w hSw; (try dsimp only at hSw); go_simp; try with_reducible rfl)
    simp only [Act.put, List.setIfInBounds_toArray, List.set_cons_zero, List.set_cons_succ]
    refine take_at (i := 2) 45 (v := .agg #[.int .u64 (N : Int), .int .u64 (E : Int), .int .i64 (L : Int), .int .i64 (I : Int), .slice (some ⟨q, o + 20, none⟩) (KD - 20) (cap - 20)]) rfl rfl (by kernel_rfl) (by kernel_rfl) (by kernel_rfl) (fun _ _ _ h => h) (by rfl) ?_ hHeld ?_
    · (intro w hSw; refine exec_loadS (by rfl) ?_; exact pcLoad hSw)
    simp only [Act.put, List.setIfInBounds_toArray, List.set_cons_zero, List.set_cons_succ]
    refine run_at (i := 3) rfl (by kernel_rfl) (by rfl) (fun K hK => ?_)
    simp only [List.getElem_toArray, List.getElem_cons_zero, List.getElem_cons_succ]
    (go_simp; go_at_call 69; refine Calls.mono (pieceText_t N E L I (some ⟨q, o + 20, none⟩) (KD - 20) (cap - 20) ((xs.drop 20).take (KD - 20)) HKL.out HK4.out (fun h => by cases h) hN hE (by omega) (by omega) _ (rd_part (Rd.below HRX.out HB5.out) 20 (KD - 20)) (HT.out.below HB5.out)) ?_; rintro er y6 ⟨v6, rfl, ho6, hb6⟩; obtain ⟨a6, c6, hv6, -⟩ := Own.val ho6; rw [pcT_len _ _ _ _ _ (by rw [← HKL.out]; exact HK4.out)] at hv6; subst hv6; have HO6 : Hid (Rd y6 a6 (pcT N E L I ((xs.drop 20).take (KD - 20)))) := Rd.of_own ho6; have HB6 : Hid (Below w.heap.size w y6) := below_next HB5.out hb6; have HC6 : Hid (y6.heap[u4.heap.size]? = some (.cells #[.int .u64 (N : Int), .int .u64 (E : Int), .int .i64 (L : Int), .int .i64 (I : Int), .slice (some ⟨q, o + 20, none⟩) (KD - 20) (cap - 20)] tPc (0, 0))) := below_blk hb6 HC5.out; have HZ6 : Hid (y6.heap[w.heap.size]? = some (.cells #[.int .u64 0, .int .u64 0, .int .i64 0, .int .i64 0, .slice none 0 0] tPc (0, 0))) := below_blk hb6 HZ5.out; have hs6 := cells5 HC6.out; clear ho6 hb6 hs5; go_wp2_with fail)
    refine hK.out _ _ (by first | exact hs5 | assumption) ?_
    clear hK K
    intro hHeld2
    clear hHeld
    have hHeld := hHeld2
    clear hHeld2
    try simp only [Act.put, List.setIfInBounds_toArray, List.set_cons_zero, List.set_cons_succ]
    refine run_at (i := 4) rfl (by kernel_rfl) (by rfl) (fun K hK => ?_)
    simp only [List.getElem_toArray, List.getElem_cons_zero, List.getElem_cons_succ]
    (go_simp; go_at_call 73; refine Calls.mono (show Calls _ _ _ _ (fun e w' => e = .returned (.bool bb) ∧ w' = _) by rw [HBB.out]; exact equal_t _ 128 cap xs hx.out.symm a6 128 c6 _ (pcT_len _ _ _ _ _ (by rw [← HKL.out]; exact HK4.out)).symm _ (Rd.below HRX.out HB6.out) HO6.out) ?_; rintro er u9 ⟨rfl, rfl⟩; go_wp2_with fail)
    refine hK.out _ _ (by first | exact hs5 | assumption) ?_
    clear hK K
    intro hHeld2
    clear hHeld
    have hHeld := hHeld2
    clear hHeld2
    try simp only [Act.put, List.setIfInBounds_toArray, List.set_cons_zero, List.set_cons_succ]
    refine run_at (i := 5) rfl (by kernel_rfl) (by rfl) (fun K hK => ?_)
    simp only [List.getElem_toArray, List.getElem_cons_zero, List.getElem_cons_succ]
    ((refine wpo_storeP (W := w) _ _ rfl _ _ _ _ _ _ (by rfl) (by rfl) (by simp [Value.oneCell']) _ _ _ _ _ _ HZ6.out HB6.out (Nat.le_refl _) ?_; intro y7 hz hcz hgz; have HB7 : Hid (Below w.heap.size w y7) := hz; have HZ7 : Hid (y7.heap[w.heap.size]? = some (.cells #[.int .u64 (N : Int), .int .u64 (E : Int), .int .i64 (L : Int), .int .i64 (I : Int), .slice (some ⟨q, o + 20, none⟩) (KD - 20) (cap - 20)] tPc (0, 0))) := hcz; have hs7 := cells5 (grown_blk hgz HC6.out HN4.out); clear hz hcz hgz hs6))
    refine hK.out _ _ (by first | exact hs5 | assumption) ?_
    clear hK K
    intro hHeld2
    clear hHeld
    have hHeld := hHeld2
    clear hHeld2
    try simp only [Act.put, List.setIfInBounds_toArray, List.set_cons_zero, List.set_cons_succ]
    refine take_at (i := 6) 3 (v := ?_) rfl rfl (by kernel_rfl) (by kernel_rfl) (by kernel_rfl) (fun _ _ _ h => h) (by rfl) ?_ hHeld ?_
    rotate_left
    · (intro w hSw; (try dsimp only at hSw); go_simp; try with_reducible rfl)
    simp only [Act.put, List.setIfInBounds_toArray, List.set_cons_zero, List.set_cons_succ]
    refine wpAnyH_done (by kernel_rfl) ?_ _
    obtain ⟨k0, k1, k2, k3, k4⟩ := cells5 HZ7.out
    go_wp2_with fail
    refine bodyPost_ret (v := .tuple #[pcV N E L I (.slice (some ⟨q, o + 20, none⟩) (KD - 20) (cap - 20)), .bool bb]) (by simp [results, Tryd.results79, go_sem, k0, k1, k2, k3, k4]) rfl ⟨by rw [HBB.out], HB7.out⟩
end
end Go.Proofs.YtibepnilhmbpeaaDoor
