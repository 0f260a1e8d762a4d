import Derived.Test.YtibepnilhmbpeaaDoorSPw
import Derived.Test.YtibepnilhmbpeaaDoorRegn
namespace Go.Proofs.YtibepnilhmbpeaaDoor
set_option linter.unusedVariables false
set_option linter.unusedSimpArgs false
open Go.RowKit
abbrev tLb : TypeId := 102
theorem infoLb : (Tryd.prog.info? tLb).map (·.size) = some 4 := by kernel_rfl
theorem infoPc : (Tryd.prog.info? tPc).map (·.size) = some 5 := by kernel_rfl
theorem wpo_storeL {W w : World} {o : Oper} {a : Act} {K' : Act → World → Prop} {Q : Exit → Act → World → Prop} (x y : Operand) (ho : o.op = .store tLb x y) (g : Nat) (x0 x1 x2 x3 : Value)
    (hx : a.eval x = .pointer (some ⟨g, 0, none⟩)) (hy : a.eval y = .agg #[x0, x1, x2, x3]) (h1 : (#[x0, x1, x2, x3]).all (·.oneCell') = true) (y0 y1 y2 y3 : Value) (t : TypeId) (hg : w.heap[g]? = some (.cells #[y0, y1, y2, y3] t (0, 0))) (hW : Below W.heap.size W w) (hgW : W.heap.size ≤ g)
    (h : ∀ z, Below W.heap.size W z → z.heap[g]? = some (.cells #[x0, x1, x2, x3] t (0, 0)) → w.grownBy z (some g) → K' (a.put o.dst undef) z) : Oper.wp Tryd.prog o a w K' Q :=
  wp_store_row tLb x y ho g #[x0, x1, x2, x3] hx hy t _ hg infoLb rfl h1 (h _ (below_setRow hW hgW _) (setRow_heap w g _ _ t _ hg) (grown_setRowS w g _))
theorem wpo_storeP {W w : World} {o : Oper} {a : Act} {K' : Act → World → Prop} {Q : Exit → Act → World → Prop} (x y : Operand) (ho : o.op = .store tPc x y) (g : Nat) (x0 x1 x2 x3 x4 : Value)
    (hx : a.eval x = .pointer (some ⟨g, 0, none⟩)) (hy : a.eval y = .agg #[x0, x1, x2, x3, x4]) (h1 : (#[x0, x1, x2, x3, x4]).all (·.oneCell') = true) (y0 y1 y2 y3 y4 : Value) (t : TypeId) (hg : w.heap[g]? = some (.cells #[y0, y1, y2, y3, y4] t (0, 0))) (hW : Below W.heap.size W w) (hgW : W.heap.size ≤ g)
    (h : ∀ z, Below W.heap.size W z → z.heap[g]? = some (.cells #[x0, x1, x2, x3, x4] t (0, 0)) → w.grownBy z (some g) → K' (a.put o.dst undef) z) : Oper.wp Tryd.prog o a w K' Q :=
  wp_store_row tPc x y ho g #[x0, x1, x2, x3, x4] hx hy t _ hg infoPc rfl h1 (h _ (below_setRow hW hgW _) (setRow_heap w g _ _ t _ hg) (grown_setRowS w g _))
theorem frz {w : World} {g : Nat} {t : TypeId} {cs : Array Value} (h : w.heap[g]? = some (.cells cs t (0, 0))) (i : Nat) : w.frozen? ⟨g, i, none⟩ = false := by simp [World.frozen?, h]
theorem below_s5 {W w : World} {g : Nat} {v0 v1 v2 v3 v4 : Value} (h : Below W.heap.size W w) (hg : W.heap.size ≤ g) : Below W.heap.size W (((((w.setCell ⟨g, 0, none⟩ v0).setCell ⟨g, 1, none⟩ v1).setCell ⟨g, 2, none⟩ v2).setCell ⟨g, 3, none⟩ v3).setCell ⟨g, 4, none⟩ v4) :=
  Below.setCell (p := ⟨g, _, none⟩) (Below.setCell (p := ⟨g, _, none⟩) (Below.setCell (p := ⟨g, _, none⟩) (Below.setCell (p := ⟨g, _, none⟩) (Below.setCell (p := ⟨g, _, none⟩) (h) hg _) hg _) hg _) hg _) hg _
section
set_option maxRecDepth 20000
set_option maxHeartbeats 6400000
theorem pieceOf_no (q o cap : Nat) (xs : List UInt8) (N E L I M : Nat) (hN' : N = hdN xs 4 6) (hE' : E = hdN xs 10 6) (hL' : L = hdN xs 16 2) (hI' : I = hdN xs 18 2) (hM' : M = needS L) (hx' : xs.length = 128) (hc : 128 ≤ cap) (hcm : cap ≤ 9223372036854775807) (w : World) (hr : Rd w (some ⟨q, o, none⟩) xs) (ht : TabOk w) (hno : M ≤ I) :
    Calls Tryd.prog 79 #[.slice (some ⟨q, o, none⟩) 128 cap] w fun er w' => er = .returned (.tuple #[pcV 0 0 0 0 (.slice none 0 0), .bool false]) ∧ Below w.heap.size w w' := by
  have HT : Hid (TabOk w) := ht
  have HRX : Hid (Rd w (some ⟨q, o, none⟩) xs) := hr
  have hx : Hid (xs.length = 128) := hx'
  have hN : N < 18446744073709551616 := (by rw [hN']; exact hdN_lt _ _ _ (by decide))
  have hE : E < 18446744073709551616 := (by rw [hE']; exact hdN_lt _ _ _ (by decide))
  have hL : L < 65536 := (by rw [hL']; exact hdN_lt2 _ _)
  have hI : I < 65536 := (by rw [hI']; exact hdN_lt2 _ _)
  have HL0 : Hid (∀ (c : Nat) (u : World), Below w.heap.size w u → Calls Tryd.prog 72 #[.slice (some ⟨q, o + 4, none⟩) 6 c] u fun e w' => e = .returned (.int .u64 (N : Int)) ∧ w' = u) := (fun c u hu => by rw [hN']; exact low_p q o 4 6 c xs (by omega) (by decide) u (hr.below hu))
  have HL1 : Hid (∀ (c : Nat) (u : World), Below w.heap.size w u → Calls Tryd.prog 72 #[.slice (some ⟨q, o + 10, none⟩) 6 c] u fun e w' => e = .returned (.int .u64 (E : Int)) ∧ w' = u) := (fun c u hu => by rw [hE']; exact low_p q o 10 6 c xs (by omega) (by decide) u (hr.below hu))
  have HL2 : Hid (∀ (c : Nat) (u : World), Below w.heap.size w u → Calls Tryd.prog 72 #[.slice (some ⟨q, o + 16, none⟩) 2 c] u fun e w' => e = .returned (.int .u64 (L : Int)) ∧ w' = u) := (fun c u hu => by rw [hL']; exact low_p q o 16 2 c xs (by omega) (by decide) u (hr.below hu))
  have HL3 : Hid (∀ (c : Nat) (u : World), Below w.heap.size w u → Calls Tryd.prog 72 #[.slice (some ⟨q, o + 18, none⟩) 2 c] u fun e w' => e = .returned (.int .u64 (I : Int)) ∧ w' = u) := (fun c u hu => by rw [hI']; exact low_p q o 18 2 c xs (by omega) (by decide) u (hr.below hu))
  have HND : Hid (∀ u : World, Calls Tryd.prog 11 #[.int .i64 (L : Int)] u fun er w' => er = .returned (.int .i64 (M : Int)) ∧ w' = u) := (fun u => by rw [hM']; exact need_t L (by omega) u)
  clear hr ht hx' hN' hE' hL' hI' hM'
  obtain ⟨w1, hw1⟩ : ∃ X : World, X = w.alloc (.cells #[.int .u64 0, .int .u64 0, .int .i64 0, .int .i64 0, .slice none 0 0] tPc) := ⟨_, rfl⟩
  have HB1 : Hid (Below w.heap.size w w1) := (show Below _ _ _ by rw [hw1]; exact alS (Below.refl _ _) _)
  have HC1 : Hid (w1.heap[w.heap.size]? = some (.cells #[.int .u64 0, .int .u64 0, .int .i64 0, .int .i64 0, .slice none 0 0] tPc (0, 0))) := (show _ = _ by rw [hw1]; exact heap_alloc_new _ _)
  have HW1 : Hid (w1.heap.size = w.heap.size + 1) := (show _ = _ by rw [hw1]; simp)
  have HNE : Hid (w1.heap.size ≠ w.heap.size) := (show _ ≠ _ by have := HW1.out; omega)
  have hwL : IntKind.i64.wrap (L : Int) = (L : Int) := by rw [IntKind.wrap_i64]; omega
  have hwI : IntKind.i64.wrap (I : Int) = (I : Int) := by rw [IntKind.wrap_i64]; omega
  have h10 : (10 : Int) ≤ (cap : Int) := by omega
  have h16 : (16 : Int) ≤ (cap : Int) := by omega
  have h18 : (18 : Int) ≤ (cap : Int) := by omega
  have h20 : (20 : Int) ≤ (cap : Int) := by omega
  have g4 : ¬ cap = 4 := by omega
  have g10 : ¬ cap = 10 := by omega
  have g16 : ¬ cap = 16 := by omega
  have g18 : ¬ cap = 18 := by omega
  have g20 : ¬ cap = 20 := by omega
  have hmi : (M : Int) ≤ (I : Int) := by omega
  go_enter Tryd.func79, Tryd.ntmps79
  go_wp2_with fail
  rw [← hw1]
  clear hw1
  refine wp_region_held_drew (S := (fun u => Below w.heap.size w u)) (by kernel_rfl) (by first | exact HB1.out.drew | exact alS HB1.out.drew _ | assumption) (fun hHeld => ?_)
  refine take_at (i := 0) 8 (v := ?_) rfl rfl (by kernel_rfl) (by kernel_rfl) (by kernel_rfl) (fun _ _ _ h => h) (by rfl) ?_ hHeld ?_
  rotate_left
  · (intro w hSw; (try dsimp only at hSw); go_simp; try with_reducible rfl)
  simp only [Act.put, List.setIfInBounds_toArray, List.set_cons_zero, List.set_cons_succ]
  refine take_at (i := 1) 9 (v := ?_) rfl rfl (by kernel_rfl) (by kernel_rfl) (by kernel_rfl) (fun _ _ _ h => h) (by rfl) ?_ hHeld ?_
  rotate_left
  · (intro w hSw; (try dsimp only at hSw); go_simp; try with_reducible rfl)
  simp only [Act.put, List.setIfInBounds_toArray, List.set_cons_zero, List.set_cons_succ]
  refine take_at (i := 3) 11 (v := ?_) rfl rfl (by kernel_rfl) (by kernel_rfl) (by kernel_rfl) (fun _ _ _ h => h) (by rfl) ?_ hHeld ?_
  rotate_left
  · (intro w hSw; (try dsimp only at hSw); go_simp; try with_reducible rfl)
  simp only [Act.put, List.setIfInBounds_toArray, List.set_cons_zero, List.set_cons_succ]
  refine take_at (i := 4) 12 (v := ?_) rfl rfl (by kernel_rfl) (by kernel_rfl) (by kernel_rfl) (fun _ _ _ h => h) (by rfl) ?_ hHeld ?_
  rotate_left
  · (intro w hSw; (try dsimp only at hSw); go_simp; try with_reducible rfl)
  simp only [Act.put, List.setIfInBounds_toArray, List.set_cons_zero, List.set_cons_succ]
  refine take_at (i := 6) 14 (v := ?_) rfl rfl (by kernel_rfl) (by kernel_rfl) (by kernel_rfl) (fun _ _ _ h => h) (by rfl) ?_ hHeld ?_
  rotate_left
  · (intro w hSw; (try dsimp only at hSw); go_simp; try with_reducible rfl)
  simp only [Act.put, List.setIfInBounds_toArray, List.set_cons_zero, List.set_cons_succ]
  refine take_at (i := 7) 15 (v := ?_) rfl rfl (by kernel_rfl) (by kernel_rfl) (by kernel_rfl) (fun _ _ _ h => h) (by rfl) ?_ hHeld ?_
  rotate_left
  · (intro w hSw; (try dsimp only at hSw); go_simp; try with_reducible rfl)
  simp only [Act.put, List.setIfInBounds_toArray, List.set_cons_zero, List.set_cons_succ]
  refine take_at (i := 10) 18 (v := ?_) rfl rfl (by kernel_rfl) (by kernel_rfl) (by kernel_rfl) (fun _ _ _ h => h) (by rfl) ?_ hHeld ?_
  rotate_left
  · (intro w hSw; (try dsimp only at hSw); go_simp; try with_reducible rfl)
  simp only [Act.put, List.setIfInBounds_toArray, List.set_cons_zero, List.set_cons_succ]
  refine take_at (i := 11) 19 (v := ?_) rfl rfl (by kernel_rfl) (by kernel_rfl) (by kernel_rfl) (fun _ _ _ h => h) (by rfl) ?_ hHeld ?_
  rotate_left
  · (intro w hSw; (try dsimp only at hSw); go_simp; try with_reducible rfl)
  simp only [Act.put, List.setIfInBounds_toArray, List.set_cons_zero, List.set_cons_succ]
  refine wpAnyH_ready (rs := [2, 15]) (by kernel_rfl) (by simp) ?_
  refine AllReadyH.cons (o := _) rfl (fun K hK => ?_) ?_
  focus
    rw [if_pos (by rfl)]
    simp only [List.getElem_toArray, List.getElem_cons_zero, List.getElem_cons_succ]
    (go_simp; go_at_call 72; refine Calls.mono (HL0.out _ _ (by first | exact HB1.out.drew | exact alS HB1.out.drew _)) ?_; rintro er u9 ⟨rfl, rfl⟩; go_wp2_with fail)
    refine hK.out _ _ (by first | exact HB1.out.drew | exact alS HB1.out.drew _ | assumption) ?_
    clear hK K
    intro hHeld2
    clear hHeld
    have hHeld := hHeld2
    clear hHeld2
    try simp only [Act.put, List.setIfInBounds_toArray, List.set_cons_zero, List.set_cons_succ]
    refine wpAnyH_ready (rs := [5, 15]) (by kernel_rfl) (by simp) ?_
    refine AllReadyH.cons (o := _) rfl (fun K hK => ?_) ?_
    focus
      rw [if_pos (by rfl)]
      simp only [List.getElem_toArray, List.getElem_cons_zero, List.getElem_cons_succ]
      (go_simp; go_at_call 72; refine Calls.mono (HL1.out _ _ (by first | exact HB1.out.drew | exact alS HB1.out.drew _)) ?_; rintro er u9 ⟨rfl, rfl⟩; go_wp2_with fail)
      refine hK.out _ _ (by first | exact HB1.out.drew | exact alS HB1.out.drew _ | assumption) ?_
      clear hK K
      intro hHeld2
      clear hHeld
      have hHeld := hHeld2
      clear hHeld2
      try simp only [Act.put, List.setIfInBounds_toArray, List.set_cons_zero, List.set_cons_succ]
      refine wpAnyH_ready (rs := [8, 15]) (by kernel_rfl) (by simp) ?_
      refine AllReadyH.cons (o := _) rfl (fun K hK => ?_) ?_
      focus
        rw [if_pos (by rfl)]
        simp only [List.getElem_toArray, List.getElem_cons_zero, List.getElem_cons_succ]
        (go_simp; go_at_call 72; refine Calls.mono (HL2.out _ _ (by first | exact HB1.out.drew | exact alS HB1.out.drew _)) ?_; rintro er u9 ⟨rfl, rfl⟩; go_wp2_with fail)
        refine hK.out _ _ (by first | exact HB1.out.drew | exact alS HB1.out.drew _ | assumption) ?_
        clear hK K
        intro hHeld2
        clear hHeld
        have hHeld := hHeld2
        clear hHeld2
        try simp only [Act.put, List.setIfInBounds_toArray, List.set_cons_zero, List.set_cons_succ]
        refine take_at (i := 9) 17 (v := .int .i64 (L : Int)) rfl rfl (by kernel_rfl) (by kernel_rfl) (by kernel_rfl) (fun _ _ _ h => h) (by rfl) ?_ hHeld ?_
        · (intro w hSw; (try dsimp only at hSw); go_simp; first | done | with_reducible rfl | (rw [hwL]))
        simp only [Act.put, List.setIfInBounds_toArray, List.set_cons_zero, List.set_cons_succ]
        refine wpAnyH_ready (rs := [12, 15]) (by kernel_rfl) (by simp) ?_
        refine AllReadyH.cons (o := _) rfl (fun K hK => ?_) ?_
        focus
          rw [if_pos (by rfl)]
          simp only [List.getElem_toArray, List.getElem_cons_zero, List.getElem_cons_succ]
          (go_simp; go_at_call 72; refine Calls.mono (HL3.out _ _ (by first | exact HB1.out.drew | exact alS HB1.out.drew _)) ?_; rintro er u9 ⟨rfl, rfl⟩; go_wp2_with fail)
          refine hK.out _ _ (by first | exact HB1.out.drew | exact alS HB1.out.drew _ | assumption) ?_
          clear hK K
          intro hHeld2
          clear hHeld
          have hHeld := hHeld2
          clear hHeld2
          try simp only [Act.put, List.setIfInBounds_toArray, List.set_cons_zero, List.set_cons_succ]
          refine take_at (i := 13) 21 (v := .int .i64 (I : Int)) rfl rfl (by kernel_rfl) (by kernel_rfl) (by kernel_rfl) (fun _ _ _ h => h) (by rfl) ?_ hHeld ?_
          · (intro w hSw; (try dsimp only at hSw); go_simp; first | done | with_reducible rfl | (rw [hwI]))
          simp only [Act.put, List.setIfInBounds_toArray, List.set_cons_zero, List.set_cons_succ]
          refine take_at (i := 14) 22 (v := ?_) rfl rfl (by kernel_rfl) (by kernel_rfl) (by kernel_rfl) (fun _ _ _ h => h) (by rfl) ?_ hHeld ?_
          rotate_left
          · (intro w hSw; (try dsimp only at hSw); go_simp; try with_reducible rfl)
          simp only [Act.put, List.setIfInBounds_toArray, List.set_cons_zero, List.set_cons_succ]
          refine run_at (i := 15) rfl (by kernel_rfl) (by rfl) (fun K hK => ?_)
          simp only [List.getElem_toArray, List.getElem_cons_zero, List.getElem_cons_succ]
          go_simp
          go_wp2_with fail
          refine hK.out _ _ (by first | exact HB1.out.drew | exact alS HB1.out.drew _ | assumption) ?_
          clear hK K
          intro hHeld2
          clear hHeld
          have hHeld := hHeld2
          clear hHeld2
          try simp only [Act.put, List.setIfInBounds_toArray, List.set_cons_zero, List.set_cons_succ]
          refine run_at (i := 16) rfl (by kernel_rfl) (by rfl) (fun K hK => ?_)
          simp only [List.getElem_toArray, List.getElem_cons_zero, List.getElem_cons_succ]
          ((refine wpo_storeL (W := w) _ _ rfl _ _ _ _ _ (by rfl) (by rfl) (by simp [Value.oneCell']) _ _ _ _ _ (heap_alloc_new _ _) (alS HB1.out.drew _) HB1.out.size ?_; intro z hz hcz hgz))
          refine hK.out _ _ (by first | exact HB1.out.drew | exact alS HB1.out.drew _ | assumption) ?_
          clear hK K
          intro hHeld2
          clear hHeld
          have hHeld := hHeld2
          clear hHeld2
          try simp only [Act.put, List.setIfInBounds_toArray, List.set_cons_zero, List.set_cons_succ]
          refine wpAnyH_done (by kernel_rfl) ?_ _
        rotate_left 1
        refine AllReadyH.cons (o := _) rfl (fun K hK => ?_) AllReadyH.nil
        focus
          rw [if_pos (by rfl)]
          simp only [List.getElem_toArray, List.getElem_cons_zero, List.getElem_cons_succ]
          go_simp
          go_wp2_with fail
          refine hK.out _ _ (by first | exact HB1.out.drew | exact alS HB1.out.drew _ | assumption) ?_
          clear hK K
          intro hHeld2
          clear hHeld
          have hHeld := hHeld2
          clear hHeld2
          try simp only [Act.put, List.setIfInBounds_toArray, List.set_cons_zero, List.set_cons_succ]
          refine run_at (i := 12) rfl (by kernel_rfl) (by rfl) (fun K hK => ?_)
          simp only [List.getElem_toArray, List.getElem_cons_zero, List.getElem_cons_succ]
          (go_simp; go_at_call 72; refine Calls.mono (HL3.out _ _ (by first | exact HB1.out.drew | exact alS HB1.out.drew _)) ?_; rintro er u9 ⟨rfl, rfl⟩; go_wp2_with fail)
          refine hK.out _ _ (by first | exact HB1.out.drew | exact alS HB1.out.drew _ | assumption) ?_
          clear hK K
          intro hHeld2
          clear hHeld
          have hHeld := hHeld2
          clear hHeld2
          try simp only [Act.put, List.setIfInBounds_toArray, List.set_cons_zero, List.set_cons_succ]
          refine take_at (i := 13) 21 (v := .int .i64 (I : Int)) rfl rfl (by kernel_rfl) (by kernel_rfl) (by kernel_rfl) (fun _ _ _ h => h) (by rfl) ?_ hHeld ?_
          · (intro w hSw; (try dsimp only at hSw); go_simp; first | done | with_reducible rfl | (rw [hwI]))
          simp only [Act.put, List.setIfInBounds_toArray, List.set_cons_zero, List.set_cons_succ]
          refine take_at (i := 14) 22 (v := ?_) rfl rfl (by kernel_rfl) (by kernel_rfl) (by kernel_rfl) (fun _ _ _ h => h) (by rfl) ?_ hHeld ?_
          rotate_left
          · (intro w hSw; (try dsimp only at hSw); go_simp; try with_reducible rfl)
          simp only [Act.put, List.setIfInBounds_toArray, List.set_cons_zero, List.set_cons_succ]
          refine run_at (i := 16) rfl (by kernel_rfl) (by rfl) (fun K hK => ?_)
          simp only [List.getElem_toArray, List.getElem_cons_zero, List.getElem_cons_succ]
          ((refine wpo_storeL (W := w) _ _ rfl _ _ _ _ _ (by rfl) (by rfl) (by simp [Value.oneCell']) _ _ _ _ _ (heap_alloc_new _ _) (alS HB1.out.drew _) HB1.out.size ?_; intro z hz hcz hgz))
          refine hK.out _ _ (by first | exact HB1.out.drew | exact alS HB1.out.drew _ | assumption) ?_
          clear hK K
          intro hHeld2
          clear hHeld
          have hHeld := hHeld2
          clear hHeld2
          try simp only [Act.put, List.setIfInBounds_toArray, List.set_cons_zero, List.set_cons_succ]
          refine wpAnyH_done (by kernel_rfl) ?_ _
      rotate_left 2
      refine AllReadyH.cons (o := _) rfl (fun K hK => ?_) AllReadyH.nil
      focus
        rw [if_pos (by rfl)]
        simp only [List.getElem_toArray, List.getElem_cons_zero, List.getElem_cons_succ]
        go_simp
        go_wp2_with fail
        refine hK.out _ _ (by first | exact HB1.out.drew | exact alS HB1.out.drew _ | assumption) ?_
        clear hK K
        intro hHeld2
        clear hHeld
        have hHeld := hHeld2
        clear hHeld2
        try simp only [Act.put, List.setIfInBounds_toArray, List.set_cons_zero, List.set_cons_succ]
        refine run_at (i := 8) rfl (by kernel_rfl) (by rfl) (fun K hK => ?_)
        simp only [List.getElem_toArray, List.getElem_cons_zero, List.getElem_cons_succ]
        (go_simp; go_at_call 72; refine Calls.mono (HL2.out _ _ (by first | exact HB1.out.drew | exact alS HB1.out.drew _)) ?_; rintro er u9 ⟨rfl, rfl⟩; go_wp2_with fail)
        refine hK.out _ _ (by first | exact HB1.out.drew | exact alS HB1.out.drew _ | assumption) ?_
        clear hK K
        intro hHeld2
        clear hHeld
        have hHeld := hHeld2
        clear hHeld2
        try simp only [Act.put, List.setIfInBounds_toArray, List.set_cons_zero, List.set_cons_succ]
        refine take_at (i := 9) 17 (v := .int .i64 (L : Int)) rfl rfl (by kernel_rfl) (by kernel_rfl) (by kernel_rfl) (fun _ _ _ h => h) (by rfl) ?_ hHeld ?_
        · (intro w hSw; (try dsimp only at hSw); go_simp; first | done | with_reducible rfl | (rw [hwL]))
        simp only [Act.put, List.setIfInBounds_toArray, List.set_cons_zero, List.set_cons_succ]
        refine run_at (i := 12) rfl (by kernel_rfl) (by rfl) (fun K hK => ?_)
        simp only [List.getElem_toArray, List.getElem_cons_zero, List.getElem_cons_succ]
        (go_simp; go_at_call 72; refine Calls.mono (HL3.out _ _ (by first | exact HB1.out.drew | exact alS HB1.out.drew _)) ?_; rintro er u9 ⟨rfl, rfl⟩; go_wp2_with fail)
        refine hK.out _ _ (by first | exact HB1.out.drew | exact alS HB1.out.drew _ | assumption) ?_
        clear hK K
        intro hHeld2
        clear hHeld
        have hHeld := hHeld2
        clear hHeld2
        try simp only [Act.put, List.setIfInBounds_toArray, List.set_cons_zero, List.set_cons_succ]
        refine take_at (i := 13) 21 (v := .int .i64 (I : Int)) rfl rfl (by kernel_rfl) (by kernel_rfl) (by kernel_rfl) (fun _ _ _ h => h) (by rfl) ?_ hHeld ?_
        · (intro w hSw; (try dsimp only at hSw); go_simp; first | done | with_reducible rfl | (rw [hwI]))
        simp only [Act.put, List.setIfInBounds_toArray, List.set_cons_zero, List.set_cons_succ]
        refine take_at (i := 14) 22 (v := ?_) rfl rfl (by kernel_rfl) (by kernel_rfl) (by kernel_rfl) (fun _ _ _ h => h) (by rfl) ?_ hHeld ?_
        rotate_left
        · (intro w hSw; (try dsimp only at hSw); go_simp; try with_reducible rfl)
        simp only [Act.put, List.setIfInBounds_toArray, List.set_cons_zero, List.set_cons_succ]
        refine run_at (i := 16) rfl (by kernel_rfl) (by rfl) (fun K hK => ?_)
        simp only [List.getElem_toArray, List.getElem_cons_zero, List.getElem_cons_succ]
        ((refine wpo_storeL (W := w) _ _ rfl _ _ _ _ _ (by rfl) (by rfl) (by simp [Value.oneCell']) _ _ _ _ _ (heap_alloc_new _ _) (alS HB1.out.drew _) HB1.out.size ?_; intro z hz hcz hgz))
        refine hK.out _ _ (by first | exact HB1.out.drew | exact alS HB1.out.drew _ | assumption) ?_
        clear hK K
        intro hHeld2
        clear hHeld
        have hHeld := hHeld2
        clear hHeld2
        try simp only [Act.put, List.setIfInBounds_toArray, List.set_cons_zero, List.set_cons_succ]
        refine wpAnyH_done (by kernel_rfl) ?_ _
    rotate_left 3
    refine AllReadyH.cons (o := _) rfl (fun K hK => ?_) AllReadyH.nil
    focus
      rw [if_pos (by rfl)]
      simp only [List.getElem_toArray, List.getElem_cons_zero, List.getElem_cons_succ]
      go_simp
      go_wp2_with fail
      refine hK.out _ _ (by first | exact HB1.out.drew | exact alS HB1.out.drew _ | assumption) ?_
      clear hK K
      intro hHeld2
      clear hHeld
      have hHeld := hHeld2
      clear hHeld2
      try simp only [Act.put, List.setIfInBounds_toArray, List.set_cons_zero, List.set_cons_succ]
      refine run_at (i := 5) rfl (by kernel_rfl) (by rfl) (fun K hK => ?_)
      simp only [List.getElem_toArray, List.getElem_cons_zero, List.getElem_cons_succ]
      (go_simp; go_at_call 72; refine Calls.mono (HL1.out _ _ (by first | exact HB1.out.drew | exact alS HB1.out.drew _)) ?_; rintro er u9 ⟨rfl, rfl⟩; go_wp2_with fail)
      refine hK.out _ _ (by first | exact HB1.out.drew | exact alS HB1.out.drew _ | assumption) ?_
      clear hK K
      intro hHeld2
      clear hHeld
      have hHeld := hHeld2
      clear hHeld2
      try simp only [Act.put, List.setIfInBounds_toArray, List.set_cons_zero, List.set_cons_succ]
      refine run_at (i := 8) rfl (by kernel_rfl) (by rfl) (fun K hK => ?_)
      simp only [List.getElem_toArray, List.getElem_cons_zero, List.getElem_cons_succ]
      (go_simp; go_at_call 72; refine Calls.mono (HL2.out _ _ (by first | exact HB1.out.drew | exact alS HB1.out.drew _)) ?_; rintro er u9 ⟨rfl, rfl⟩; go_wp2_with fail)
      refine hK.out _ _ (by first | exact HB1.out.drew | exact alS HB1.out.drew _ | assumption) ?_
      clear hK K
      intro hHeld2
      clear hHeld
      have hHeld := hHeld2
      clear hHeld2
      try simp only [Act.put, List.setIfInBounds_toArray, List.set_cons_zero, List.set_cons_succ]
      refine take_at (i := 9) 17 (v := .int .i64 (L : Int)) rfl rfl (by kernel_rfl) (by kernel_rfl) (by kernel_rfl) (fun _ _ _ h => h) (by rfl) ?_ hHeld ?_
      · (intro w hSw; (try dsimp only at hSw); go_simp; first | done | with_reducible rfl | (rw [hwL]))
      simp only [Act.put, List.setIfInBounds_toArray, List.set_cons_zero, List.set_cons_succ]
      refine run_at (i := 12) rfl (by kernel_rfl) (by rfl) (fun K hK => ?_)
      simp only [List.getElem_toArray, List.getElem_cons_zero, List.getElem_cons_succ]
      (go_simp; go_at_call 72; refine Calls.mono (HL3.out _ _ (by first | exact HB1.out.drew | exact alS HB1.out.drew _)) ?_; rintro er u9 ⟨rfl, rfl⟩; go_wp2_with fail)
      refine hK.out _ _ (by first | exact HB1.out.drew | exact alS HB1.out.drew _ | assumption) ?_
      clear hK K
      intro hHeld2
      clear hHeld
      have hHeld := hHeld2
      clear hHeld2
      try simp only [Act.put, List.setIfInBounds_toArray, List.set_cons_zero, List.set_cons_succ]
      refine take_at (i := 13) 21 (v := .int .i64 (I : Int)) rfl rfl (by kernel_rfl) (by kernel_rfl) (by kernel_rfl) (fun _ _ _ h => h) (by rfl) ?_ hHeld ?_
      · (intro w hSw; (try dsimp only at hSw); go_simp; first | done | with_reducible rfl | (rw [hwI]))
      simp only [Act.put, List.setIfInBounds_toArray, List.set_cons_zero, List.set_cons_succ]
      refine take_at (i := 14) 22 (v := ?_) rfl rfl (by kernel_rfl) (by kernel_rfl) (by kernel_rfl) (fun _ _ _ h => h) (by rfl) ?_ hHeld ?_
      rotate_left
      · (intro w hSw; (try dsimp only at hSw); go_simp; try with_reducible rfl)
      simp only [Act.put, List.setIfInBounds_toArray, List.set_cons_zero, List.set_cons_succ]
      refine run_at (i := 16) rfl (by kernel_rfl) (by rfl) (fun K hK => ?_)
      simp only [List.getElem_toArray, List.getElem_cons_zero, List.getElem_cons_succ]
      ((refine wpo_storeL (W := w) _ _ rfl _ _ _ _ _ (by rfl) (by rfl) (by simp [Value.oneCell']) _ _ _ _ _ (heap_alloc_new _ _) (alS HB1.out.drew _) HB1.out.size ?_; intro z hz hcz hgz))
      refine hK.out _ _ (by first | exact HB1.out.drew | exact alS HB1.out.drew _ | assumption) ?_
      clear hK K
      intro hHeld2
      clear hHeld
      have hHeld := hHeld2
      clear hHeld2
      try simp only [Act.put, List.setIfInBounds_toArray, List.set_cons_zero, List.set_cons_succ]
      refine wpAnyH_done (by kernel_rfl) ?_ _
  rotate_left 4
  refine AllReadyH.cons (o := _) rfl (fun K hK => ?_) AllReadyH.nil
  focus
    rw [if_pos (by rfl)]
    simp only [List.getElem_toArray, List.getElem_cons_zero, List.getElem_cons_succ]
    go_simp
    go_wp2_with fail
    refine hK.out _ _ (by first | exact HB1.out.drew | exact alS HB1.out.drew _ | assumption) ?_
    clear hK K
    intro hHeld2
    clear hHeld
    have hHeld := hHeld2
    clear hHeld2
    try simp only [Act.put, List.setIfInBounds_toArray, List.set_cons_zero, List.set_cons_succ]
    refine run_at (i := 2) rfl (by kernel_rfl) (by rfl) (fun K hK => ?_)
    simp only [List.getElem_toArray, List.getElem_cons_zero, List.getElem_cons_succ]
    (go_simp; go_at_call 72; refine Calls.mono (HL0.out _ _ (by first | exact HB1.out.drew | exact alS HB1.out.drew _)) ?_; rintro er u9 ⟨rfl, rfl⟩; go_wp2_with fail)
    refine hK.out _ _ (by first | exact HB1.out.drew | exact alS HB1.out.drew _ | assumption) ?_
    clear hK K
    intro hHeld2
    clear hHeld
    have hHeld := hHeld2
    clear hHeld2
    try simp only [Act.put, List.setIfInBounds_toArray, List.set_cons_zero, List.set_cons_succ]
    refine run_at (i := 5) rfl (by kernel_rfl) (by rfl) (fun K hK => ?_)
    simp only [List.getElem_toArray, List.getElem_cons_zero, List.getElem_cons_succ]
    (go_simp; go_at_call 72; refine Calls.mono (HL1.out _ _ (by first | exact HB1.out.drew | exact alS HB1.out.drew _)) ?_; rintro er u9 ⟨rfl, rfl⟩; go_wp2_with fail)
    refine hK.out _ _ (by first | exact HB1.out.drew | exact alS HB1.out.drew _ | assumption) ?_
    clear hK K
    intro hHeld2
    clear hHeld
    have hHeld := hHeld2
    clear hHeld2
    try simp only [Act.put, List.setIfInBounds_toArray, List.set_cons_zero, List.set_cons_succ]
    refine run_at (i := 8) rfl (by kernel_rfl) (by rfl) (fun K hK => ?_)
    simp only [List.getElem_toArray, List.getElem_cons_zero, List.getElem_cons_succ]
    (go_simp; go_at_call 72; refine Calls.mono (HL2.out _ _ (by first | exact HB1.out.drew | exact alS HB1.out.drew _)) ?_; rintro er u9 ⟨rfl, rfl⟩; go_wp2_with fail)
    refine hK.out _ _ (by first | exact HB1.out.drew | exact alS HB1.out.drew _ | assumption) ?_
    clear hK K
    intro hHeld2
    clear hHeld
    have hHeld := hHeld2
    clear hHeld2
    try simp only [Act.put, List.setIfInBounds_toArray, List.set_cons_zero, List.set_cons_succ]
    refine take_at (i := 9) 17 (v := .int .i64 (L : Int)) rfl rfl (by kernel_rfl) (by kernel_rfl) (by kernel_rfl) (fun _ _ _ h => h) (by rfl) ?_ hHeld ?_
    · (intro w hSw; (try dsimp only at hSw); go_simp; first | done | with_reducible rfl | (rw [hwL]))
    simp only [Act.put, List.setIfInBounds_toArray, List.set_cons_zero, List.set_cons_succ]
    refine run_at (i := 12) rfl (by kernel_rfl) (by rfl) (fun K hK => ?_)
    simp only [List.getElem_toArray, List.getElem_cons_zero, List.getElem_cons_succ]
    (go_simp; go_at_call 72; refine Calls.mono (HL3.out _ _ (by first | exact HB1.out.drew | exact alS HB1.out.drew _)) ?_; rintro er u9 ⟨rfl, rfl⟩; go_wp2_with fail)
    refine hK.out _ _ (by first | exact HB1.out.drew | exact alS HB1.out.drew _ | assumption) ?_
    clear hK K
    intro hHeld2
    clear hHeld
    have hHeld := hHeld2
    clear hHeld2
    try simp only [Act.put, List.setIfInBounds_toArray, List.set_cons_zero, List.set_cons_succ]
    refine take_at (i := 13) 21 (v := .int .i64 (I : Int)) rfl rfl (by kernel_rfl) (by kernel_rfl) (by kernel_rfl) (fun _ _ _ h => h) (by rfl) ?_ hHeld ?_
    · (intro w hSw; (try dsimp only at hSw); go_simp; first | done | with_reducible rfl | (rw [hwI]))
    simp only [Act.put, List.setIfInBounds_toArray, List.set_cons_zero, List.set_cons_succ]
    refine take_at (i := 14) 22 (v := ?_) rfl rfl (by kernel_rfl) (by kernel_rfl) (by kernel_rfl) (fun _ _ _ h => h) (by rfl) ?_ hHeld ?_
    rotate_left
    · (intro w hSw; (try dsimp only at hSw); go_simp; try with_reducible rfl)
    simp only [Act.put, List.setIfInBounds_toArray, List.set_cons_zero, List.set_cons_succ]
    refine run_at (i := 16) rfl (by kernel_rfl) (by rfl) (fun K hK => ?_)
    simp only [List.getElem_toArray, List.getElem_cons_zero, List.getElem_cons_succ]
    ((refine wpo_storeL (W := w) _ _ rfl _ _ _ _ _ (by rfl) (by rfl) (by simp [Value.oneCell']) _ _ _ _ _ (heap_alloc_new _ _) (alS HB1.out.drew _) HB1.out.size ?_; intro z hz hcz hgz))
    refine hK.out _ _ (by first | exact HB1.out.drew | exact alS HB1.out.drew _ | assumption) ?_
    clear hK K
    intro hHeld2
    clear hHeld
    have hHeld := hHeld2
    clear hHeld2
    try simp only [Act.put, List.setIfInBounds_toArray, List.set_cons_zero, List.set_cons_succ]
    refine wpAnyH_done (by kernel_rfl) ?_ _
  focus
    have HBz : Hid (Below w.heap.size w z.drew) := hz.drew
    have HCz : Hid (z.drew.heap[w1.heap.size]? = some (.cells #[.int .u64 (N : Int), .int .u64 (E : Int), .int .i64 (L : Int), .int .i64 (I : Int)] tLb (0, 0))) := hcz
    have HZz : Hid (z.drew.heap[w.heap.size]? = some (.cells #[.int .u64 0, .int .u64 0, .int .i64 0, .int .i64 0, .slice none 0 0] tPc (0, 0))) := (show z.heap[w.heap.size]? = _ from grown_blk hgz (below_blk (alS (Below.refl _ _).drew _) HC1.out) HNE.out.symm)
    have hsz := cells4 HCz.out
    clear hz hcz hgz
    go_wp2_with fail
    refine wp_region_held_drew (S := (fun u => u.cell? ⟨w1.heap.size, 0, none⟩ = some (.int .u64 (N : Int)) ∧ u.cell? ⟨w1.heap.size, 1, none⟩ = some (.int .u64 (E : Int)) ∧ u.cell? ⟨w1.heap.size, 2, none⟩ = some (.int .i64 (L : Int)) ∧ u.cell? ⟨w1.heap.size, 3, none⟩ = some (.int .i64 (I : Int)))) (by kernel_rfl) (by first | exact hsz | assumption) (fun hHeld => ?_)
    refine take_at (i := 0) 23 (v := ?_) rfl rfl (by kernel_rfl) (by kernel_rfl) (by kernel_rfl) (fun _ _ _ h => h) (by rfl) ?_ hHeld ?_
    rotate_left
    · (intro w hSw; (try dsimp only at hSw); go_simp; try with_reducible rfl)
    simp only [Act.put, List.setIfInBounds_toArray, List.set_cons_zero, List.set_cons_succ]
    refine take_at (i := 1) 24 (v := ?_) rfl rfl (by kernel_rfl) (by kernel_rfl) (by kernel_rfl) (fun _ _ _ h => h) (by rfl) ?_ hHeld ?_
    rotate_left
    · (intro w hSw; (try dsimp only at hSw); go_simp; try with_reducible rfl)
    simp only [Act.put, List.setIfInBounds_toArray, List.set_cons_zero, List.set_cons_succ]
    refine take_at (i := 2) 25 (v := ?_) rfl rfl (by kernel_rfl) (by kernel_rfl) (by kernel_rfl) (fun _ _ _ h => h) (by rfl) ?_ hHeld ?_
    rotate_left
    · (intro w hSw; (try dsimp only at hSw); go_simp; try with_reducible rfl)
    simp only [Act.put, List.setIfInBounds_toArray, List.set_cons_zero, List.set_cons_succ]
    refine take_at (i := 3) 26 (v := ?_) rfl rfl (by kernel_rfl) (by kernel_rfl) (by kernel_rfl) (fun _ _ _ h => h) (by rfl) ?_ hHeld ?_
    rotate_left
    · (intro w hSw; (try dsimp only at hSw); go_simp; try with_reducible rfl)
    simp only [Act.put, List.setIfInBounds_toArray, List.set_cons_zero, List.set_cons_succ]
    refine run_at (i := 4) rfl (by kernel_rfl) (by rfl) (fun K hK => ?_)
    simp only [List.getElem_toArray, List.getElem_cons_zero, List.getElem_cons_succ]
    (go_simp; go_at_call 11; refine Calls.mono (HND.out _) ?_; rintro er u9 ⟨rfl, rfl⟩; go_wp2_with fail)
    refine hK.out _ _ (by first | exact hsz | assumption) ?_
    clear hK K
    intro hHeld2
    clear hHeld
    have hHeld := hHeld2
    clear hHeld2
    try simp only [Act.put, List.setIfInBounds_toArray, List.set_cons_zero, List.set_cons_succ]
    refine take_at (i := 5) 28 (v := .bool true) rfl rfl (by kernel_rfl) (by kernel_rfl) (by kernel_rfl) (fun _ _ _ h => h) (by rfl) ?_ hHeld ?_
    · (intro w hSw; (try dsimp only at hSw); go_simp; first | done | with_reducible rfl | omega | (simp; omega))
    simp only [Act.put, List.setIfInBounds_toArray, List.set_cons_zero, List.set_cons_succ]
    refine wpAnyH_done (by kernel_rfl) ?_ _
    obtain ⟨u3, hu3⟩ : ∃ X : World, X = z.drew := ⟨_, rfl⟩
    rw [← hu3]
    rw [← hu3] at HZz HBz
    obtain ⟨j0, j1, j2, j3, j4⟩ := cells5 HZz.out
    have f0 := frz HZz.out 0
    have f1 := frz HZz.out 1
    have f2 := frz HZz.out 2
    have f3 := frz HZz.out 3
    have f4 := frz HZz.out 4
    clear hsz hHeld hu3 HCz
    go_wp2
    refine bodyPost_ret (v := .tuple #[pcV 0 0 0 0 (.slice none 0 0), .bool false]) (by simp [results, Tryd.results79, go_sem, j0, j1, j2, j3, j4]) rfl ⟨rfl, ?_⟩
    exact below_s5 HBz.out (Nat.le_refl _)
  focus
    have HBz : Hid (Below w.heap.size w z.drew) := hz.drew
    have HCz : Hid (z.drew.heap[w1.heap.size]? = some (.cells #[.int .u64 (N : Int), .int .u64 (E : Int), .int .i64 (L : Int), .int .i64 (I : Int)] tLb (0, 0))) := hcz
    have HZz : Hid (z.drew.heap[w.heap.size]? = some (.cells #[.int .u64 0, .int .u64 0, .int .i64 0, .int .i64 0, .slice none 0 0] tPc (0, 0))) := (show z.heap[w.heap.size]? = _ from grown_blk hgz (below_blk (alS (Below.refl _ _).drew _) HC1.out) HNE.out.symm)
    have hsz := cells4 HCz.out
    clear hz hcz hgz
    go_wp2_with fail
    refine wp_region_held_drew (S := (fun u => u.cell? ⟨w1.heap.size, 0, none⟩ = some (.int .u64 (N : Int)) ∧ u.cell? ⟨w1.heap.size, 1, none⟩ = some (.int .u64 (E : Int)) ∧ u.cell? ⟨w1.heap.size, 2, none⟩ = some (.int .i64 (L : Int)) ∧ u.cell? ⟨w1.heap.size, 3, none⟩ = some (.int .i64 (I : Int)))) (by kernel_rfl) (by first | exact hsz | assumption) (fun hHeld => ?_)
    refine take_at (i := 0) 23 (v := ?_) rfl rfl (by kernel_rfl) (by kernel_rfl) (by kernel_rfl) (fun _ _ _ h => h) (by rfl) ?_ hHeld ?_
    rotate_left
    · (intro w hSw; (try dsimp only at hSw); go_simp; try with_reducible rfl)
    simp only [Act.put, List.setIfInBounds_toArray, List.set_cons_zero, List.set_cons_succ]
    refine take_at (i := 1) 24 (v := ?_) rfl rfl (by kernel_rfl) (by kernel_rfl) (by kernel_rfl) (fun _ _ _ h => h) (by rfl) ?_ hHeld ?_
    rotate_left
    · (intro w hSw; (try dsimp only at hSw); go_simp; try with_reducible rfl)
    simp only [Act.put, List.setIfInBounds_toArray, List.set_cons_zero, List.set_cons_succ]
    refine take_at (i := 2) 25 (v := ?_) rfl rfl (by kernel_rfl) (by kernel_rfl) (by kernel_rfl) (fun _ _ _ h => h) (by rfl) ?_ hHeld ?_
    rotate_left
    · (intro w hSw; (try dsimp only at hSw); go_simp; try with_reducible rfl)
    simp only [Act.put, List.setIfInBounds_toArray, List.set_cons_zero, List.set_cons_succ]
    refine take_at (i := 3) 26 (v := ?_) rfl rfl (by kernel_rfl) (by kernel_rfl) (by kernel_rfl) (fun _ _ _ h => h) (by rfl) ?_ hHeld ?_
    rotate_left
    · (intro w hSw; (try dsimp only at hSw); go_simp; try with_reducible rfl)
    simp only [Act.put, List.setIfInBounds_toArray, List.set_cons_zero, List.set_cons_succ]
    refine run_at (i := 4) rfl (by kernel_rfl) (by rfl) (fun K hK => ?_)
    simp only [List.getElem_toArray, List.getElem_cons_zero, List.getElem_cons_succ]
    (go_simp; go_at_call 11; refine Calls.mono (HND.out _) ?_; rintro er u9 ⟨rfl, rfl⟩; go_wp2_with fail)
    refine hK.out _ _ (by first | exact hsz | assumption) ?_
    clear hK K
    intro hHeld2
    clear hHeld
    have hHeld := hHeld2
    clear hHeld2
    try simp only [Act.put, List.setIfInBounds_toArray, List.set_cons_zero, List.set_cons_succ]
    refine take_at (i := 5) 28 (v := .bool true) rfl rfl (by kernel_rfl) (by kernel_rfl) (by kernel_rfl) (fun _ _ _ h => h) (by rfl) ?_ hHeld ?_
    · (intro w hSw; (try dsimp only at hSw); go_simp; first | done | with_reducible rfl | omega | (simp; omega))
    simp only [Act.put, List.setIfInBounds_toArray, List.set_cons_zero, List.set_cons_succ]
    refine wpAnyH_done (by kernel_rfl) ?_ _
    obtain ⟨u3, hu3⟩ : ∃ X : World, X = z.drew := ⟨_, rfl⟩
    rw [← hu3]
    rw [← hu3] at HZz HBz
    obtain ⟨j0, j1, j2, j3, j4⟩ := cells5 HZz.out
    have f0 := frz HZz.out 0
    have f1 := frz HZz.out 1
    have f2 := frz HZz.out 2
    have f3 := frz HZz.out 3
    have f4 := frz HZz.out 4
    clear hsz hHeld hu3 HCz
    go_wp2
    refine bodyPost_ret (v := .tuple #[pcV 0 0 0 0 (.slice none 0 0), .bool false]) (by simp [results, Tryd.results79, go_sem, j0, j1, j2, j3, j4]) rfl ⟨rfl, ?_⟩
    exact below_s5 HBz.out (Nat.le_refl _)
  focus
    have HBz : Hid (Below w.heap.size w z.drew) := hz.drew
    have HCz : Hid (z.drew.heap[w1.heap.size]? = some (.cells #[.int .u64 (N : Int), .int .u64 (E : Int), .int .i64 (L : Int), .int .i64 (I : Int)] tLb (0, 0))) := hcz
    have HZz : Hid (z.drew.heap[w.heap.size]? = some (.cells #[.int .u64 0, .int .u64 0, .int .i64 0, .int .i64 0, .slice none 0 0] tPc (0, 0))) := (show z.heap[w.heap.size]? = _ from grown_blk hgz (below_blk (alS (Below.refl _ _).drew _) HC1.out) HNE.out.symm)
    have hsz := cells4 HCz.out
    clear hz hcz hgz
    go_wp2_with fail
    refine wp_region_held_drew (S := (fun u => u.cell? ⟨w1.heap.size, 0, none⟩ = some (.int .u64 (N : Int)) ∧ u.cell? ⟨w1.heap.size, 1, none⟩ = some (.int .u64 (E : Int)) ∧ u.cell? ⟨w1.heap.size, 2, none⟩ = some (.int .i64 (L : Int)) ∧ u.cell? ⟨w1.heap.size, 3, none⟩ = some (.int .i64 (I : Int)))) (by kernel_rfl) (by first | exact hsz | assumption) (fun hHeld => ?_)
    refine take_at (i := 0) 23 (v := ?_) rfl rfl (by kernel_rfl) (by kernel_rfl) (by kernel_rfl) (fun _ _ _ h => h) (by rfl) ?_ hHeld ?_
    rotate_left
    · (intro w hSw; (try dsimp only at hSw); go_simp; try with_reducible rfl)
    simp only [Act.put, List.setIfInBounds_toArray, List.set_cons_zero, List.set_cons_succ]
    refine take_at (i := 1) 24 (v := ?_) rfl rfl (by kernel_rfl) (by kernel_rfl) (by kernel_rfl) (fun _ _ _ h => h) (by rfl) ?_ hHeld ?_
    rotate_left
    · (intro w hSw; (try dsimp only at hSw); go_simp; try with_reducible rfl)
    simp only [Act.put, List.setIfInBounds_toArray, List.set_cons_zero, List.set_cons_succ]
    refine take_at (i := 2) 25 (v := ?_) rfl rfl (by kernel_rfl) (by kernel_rfl) (by kernel_rfl) (fun _ _ _ h => h) (by rfl) ?_ hHeld ?_
    rotate_left
    · (intro w hSw; (try dsimp only at hSw); go_simp; try with_reducible rfl)
    simp only [Act.put, List.setIfInBounds_toArray, List.set_cons_zero, List.set_cons_succ]
    refine take_at (i := 3) 26 (v := ?_) rfl rfl (by kernel_rfl) (by kernel_rfl) (by kernel_rfl) (fun _ _ _ h => h) (by rfl) ?_ hHeld ?_
    rotate_left
    · (intro w hSw; (try dsimp only at hSw); go_simp; try with_reducible rfl)
    simp only [Act.put, List.setIfInBounds_toArray, List.set_cons_zero, List.set_cons_succ]
    refine run_at (i := 4) rfl (by kernel_rfl) (by rfl) (fun K hK => ?_)
    simp only [List.getElem_toArray, List.getElem_cons_zero, List.getElem_cons_succ]
    (go_simp; go_at_call 11; refine Calls.mono (HND.out _) ?_; rintro er u9 ⟨rfl, rfl⟩; go_wp2_with fail)
    refine hK.out _ _ (by first | exact hsz | assumption) ?_
    clear hK K
    intro hHeld2
    clear hHeld
    have hHeld := hHeld2
    clear hHeld2
    try simp only [Act.put, List.setIfInBounds_toArray, List.set_cons_zero, List.set_cons_succ]
    refine take_at (i := 5) 28 (v := .bool true) rfl rfl (by kernel_rfl) (by kernel_rfl) (by kernel_rfl) (fun _ _ _ h => h) (by rfl) ?_ hHeld ?_
    · (intro w hSw; (try dsimp only at hSw); go_simp; first | done | with_reducible rfl | omega | (simp; omega))
    simp only [Act.put, List.setIfInBounds_toArray, List.set_cons_zero, List.set_cons_succ]
    refine wpAnyH_done (by kernel_rfl) ?_ _
    obtain ⟨u3, hu3⟩ : ∃ X : World, X = z.drew := ⟨_, rfl⟩
    rw [← hu3]
    rw [← hu3] at HZz HBz
    obtain ⟨j0, j1, j2, j3, j4⟩ := cells5 HZz.out
    have f0 := frz HZz.out 0
    have f1 := frz HZz.out 1
    have f2 := frz HZz.out 2
    have f3 := frz HZz.out 3
    have f4 := frz HZz.out 4
    clear hsz hHeld hu3 HCz
    go_wp2
    refine bodyPost_ret (v := .tuple #[pcV 0 0 0 0 (.slice none 0 0), .bool false]) (by simp [results, Tryd.results79, go_sem, j0, j1, j2, j3, j4]) rfl ⟨rfl, ?_⟩
    exact below_s5 HBz.out (Nat.le_refl _)
  focus
    have HBz : Hid (Below w.heap.size w z.drew) := hz.drew
    have HCz : Hid (z.drew.heap[w1.heap.size]? = some (.cells #[.int .u64 (N : Int), .int .u64 (E : Int), .int .i64 (L : Int), .int .i64 (I : Int)] tLb (0, 0))) := hcz
    have HZz : Hid (z.drew.heap[w.heap.size]? = some (.cells #[.int .u64 0, .int .u64 0, .int .i64 0, .int .i64 0, .slice none 0 0] tPc (0, 0))) := (show z.heap[w.heap.size]? = _ from grown_blk hgz (below_blk (alS (Below.refl _ _).drew _) HC1.out) HNE.out.symm)
    have hsz := cells4 HCz.out
    clear hz hcz hgz
    go_wp2_with fail
    refine wp_region_held_drew (S := (fun u => u.cell? ⟨w1.heap.size, 0, none⟩ = some (.int .u64 (N : Int)) ∧ u.cell? ⟨w1.heap.size, 1, none⟩ = some (.int .u64 (E : Int)) ∧ u.cell? ⟨w1.heap.size, 2, none⟩ = some (.int .i64 (L : Int)) ∧ u.cell? ⟨w1.heap.size, 3, none⟩ = some (.int .i64 (I : Int)))) (by kernel_rfl) (by first | exact hsz | assumption) (fun hHeld => ?_)
    refine take_at (i := 0) 23 (v := ?_) rfl rfl (by kernel_rfl) (by kernel_rfl) (by kernel_rfl) (fun _ _ _ h => h) (by rfl) ?_ hHeld ?_
    rotate_left
    · (intro w hSw; (try dsimp only at hSw); go_simp; try with_reducible rfl)
    simp only [Act.put, List.setIfInBounds_toArray, List.set_cons_zero, List.set_cons_succ]
    refine take_at (i := 1) 24 (v := ?_) rfl rfl (by kernel_rfl) (by kernel_rfl) (by kernel_rfl) (fun _ _ _ h => h) (by rfl) ?_ hHeld ?_
    rotate_left
    · (intro w hSw; (try dsimp only at hSw); go_simp; try with_reducible rfl)
    simp only [Act.put, List.setIfInBounds_toArray, List.set_cons_zero, List.set_cons_succ]
    refine take_at (i := 2) 25 (v := ?_) rfl rfl (by kernel_rfl) (by kernel_rfl) (by kernel_rfl) (fun _ _ _ h => h) (by rfl) ?_ hHeld ?_
    rotate_left
    · (intro w hSw; (try dsimp only at hSw); go_simp; try with_reducible rfl)
    simp only [Act.put, List.setIfInBounds_toArray, List.set_cons_zero, List.set_cons_succ]
    refine take_at (i := 3) 26 (v := ?_) rfl rfl (by kernel_rfl) (by kernel_rfl) (by kernel_rfl) (fun _ _ _ h => h) (by rfl) ?_ hHeld ?_
    rotate_left
    · (intro w hSw; (try dsimp only at hSw); go_simp; try with_reducible rfl)
    simp only [Act.put, List.setIfInBounds_toArray, List.set_cons_zero, List.set_cons_succ]
    refine run_at (i := 4) rfl (by kernel_rfl) (by rfl) (fun K hK => ?_)
    simp only [List.getElem_toArray, List.getElem_cons_zero, List.getElem_cons_succ]
    (go_simp; go_at_call 11; refine Calls.mono (HND.out _) ?_; rintro er u9 ⟨rfl, rfl⟩; go_wp2_with fail)
    refine hK.out _ _ (by first | exact hsz | assumption) ?_
    clear hK K
    intro hHeld2
    clear hHeld
    have hHeld := hHeld2
    clear hHeld2
    try simp only [Act.put, List.setIfInBounds_toArray, List.set_cons_zero, List.set_cons_succ]
    refine take_at (i := 5) 28 (v := .bool true) rfl rfl (by kernel_rfl) (by kernel_rfl) (by kernel_rfl) (fun _ _ _ h => h) (by rfl) ?_ hHeld ?_
    · (intro w hSw; (try dsimp only at hSw); go_simp; first | done | with_reducible rfl | omega | (simp; omega))
    simp only [Act.put, List.setIfInBounds_toArray, List.set_cons_zero, List.set_cons_succ]
    refine wpAnyH_done (by kernel_rfl) ?_ _
    obtain ⟨u3, hu3⟩ : ∃ X : World, X = z.drew := ⟨_, rfl⟩
    rw [← hu3]
    rw [← hu3] at HZz HBz
    obtain ⟨j0, j1, j2, j3, j4⟩ := cells5 HZz.out
    have f0 := frz HZz.out 0
    have f1 := frz HZz.out 1
    have f2 := frz HZz.out 2
    have f3 := frz HZz.out 3
    have f4 := frz HZz.out 4
    clear hsz hHeld hu3 HCz
    go_wp2
    refine bodyPost_ret (v := .tuple #[pcV 0 0 0 0 (.slice none 0 0), .bool false]) (by simp [results, Tryd.results79, go_sem, j0, j1, j2, j3, j4]) rfl ⟨rfl, ?_⟩
    exact below_s5 HBz.out (Nat.le_refl _)
  focus
    have HBz : Hid (Below w.heap.size w z.drew) := hz.drew
    have HCz : Hid (z.drew.heap[w1.heap.size]? = some (.cells #[.int .u64 (N : Int), .int .u64 (E : Int), .int .i64 (L : Int), .int .i64 (I : Int)] tLb (0, 0))) := hcz
    have HZz : Hid (z.drew.heap[w.heap.size]? = some (.cells #[.int .u64 0, .int .u64 0, .int .i64 0, .int .i64 0, .slice none 0 0] tPc (0, 0))) := (show z.heap[w.heap.size]? = _ from grown_blk hgz (below_blk (alS (Below.refl _ _).drew _) HC1.out) HNE.out.symm)
    have hsz := cells4 HCz.out
    clear hz hcz hgz
    go_wp2_with fail
    refine wp_region_held_drew (S := (fun u => u.cell? ⟨w1.heap.size, 0, none⟩ = some (.int .u64 (N : Int)) ∧ u.cell? ⟨w1.heap.size, 1, none⟩ = some (.int .u64 (E : Int)) ∧ u.cell? ⟨w1.heap.size, 2, none⟩ = some (.int .i64 (L : Int)) ∧ u.cell? ⟨w1.heap.size, 3, none⟩ = some (.int .i64 (I : Int)))) (by kernel_rfl) (by first | exact hsz | assumption) (fun hHeld => ?_)
    refine take_at (i := 0) 23 (v := ?_) rfl rfl (by kernel_rfl) (by kernel_rfl) (by kernel_rfl) (fun _ _ _ h => h) (by rfl) ?_ hHeld ?_
    rotate_left
    · (intro w hSw; (try dsimp only at hSw); go_simp; try with_reducible rfl)
    simp only [Act.put, List.setIfInBounds_toArray, List.set_cons_zero, List.set_cons_succ]
    refine take_at (i := 1) 24 (v := ?_) rfl rfl (by kernel_rfl) (by kernel_rfl) (by kernel_rfl) (fun _ _ _ h => h) (by rfl) ?_ hHeld ?_
    rotate_left
    · (intro w hSw; (try dsimp only at hSw); go_simp; try with_reducible rfl)
    simp only [Act.put, List.setIfInBounds_toArray, List.set_cons_zero, List.set_cons_succ]
    refine take_at (i := 2) 25 (v := ?_) rfl rfl (by kernel_rfl) (by kernel_rfl) (by kernel_rfl) (fun _ _ _ h => h) (by rfl) ?_ hHeld ?_
    rotate_left
    · (intro w hSw; (try dsimp only at hSw); go_simp; try with_reducible rfl)
    simp only [Act.put, List.setIfInBounds_toArray, List.set_cons_zero, List.set_cons_succ]
    refine take_at (i := 3) 26 (v := ?_) rfl rfl (by kernel_rfl) (by kernel_rfl) (by kernel_rfl) (fun _ _ _ h => h) (by rfl) ?_ hHeld ?_
    rotate_left
    · (intro w hSw; (try dsimp only at hSw); go_simp; try with_reducible rfl)
    simp only [Act.put, List.setIfInBounds_toArray, List.set_cons_zero, List.set_cons_succ]
    refine run_at (i := 4) rfl (by kernel_rfl) (by rfl) (fun K hK => ?_)
    simp only [List.getElem_toArray, List.getElem_cons_zero, List.getElem_cons_succ]
    (go_simp; go_at_call 11; refine Calls.mono (HND.out _) ?_; rintro er u9 ⟨rfl, rfl⟩; go_wp2_with fail)
    refine hK.out _ _ (by first | exact hsz | assumption) ?_
    clear hK K
    intro hHeld2
    clear hHeld
    have hHeld := hHeld2
    clear hHeld2
    try simp only [Act.put, List.setIfInBounds_toArray, List.set_cons_zero, List.set_cons_succ]
    refine take_at (i := 5) 28 (v := .bool true) rfl rfl (by kernel_rfl) (by kernel_rfl) (by kernel_rfl) (fun _ _ _ h => h) (by rfl) ?_ hHeld ?_
    · (intro w hSw; (try dsimp only at hSw); go_simp; first | done | with_reducible rfl | omega | (simp; omega))
    simp only [Act.put, List.setIfInBounds_toArray, List.set_cons_zero, List.set_cons_succ]
    refine wpAnyH_done (by kernel_rfl) ?_ _
    obtain ⟨u3, hu3⟩ : ∃ X : World, X = z.drew := ⟨_, rfl⟩
    rw [← hu3]
    rw [← hu3] at HZz HBz
    obtain ⟨j0, j1, j2, j3, j4⟩ := cells5 HZz.out
    have f0 := frz HZz.out 0
    have f1 := frz HZz.out 1
    have f2 := frz HZz.out 2
    have f3 := frz HZz.out 3
    have f4 := frz HZz.out 4
    clear hsz hHeld hu3 HCz
    go_wp2
    refine bodyPost_ret (v := .tuple #[pcV 0 0 0 0 (.slice none 0 0), .bool false]) (by simp [results, Tryd.results79, go_sem, j0, j1, j2, j3, j4]) rfl ⟨rfl, ?_⟩
    exact below_s5 HBz.out (Nat.le_refl _)
end
end Go.Proofs.YtibepnilhmbpeaaDoor
