import Derived.Test.YtibepnilhmbpeaaDoorSPt
import Derived.Test.YtibepnilhmbpeaaDoorRegn
namespace Go.Proofs.YtibepnilhmbpeaaDoor
set_option linter.unusedVariables false
set_option linter.unusedSimpArgs false
open Go.RowKit
section
set_option maxRecDepth 20000
set_option maxHeartbeats 6400000
theorem headOf_t (q o cap size : Nat) (xs : List UInt8) (G E F L : Nat) (hG' : G = hdN xs 4 6) (hE' : E = hdN xs 10 6) (hF' : F = hdN xs 16 6) (hL' : L = hdN xs 22 6) (hx' : xs.length = 128) (hc : 128 ≤ cap) (hcm : cap ≤ 9223372036854775807) (hs : size < 4294967296) (w : World) (hr : Rd w (some ⟨q, o, none⟩) xs) (ht : TabOk w) :
    Calls Tryd.prog 59 #[.slice (some ⟨q, o, none⟩) 128 cap, .int .i64 (size : Int)] w fun er w' => er = .returned (.tuple #[hdV G E F L, .bool (decide (0 < G) && (xs == headT G E F L size))]) ∧ Below w.heap.size w w' := by
  have HT : Hid (TabOk w) := ht
  have HRX : Hid (Rd w (some ⟨q, o, none⟩) xs) := hr
  have hx : Hid (xs.length = 128) := hx'
  have hG : Hid (G < 18446744073709551616) := (show _ < _ by rw [hG']; exact hdN_lt _ _ _ (by decide))
  have hE : Hid (E < 18446744073709551616) := (show _ < _ by rw [hE']; exact hdN_lt _ _ _ (by decide))
  have hF : Hid (F < 18446744073709551616) := (show _ < _ by rw [hF']; exact hdN_lt _ _ _ (by decide))
  have hL : Hid (L < 18446744073709551616) := (show _ < _ by rw [hL']; exact hdN_lt _ _ _ (by decide))
  have HL0 : Hid (∀ (c : Nat) (u : World), Below w.heap.size w u → Calls Tryd.prog 72 #[.slice (some ⟨q, o + 4, none⟩) 6 c] u fun e w' => e = .returned (.int .u64 (G : Int)) ∧ w' = u) := (fun c u hu => by rw [hG']; exact low_p q o 4 6 c xs (by omega) (by decide) u (hr.below hu))
  have HL1 : Hid (∀ (c : Nat) (u : World), Below w.heap.size w u → Calls Tryd.prog 72 #[.slice (some ⟨q, o + 10, none⟩) 6 c] u fun e w' => e = .returned (.int .u64 (E : Int)) ∧ w' = u) := (fun c u hu => by rw [hE']; exact low_p q o 10 6 c xs (by omega) (by decide) u (hr.below hu))
  have HL2 : Hid (∀ (c : Nat) (u : World), Below w.heap.size w u → Calls Tryd.prog 72 #[.slice (some ⟨q, o + 16, none⟩) 6 c] u fun e w' => e = .returned (.int .u64 (F : Int)) ∧ w' = u) := (fun c u hu => by rw [hF']; exact low_p q o 16 6 c xs (by omega) (by decide) u (hr.below hu))
  have HL3 : Hid (∀ (c : Nat) (u : World), Below w.heap.size w u → Calls Tryd.prog 72 #[.slice (some ⟨q, o + 22, none⟩) 6 c] u fun e w' => e = .returned (.int .u64 (L : Int)) ∧ w' = u) := (fun c u hu => by rw [hL']; exact low_p q o 22 6 c xs (by omega) (by decide) u (hr.below hu))
  clear hr ht hx' hG' hE' hF' hL'
  obtain ⟨w1, hw1⟩ : ∃ X : World, X = w.alloc (.cells #[.int .u64 0, .int .u64 0, .int .u64 0, .int .u64 0] tHd) := ⟨_, rfl⟩
  have HB1 : Hid (Below w.heap.size w w1) := (show Below _ _ _ by rw [hw1]; exact alS (Below.refl _ _) _)
  have HC1 : Hid (w1.heap[w.heap.size]? = some (.cells #[.int .u64 0, .int .u64 0, .int .u64 0, .int .u64 0] tHd (0, 0))) := (show _ = _ by rw [hw1]; exact heap_alloc_new _ _)
  have HW1 : Hid (w1.heap.size = w.heap.size + 1) := (show _ = _ by rw [hw1]; simp)
  have HNE : Hid (w1.heap.size ≠ w.heap.size) := (show _ ≠ _ by have := HW1.out; omega)
  have h10 : (10 : Int) ≤ (cap : Int) := by omega
  have h16 : (16 : Int) ≤ (cap : Int) := by omega
  have h22 : (22 : Int) ≤ (cap : Int) := by omega
  have g4 : ¬ cap = 4 := by omega
  have g10 : ¬ cap = 10 := by omega
  have g16 : ¬ cap = 16 := by omega
  have g22 : ¬ cap = 22 := by omega
  have h28 : (28 : Int) ≤ (cap : Int) := by omega
  obtain ⟨bb, hbb⟩ : ∃ bb, bb = (xs == headT G E F L size) := ⟨_, rfl⟩
  have HBB : Hid (bb = (xs == headT G E F L size)) := hbb
  clear hbb
  have HG0 : G = 0 ∨ 0 < G := by omega
  rcases HG0 with HG0 | HG0
  · have hgn : ¬ (0 : Int) < (G : Int) := by omega
    have HRES : Hid ((decide (0 < G) && (xs == headT G E F L size)) = false) := (show _ = _ by rw [HG0]; rfl)
    clear HG0
    go_enter Tryd.func59, Tryd.ntmps59
    go_wp2_with fail
    rw [← hw1]
    clear hw1
    refine wp_region_held_drew (S := (fun u => Below w.heap.size w u)) (by kernel_rfl) (by first | exact HB1.out.drew | exact alS HB1.out.drew _ | assumption) (fun hHeld => ?_)
    refine take_at (i := 0) 7 (v := ?_) rfl rfl (by kernel_rfl) (by kernel_rfl) (by kernel_rfl) (fun _ _ _ h => h) (by rfl) ?_ hHeld ?_
    rotate_left
    · (intro w hSw; (try dsimp only at hSw); go_simp; try with_reducible rfl)
    simp only [Act.put, List.setIfInBounds_toArray, List.set_cons_zero, List.set_cons_succ]
    refine take_at (i := 1) 8 (v := ?_) rfl rfl (by kernel_rfl) (by kernel_rfl) (by kernel_rfl) (fun _ _ _ h => h) (by rfl) ?_ hHeld ?_
    rotate_left
    · (intro w hSw; (try dsimp only at hSw); go_simp; try with_reducible rfl)
    simp only [Act.put, List.setIfInBounds_toArray, List.set_cons_zero, List.set_cons_succ]
    refine take_at (i := 3) 10 (v := ?_) rfl rfl (by kernel_rfl) (by kernel_rfl) (by kernel_rfl) (fun _ _ _ h => h) (by rfl) ?_ hHeld ?_
    rotate_left
    · (intro w hSw; (try dsimp only at hSw); go_simp; try with_reducible rfl)
    simp only [Act.put, List.setIfInBounds_toArray, List.set_cons_zero, List.set_cons_succ]
    refine take_at (i := 4) 11 (v := ?_) rfl rfl (by kernel_rfl) (by kernel_rfl) (by kernel_rfl) (fun _ _ _ h => h) (by rfl) ?_ hHeld ?_
    rotate_left
    · (intro w hSw; (try dsimp only at hSw); go_simp; try with_reducible rfl)
    simp only [Act.put, List.setIfInBounds_toArray, List.set_cons_zero, List.set_cons_succ]
    refine take_at (i := 6) 13 (v := ?_) rfl rfl (by kernel_rfl) (by kernel_rfl) (by kernel_rfl) (fun _ _ _ h => h) (by rfl) ?_ hHeld ?_
    rotate_left
    · (intro w hSw; (try dsimp only at hSw); go_simp; try with_reducible rfl)
    simp only [Act.put, List.setIfInBounds_toArray, List.set_cons_zero, List.set_cons_succ]
    refine take_at (i := 7) 14 (v := ?_) rfl rfl (by kernel_rfl) (by kernel_rfl) (by kernel_rfl) (fun _ _ _ h => h) (by rfl) ?_ hHeld ?_
    rotate_left
    · (intro w hSw; (try dsimp only at hSw); go_simp; try with_reducible rfl)
    simp only [Act.put, List.setIfInBounds_toArray, List.set_cons_zero, List.set_cons_succ]
    refine take_at (i := 9) 16 (v := ?_) rfl rfl (by kernel_rfl) (by kernel_rfl) (by kernel_rfl) (fun _ _ _ h => h) (by rfl) ?_ hHeld ?_
    rotate_left
    · (intro w hSw; (try dsimp only at hSw); go_simp; try with_reducible rfl)
    simp only [Act.put, List.setIfInBounds_toArray, List.set_cons_zero, List.set_cons_succ]
    refine take_at (i := 10) 17 (v := ?_) rfl rfl (by kernel_rfl) (by kernel_rfl) (by kernel_rfl) (fun _ _ _ h => h) (by rfl) ?_ hHeld ?_
    rotate_left
    · (intro w hSw; (try dsimp only at hSw); go_simp; try with_reducible rfl)
    simp only [Act.put, List.setIfInBounds_toArray, List.set_cons_zero, List.set_cons_succ]
    refine wpAnyH_ready (rs := [2, 13]) (by kernel_rfl) (by simp) ?_
    refine AllReadyH.cons (o := _) rfl (fun K hK => ?_) ?_
    focus
      rw [if_pos (by rfl)]
      simp only [List.getElem_toArray, List.getElem_cons_zero, List.getElem_cons_succ]
      (go_simp; go_at_call 72; refine Calls.mono (HL0.out _ _ (by first | exact HB1.out.drew | exact alS HB1.out.drew _)) ?_; rintro er u9 ⟨rfl, rfl⟩; go_wp2_with fail)
      refine hK.out _ _ (by first | exact HB1.out.drew | exact alS HB1.out.drew _ | assumption) ?_
      clear hK K
      intro hHeld2
      clear hHeld
      have hHeld := hHeld2
      clear hHeld2
      try simp only [Act.put, List.setIfInBounds_toArray, List.set_cons_zero, List.set_cons_succ]
      refine wpAnyH_ready (rs := [5, 13]) (by kernel_rfl) (by simp) ?_
      refine AllReadyH.cons (o := _) rfl (fun K hK => ?_) ?_
      focus
        rw [if_pos (by rfl)]
        simp only [List.getElem_toArray, List.getElem_cons_zero, List.getElem_cons_succ]
        (go_simp; go_at_call 72; refine Calls.mono (HL1.out _ _ (by first | exact HB1.out.drew | exact alS HB1.out.drew _)) ?_; rintro er u9 ⟨rfl, rfl⟩; go_wp2_with fail)
        refine hK.out _ _ (by first | exact HB1.out.drew | exact alS HB1.out.drew _ | assumption) ?_
        clear hK K
        intro hHeld2
        clear hHeld
        have hHeld := hHeld2
        clear hHeld2
        try simp only [Act.put, List.setIfInBounds_toArray, List.set_cons_zero, List.set_cons_succ]
        refine wpAnyH_ready (rs := [8, 13]) (by kernel_rfl) (by simp) ?_
        refine AllReadyH.cons (o := _) rfl (fun K hK => ?_) ?_
        focus
          rw [if_pos (by rfl)]
          simp only [List.getElem_toArray, List.getElem_cons_zero, List.getElem_cons_succ]
          (go_simp; go_at_call 72; refine Calls.mono (HL2.out _ _ (by first | exact HB1.out.drew | exact alS HB1.out.drew _)) ?_; rintro er u9 ⟨rfl, rfl⟩; go_wp2_with fail)
          refine hK.out _ _ (by first | exact HB1.out.drew | exact alS HB1.out.drew _ | assumption) ?_
          clear hK K
          intro hHeld2
          clear hHeld
          have hHeld := hHeld2
          clear hHeld2
          try simp only [Act.put, List.setIfInBounds_toArray, List.set_cons_zero, List.set_cons_succ]
          refine wpAnyH_ready (rs := [11, 13]) (by kernel_rfl) (by simp) ?_
          refine AllReadyH.cons (o := _) rfl (fun K hK => ?_) ?_
          focus
            rw [if_pos (by rfl)]
            simp only [List.getElem_toArray, List.getElem_cons_zero, List.getElem_cons_succ]
            (go_simp; go_at_call 72; refine Calls.mono (HL3.out _ _ (by first | exact HB1.out.drew | exact alS HB1.out.drew _)) ?_; rintro er u9 ⟨rfl, rfl⟩; go_wp2_with fail)
            refine hK.out _ _ (by first | exact HB1.out.drew | exact alS HB1.out.drew _ | assumption) ?_
            clear hK K
            intro hHeld2
            clear hHeld
            have hHeld := hHeld2
            clear hHeld2
            try simp only [Act.put, List.setIfInBounds_toArray, List.set_cons_zero, List.set_cons_succ]
            refine take_at (i := 12) 19 (v := ?_) rfl rfl (by kernel_rfl) (by kernel_rfl) (by kernel_rfl) (fun _ _ _ h => h) (by rfl) ?_ hHeld ?_
            rotate_left
            · (intro w hSw; (try dsimp only at hSw); go_simp; try with_reducible rfl)
            simp only [Act.put, List.setIfInBounds_toArray, List.set_cons_zero, List.set_cons_succ]
            refine run_at (i := 13) rfl (by kernel_rfl) (by rfl) (fun K hK => ?_)
            simp only [List.getElem_toArray, List.getElem_cons_zero, List.getElem_cons_succ]
            go_simp
            go_wp2_with fail
            refine hK.out _ _ (by first | exact HB1.out.drew | exact alS HB1.out.drew _ | assumption) ?_
            clear hK K
            intro hHeld2
            clear hHeld
            have hHeld := hHeld2
            clear hHeld2
            try simp only [Act.put, List.setIfInBounds_toArray, List.set_cons_zero, List.set_cons_succ]
            refine run_at (i := 14) rfl (by kernel_rfl) (by rfl) (fun K hK => ?_)
            simp only [List.getElem_toArray, List.getElem_cons_zero, List.getElem_cons_succ]
            ((refine wpo_storeH (W := w) _ _ rfl _ _ _ _ _ (by rfl) (by rfl) (by simp [Value.oneCell']) _ _ _ _ _ (heap_alloc_new _ _) (alS HB1.out.drew _) HB1.out.size ?_; intro z hz hcz hgz))
            refine hK.out _ _ (by first | exact HB1.out.drew | exact alS HB1.out.drew _ | assumption) ?_
            clear hK K
            intro hHeld2
            clear hHeld
            have hHeld := hHeld2
            clear hHeld2
            try simp only [Act.put, List.setIfInBounds_toArray, List.set_cons_zero, List.set_cons_succ]
            refine wpAnyH_done (by kernel_rfl) ?_ _
          rotate_left 1
          refine AllReadyH.cons (o := _) rfl (fun K hK => ?_) AllReadyH.nil
          focus
            rw [if_pos (by rfl)]
            simp only [List.getElem_toArray, List.getElem_cons_zero, List.getElem_cons_succ]
            go_simp
            go_wp2_with fail
            refine hK.out _ _ (by first | exact HB1.out.drew | exact alS HB1.out.drew _ | assumption) ?_
            clear hK K
            intro hHeld2
            clear hHeld
            have hHeld := hHeld2
            clear hHeld2
            try simp only [Act.put, List.setIfInBounds_toArray, List.set_cons_zero, List.set_cons_succ]
            refine run_at (i := 11) rfl (by kernel_rfl) (by rfl) (fun K hK => ?_)
            simp only [List.getElem_toArray, List.getElem_cons_zero, List.getElem_cons_succ]
            (go_simp; go_at_call 72; refine Calls.mono (HL3.out _ _ (by first | exact HB1.out.drew | exact alS HB1.out.drew _)) ?_; rintro er u9 ⟨rfl, rfl⟩; go_wp2_with fail)
            refine hK.out _ _ (by first | exact HB1.out.drew | exact alS HB1.out.drew _ | assumption) ?_
            clear hK K
            intro hHeld2
            clear hHeld
            have hHeld := hHeld2
            clear hHeld2
            try simp only [Act.put, List.setIfInBounds_toArray, List.set_cons_zero, List.set_cons_succ]
            refine take_at (i := 12) 19 (v := ?_) rfl rfl (by kernel_rfl) (by kernel_rfl) (by kernel_rfl) (fun _ _ _ h => h) (by rfl) ?_ hHeld ?_
            rotate_left
            · (intro w hSw; (try dsimp only at hSw); go_simp; try with_reducible rfl)
            simp only [Act.put, List.setIfInBounds_toArray, List.set_cons_zero, List.set_cons_succ]
            refine run_at (i := 14) rfl (by kernel_rfl) (by rfl) (fun K hK => ?_)
            simp only [List.getElem_toArray, List.getElem_cons_zero, List.getElem_cons_succ]
            ((refine wpo_storeH (W := w) _ _ rfl _ _ _ _ _ (by rfl) (by rfl) (by simp [Value.oneCell']) _ _ _ _ _ (heap_alloc_new _ _) (alS HB1.out.drew _) HB1.out.size ?_; intro z hz hcz hgz))
            refine hK.out _ _ (by first | exact HB1.out.drew | exact alS HB1.out.drew _ | assumption) ?_
            clear hK K
            intro hHeld2
            clear hHeld
            have hHeld := hHeld2
            clear hHeld2
            try simp only [Act.put, List.setIfInBounds_toArray, List.set_cons_zero, List.set_cons_succ]
            refine wpAnyH_done (by kernel_rfl) ?_ _
        rotate_left 2
        refine AllReadyH.cons (o := _) rfl (fun K hK => ?_) AllReadyH.nil
        focus
          rw [if_pos (by rfl)]
          simp only [List.getElem_toArray, List.getElem_cons_zero, List.getElem_cons_succ]
          go_simp
          go_wp2_with fail
          refine hK.out _ _ (by first | exact HB1.out.drew | exact alS HB1.out.drew _ | assumption) ?_
          clear hK K
          intro hHeld2
          clear hHeld
          have hHeld := hHeld2
          clear hHeld2
          try simp only [Act.put, List.setIfInBounds_toArray, List.set_cons_zero, List.set_cons_succ]
          refine run_at (i := 8) rfl (by kernel_rfl) (by rfl) (fun K hK => ?_)
          simp only [List.getElem_toArray, List.getElem_cons_zero, List.getElem_cons_succ]
          (go_simp; go_at_call 72; refine Calls.mono (HL2.out _ _ (by first | exact HB1.out.drew | exact alS HB1.out.drew _)) ?_; rintro er u9 ⟨rfl, rfl⟩; go_wp2_with fail)
          refine hK.out _ _ (by first | exact HB1.out.drew | exact alS HB1.out.drew _ | assumption) ?_
          clear hK K
          intro hHeld2
          clear hHeld
          have hHeld := hHeld2
          clear hHeld2
          try simp only [Act.put, List.setIfInBounds_toArray, List.set_cons_zero, List.set_cons_succ]
          refine run_at (i := 11) rfl (by kernel_rfl) (by rfl) (fun K hK => ?_)
          simp only [List.getElem_toArray, List.getElem_cons_zero, List.getElem_cons_succ]
          (go_simp; go_at_call 72; refine Calls.mono (HL3.out _ _ (by first | exact HB1.out.drew | exact alS HB1.out.drew _)) ?_; rintro er u9 ⟨rfl, rfl⟩; go_wp2_with fail)
          refine hK.out _ _ (by first | exact HB1.out.drew | exact alS HB1.out.drew _ | assumption) ?_
          clear hK K
          intro hHeld2
          clear hHeld
          have hHeld := hHeld2
          clear hHeld2
          try simp only [Act.put, List.setIfInBounds_toArray, List.set_cons_zero, List.set_cons_succ]
          refine take_at (i := 12) 19 (v := ?_) rfl rfl (by kernel_rfl) (by kernel_rfl) (by kernel_rfl) (fun _ _ _ h => h) (by rfl) ?_ hHeld ?_
          rotate_left
          · (intro w hSw; (try dsimp only at hSw); go_simp; try with_reducible rfl)
          simp only [Act.put, List.setIfInBounds_toArray, List.set_cons_zero, List.set_cons_succ]
          refine run_at (i := 14) rfl (by kernel_rfl) (by rfl) (fun K hK => ?_)
          simp only [List.getElem_toArray, List.getElem_cons_zero, List.getElem_cons_succ]
          ((refine wpo_storeH (W := w) _ _ rfl _ _ _ _ _ (by rfl) (by rfl) (by simp [Value.oneCell']) _ _ _ _ _ (heap_alloc_new _ _) (alS HB1.out.drew _) HB1.out.size ?_; intro z hz hcz hgz))
          refine hK.out _ _ (by first | exact HB1.out.drew | exact alS HB1.out.drew _ | assumption) ?_
          clear hK K
          intro hHeld2
          clear hHeld
          have hHeld := hHeld2
          clear hHeld2
          try simp only [Act.put, List.setIfInBounds_toArray, List.set_cons_zero, List.set_cons_succ]
          refine wpAnyH_done (by kernel_rfl) ?_ _
      rotate_left 3
      refine AllReadyH.cons (o := _) rfl (fun K hK => ?_) AllReadyH.nil
      focus
        rw [if_pos (by rfl)]
        simp only [List.getElem_toArray, List.getElem_cons_zero, List.getElem_cons_succ]
        go_simp
        go_wp2_with fail
        refine hK.out _ _ (by first | exact HB1.out.drew | exact alS HB1.out.drew _ | assumption) ?_
        clear hK K
        intro hHeld2
        clear hHeld
        have hHeld := hHeld2
        clear hHeld2
        try simp only [Act.put, List.setIfInBounds_toArray, List.set_cons_zero, List.set_cons_succ]
        refine run_at (i := 5) rfl (by kernel_rfl) (by rfl) (fun K hK => ?_)
        simp only [List.getElem_toArray, List.getElem_cons_zero, List.getElem_cons_succ]
        (go_simp; go_at_call 72; refine Calls.mono (HL1.out _ _ (by first | exact HB1.out.drew | exact alS HB1.out.drew _)) ?_; rintro er u9 ⟨rfl, rfl⟩; go_wp2_with fail)
        refine hK.out _ _ (by first | exact HB1.out.drew | exact alS HB1.out.drew _ | assumption) ?_
        clear hK K
        intro hHeld2
        clear hHeld
        have hHeld := hHeld2
        clear hHeld2
        try simp only [Act.put, List.setIfInBounds_toArray, List.set_cons_zero, List.set_cons_succ]
        refine run_at (i := 8) rfl (by kernel_rfl) (by rfl) (fun K hK => ?_)
        simp only [List.getElem_toArray, List.getElem_cons_zero, List.getElem_cons_succ]
        (go_simp; go_at_call 72; refine Calls.mono (HL2.out _ _ (by first | exact HB1.out.drew | exact alS HB1.out.drew _)) ?_; rintro er u9 ⟨rfl, rfl⟩; go_wp2_with fail)
        refine hK.out _ _ (by first | exact HB1.out.drew | exact alS HB1.out.drew _ | assumption) ?_
        clear hK K
        intro hHeld2
        clear hHeld
        have hHeld := hHeld2
        clear hHeld2
        try simp only [Act.put, List.setIfInBounds_toArray, List.set_cons_zero, List.set_cons_succ]
        refine run_at (i := 11) rfl (by kernel_rfl) (by rfl) (fun K hK => ?_)
        simp only [List.getElem_toArray, List.getElem_cons_zero, List.getElem_cons_succ]
        (go_simp; go_at_call 72; refine Calls.mono (HL3.out _ _ (by first | exact HB1.out.drew | exact alS HB1.out.drew _)) ?_; rintro er u9 ⟨rfl, rfl⟩; go_wp2_with fail)
        refine hK.out _ _ (by first | exact HB1.out.drew | exact alS HB1.out.drew _ | assumption) ?_
        clear hK K
        intro hHeld2
        clear hHeld
        have hHeld := hHeld2
        clear hHeld2
        try simp only [Act.put, List.setIfInBounds_toArray, List.set_cons_zero, List.set_cons_succ]
        refine take_at (i := 12) 19 (v := ?_) rfl rfl (by kernel_rfl) (by kernel_rfl) (by kernel_rfl) (fun _ _ _ h => h) (by rfl) ?_ hHeld ?_
        rotate_left
        · (intro w hSw; (try dsimp only at hSw); go_simp; try with_reducible rfl)
        simp only [Act.put, List.setIfInBounds_toArray, List.set_cons_zero, List.set_cons_succ]
        refine run_at (i := 14) rfl (by kernel_rfl) (by rfl) (fun K hK => ?_)
        simp only [List.getElem_toArray, List.getElem_cons_zero, List.getElem_cons_succ]
        ((refine wpo_storeH (W := w) _ _ rfl _ _ _ _ _ (by rfl) (by rfl) (by simp [Value.oneCell']) _ _ _ _ _ (heap_alloc_new _ _) (alS HB1.out.drew _) HB1.out.size ?_; intro z hz hcz hgz))
        refine hK.out _ _ (by first | exact HB1.out.drew | exact alS HB1.out.drew _ | assumption) ?_
        clear hK K
        intro hHeld2
        clear hHeld
        have hHeld := hHeld2
        clear hHeld2
        try simp only [Act.put, List.setIfInBounds_toArray, List.set_cons_zero, List.set_cons_succ]
        refine wpAnyH_done (by kernel_rfl) ?_ _
    rotate_left 4
    refine AllReadyH.cons (o := _) rfl (fun K hK => ?_) AllReadyH.nil
    focus
      rw [if_pos (by rfl)]
      simp only [List.getElem_toArray, List.getElem_cons_zero, List.getElem_cons_succ]
      go_simp
      go_wp2_with fail
      refine hK.out _ _ (by first | exact HB1.out.drew | exact alS HB1.out.drew _ | assumption) ?_
      clear hK K
      intro hHeld2
      clear hHeld
      have hHeld := hHeld2
      clear hHeld2
      try simp only [Act.put, List.setIfInBounds_toArray, List.set_cons_zero, List.set_cons_succ]
      refine run_at (i := 2) rfl (by kernel_rfl) (by rfl) (fun K hK => ?_)
      simp only [List.getElem_toArray, List.getElem_cons_zero, List.getElem_cons_succ]
      (go_simp; go_at_call 72; refine Calls.mono (HL0.out _ _ (by first | exact HB1.out.drew | exact alS HB1.out.drew _)) ?_; rintro er u9 ⟨rfl, rfl⟩; go_wp2_with fail)
      refine hK.out _ _ (by first | exact HB1.out.drew | exact alS HB1.out.drew _ | assumption) ?_
      clear hK K
      intro hHeld2
      clear hHeld
      have hHeld := hHeld2
      clear hHeld2
      try simp only [Act.put, List.setIfInBounds_toArray, List.set_cons_zero, List.set_cons_succ]
      refine run_at (i := 5) rfl (by kernel_rfl) (by rfl) (fun K hK => ?_)
      simp only [List.getElem_toArray, List.getElem_cons_zero, List.getElem_cons_succ]
      (go_simp; go_at_call 72; refine Calls.mono (HL1.out _ _ (by first | exact HB1.out.drew | exact alS HB1.out.drew _)) ?_; rintro er u9 ⟨rfl, rfl⟩; go_wp2_with fail)
      refine hK.out _ _ (by first | exact HB1.out.drew | exact alS HB1.out.drew _ | assumption) ?_
      clear hK K
      intro hHeld2
      clear hHeld
      have hHeld := hHeld2
      clear hHeld2
      try simp only [Act.put, List.setIfInBounds_toArray, List.set_cons_zero, List.set_cons_succ]
      refine run_at (i := 8) rfl (by kernel_rfl) (by rfl) (fun K hK => ?_)
      simp only [List.getElem_toArray, List.getElem_cons_zero, List.getElem_cons_succ]
      (go_simp; go_at_call 72; refine Calls.mono (HL2.out _ _ (by first | exact HB1.out.drew | exact alS HB1.out.drew _)) ?_; rintro er u9 ⟨rfl, rfl⟩; go_wp2_with fail)
      refine hK.out _ _ (by first | exact HB1.out.drew | exact alS HB1.out.drew _ | assumption) ?_
      clear hK K
      intro hHeld2
      clear hHeld
      have hHeld := hHeld2
      clear hHeld2
      try simp only [Act.put, List.setIfInBounds_toArray, List.set_cons_zero, List.set_cons_succ]
      refine run_at (i := 11) rfl (by kernel_rfl) (by rfl) (fun K hK => ?_)
      simp only [List.getElem_toArray, List.getElem_cons_zero, List.getElem_cons_succ]
      (go_simp; go_at_call 72; refine Calls.mono (HL3.out _ _ (by first | exact HB1.out.drew | exact alS HB1.out.drew _)) ?_; rintro er u9 ⟨rfl, rfl⟩; go_wp2_with fail)
      refine hK.out _ _ (by first | exact HB1.out.drew | exact alS HB1.out.drew _ | assumption) ?_
      clear hK K
      intro hHeld2
      clear hHeld
      have hHeld := hHeld2
      clear hHeld2
      try simp only [Act.put, List.setIfInBounds_toArray, List.set_cons_zero, List.set_cons_succ]
      refine take_at (i := 12) 19 (v := ?_) rfl rfl (by kernel_rfl) (by kernel_rfl) (by kernel_rfl) (fun _ _ _ h => h) (by rfl) ?_ hHeld ?_
      rotate_left
      · (intro w hSw; (try dsimp only at hSw); go_simp; try with_reducible rfl)
      simp only [Act.put, List.setIfInBounds_toArray, List.set_cons_zero, List.set_cons_succ]
      refine run_at (i := 14) rfl (by kernel_rfl) (by rfl) (fun K hK => ?_)
      simp only [List.getElem_toArray, List.getElem_cons_zero, List.getElem_cons_succ]
      ((refine wpo_storeH (W := w) _ _ rfl _ _ _ _ _ (by rfl) (by rfl) (by simp [Value.oneCell']) _ _ _ _ _ (heap_alloc_new _ _) (alS HB1.out.drew _) HB1.out.size ?_; intro z hz hcz hgz))
      refine hK.out _ _ (by first | exact HB1.out.drew | exact alS HB1.out.drew _ | assumption) ?_
      clear hK K
      intro hHeld2
      clear hHeld
      have hHeld := hHeld2
      clear hHeld2
      try simp only [Act.put, List.setIfInBounds_toArray, List.set_cons_zero, List.set_cons_succ]
      refine wpAnyH_done (by kernel_rfl) ?_ _
    focus
      have HBz : Hid (Below w.heap.size w z.drew) := hz.drew
      have HCz : Hid (z.drew.heap[w1.heap.size]? = some (.cells #[.int .u64 (G : Int), .int .u64 (E : Int), .int .u64 (F : Int), .int .u64 (L : Int)] tHd (0, 0))) := hcz
      have HZz : Hid (z.drew.heap[w.heap.size]? = some (.cells #[.int .u64 0, .int .u64 0, .int .u64 0, .int .u64 0] tHd (0, 0))) := (show z.heap[w.heap.size]? = _ from grown_blk hgz (below_blk (alS (Below.refl _ _).drew _) HC1.out) HNE.out.symm)
      have hsz := cells4 HCz.out
      clear hz hcz hgz
      go_wp2_with fail
      refine wp_region_held_drew (S := (fun u => u.cell? ⟨w1.heap.size, 0, none⟩ = some (.int .u64 (G : Int)) ∧ u.cell? ⟨w1.heap.size, 1, none⟩ = some (.int .u64 (E : Int)) ∧ u.cell? ⟨w1.heap.size, 2, none⟩ = some (.int .u64 (F : Int)) ∧ u.cell? ⟨w1.heap.size, 3, none⟩ = some (.int .u64 (L : Int)))) (by kernel_rfl) (by first | exact hsz | assumption) (fun hHeld => ?_)
      refine take_at (i := 0) 20 (v := ?_) rfl rfl (by kernel_rfl) (by kernel_rfl) (by kernel_rfl) (fun _ _ _ h => h) (by rfl) ?_ hHeld ?_
      rotate_left
      · (intro w hSw; (try dsimp only at hSw); go_simp; try with_reducible rfl)
      simp only [Act.put, List.setIfInBounds_toArray, List.set_cons_zero, List.set_cons_succ]
      refine take_at (i := 1) 21 (v := ?_) rfl rfl (by kernel_rfl) (by kernel_rfl) (by kernel_rfl) (fun _ _ _ h => h) (by rfl) ?_ hHeld ?_
      rotate_left
      · (intro w hSw; (try dsimp only at hSw); go_simp; try with_reducible rfl)
      simp only [Act.put, List.setIfInBounds_toArray, List.set_cons_zero, List.set_cons_succ]
      refine take_at (i := 2) 22 (v := ?_) rfl rfl (by kernel_rfl) (by kernel_rfl) (by kernel_rfl) (fun _ _ _ h => h) (by rfl) ?_ hHeld ?_
      rotate_left
      · (intro w hSw; (try dsimp only at hSw); go_simp; try with_reducible rfl)
      simp only [Act.put, List.setIfInBounds_toArray, List.set_cons_zero, List.set_cons_succ]
      refine take_at (i := 3) 23 (v := .bool false) rfl rfl (by kernel_rfl) (by kernel_rfl) (by kernel_rfl) (fun _ _ _ h => h) (by rfl) ?_ hHeld ?_
      · (intro w hSw; (try dsimp only at hSw); go_simp; first | done | with_reducible rfl | omega | (simp; omega))
      simp only [Act.put, List.setIfInBounds_toArray, List.set_cons_zero, List.set_cons_succ]
      refine take_at (i := 4) 24 (v := ?_) rfl rfl (by kernel_rfl) (by kernel_rfl) (by kernel_rfl) (fun _ _ _ h => h) (by rfl) ?_ hHeld ?_
      rotate_left
      · (intro w hSw; (try dsimp only at hSw); go_simp; try with_reducible rfl)
      simp only [Act.put, List.setIfInBounds_toArray, List.set_cons_zero, List.set_cons_succ]
      refine skip_at (i := 5) 25 rfl rfl (by kernel_rfl) (by kernel_rfl) (by kernel_rfl) (fun _ _ _ h => h) (by rfl) hHeld ?_
      simp only [Act.put, List.setIfInBounds_toArray, List.set_cons_zero, List.set_cons_succ]
      refine skip_at (i := 6) 26 rfl rfl (by kernel_rfl) (by kernel_rfl) (by kernel_rfl) (fun _ _ _ h => h) (by rfl) hHeld ?_
      simp only [Act.put, List.setIfInBounds_toArray, List.set_cons_zero, List.set_cons_succ]
      refine skip_at (i := 7) 27 rfl rfl (by kernel_rfl) (by kernel_rfl) (by kernel_rfl) (fun _ _ _ h => h) (by rfl) hHeld ?_
      simp only [Act.put, List.setIfInBounds_toArray, List.set_cons_zero, List.set_cons_succ]
      refine skip_at (i := 8) 28 rfl rfl (by kernel_rfl) (by kernel_rfl) (by kernel_rfl) (fun _ _ _ h => h) (by rfl) hHeld ?_
      simp only [Act.put, List.setIfInBounds_toArray, List.set_cons_zero, List.set_cons_succ]
      refine skip_at (i := 9) 29 rfl rfl (by kernel_rfl) (by kernel_rfl) (by kernel_rfl) (fun _ _ _ h => h) (by rfl) hHeld ?_
      simp only [Act.put, List.setIfInBounds_toArray, List.set_cons_zero, List.set_cons_succ]
      refine take_at (i := 10) 30 (v := ?_) rfl rfl (by kernel_rfl) (by kernel_rfl) (by kernel_rfl) (fun _ _ _ h => h) (by rfl) ?_ hHeld ?_
      rotate_left
      · (intro w hSw; (try dsimp only at hSw); go_simp; try with_reducible rfl)
      simp only [Act.put, List.setIfInBounds_toArray, List.set_cons_zero, List.set_cons_succ]
      refine run_at (i := 11) rfl (by kernel_rfl) (by rfl) (fun K hK => ?_)
      simp only [List.getElem_toArray, List.getElem_cons_zero, List.getElem_cons_succ]
      ((refine wpo_storeH (W := w) _ _ rfl _ _ _ _ _ (by rfl) (by rfl) (by simp [Value.oneCell']) _ _ _ _ _ HZz.out HBz.out (Nat.le_refl _) ?_; intro y1 hz hcz hgz; have HB1 : Hid (Below w.heap.size w y1) := hz; have HC1 : Hid (y1.heap[w1.heap.size]? = some (.cells #[.int .u64 (G : Int), .int .u64 (E : Int), .int .u64 (F : Int), .int .u64 (L : Int)] tHd (0, 0))) := grown_blk hgz HCz.out HNE.out; have HZ1 : Hid (y1.heap[w.heap.size]? = some (.cells #[.int .u64 (G : Int), .int .u64 (E : Int), .int .u64 (F : Int), .int .u64 (L : Int)] tHd (0, 0))) := hcz; have hs1 := cells4 HC1.out; clear hz hcz hgz hsz))
      refine hK.out _ _ (by first | exact hsz | assumption) ?_
      clear hK K
      intro hHeld2
      clear hHeld
      have hHeld := hHeld2
      clear hHeld2
      try simp only [Act.put, List.setIfInBounds_toArray, List.set_cons_zero, List.set_cons_succ]
      refine take_at (i := 12) 5 (v := ?_) rfl rfl (by kernel_rfl) (by kernel_rfl) (by kernel_rfl) (fun _ _ _ h => h) (by rfl) ?_ hHeld ?_
      rotate_left
      · (intro w hSw; (try dsimp only at hSw); go_simp; try with_reducible rfl)
      simp only [Act.put, List.setIfInBounds_toArray, List.set_cons_zero, List.set_cons_succ]
      refine wpAnyH_done (by kernel_rfl) ?_ _
      focus
        obtain ⟨k0, k1, k2, k3⟩ := cells4 HZ1.out
        go_wp2_with fail
        rw [HRES.out]
        refine bodyPost_ret (v := .tuple #[hdV G E F L, .bool false]) (by simp [results, Tryd.results59, go_sem, k0, k1, k2, k3]) rfl ⟨rfl, HB1.out⟩
    focus
      have HBz : Hid (Below w.heap.size w z.drew) := hz.drew
      have HCz : Hid (z.drew.heap[w1.heap.size]? = some (.cells #[.int .u64 (G : Int), .int .u64 (E : Int), .int .u64 (F : Int), .int .u64 (L : Int)] tHd (0, 0))) := hcz
      have HZz : Hid (z.drew.heap[w.heap.size]? = some (.cells #[.int .u64 0, .int .u64 0, .int .u64 0, .int .u64 0] tHd (0, 0))) := (show z.heap[w.heap.size]? = _ from grown_blk hgz (below_blk (alS (Below.refl _ _).drew _) HC1.out) HNE.out.symm)
      have hsz := cells4 HCz.out
      clear hz hcz hgz
      go_wp2_with fail
      refine wp_region_held_drew (S := (fun u => u.cell? ⟨w1.heap.size, 0, none⟩ = some (.int .u64 (G : Int)) ∧ u.cell? ⟨w1.heap.size, 1, none⟩ = some (.int .u64 (E : Int)) ∧ u.cell? ⟨w1.heap.size, 2, none⟩ = some (.int .u64 (F : Int)) ∧ u.cell? ⟨w1.heap.size, 3, none⟩ = some (.int .u64 (L : Int)))) (by kernel_rfl) (by first | exact hsz | assumption) (fun hHeld => ?_)
      refine take_at (i := 0) 20 (v := ?_) rfl rfl (by kernel_rfl) (by kernel_rfl) (by kernel_rfl) (fun _ _ _ h => h) (by rfl) ?_ hHeld ?_
      rotate_left
      · (intro w hSw; (try dsimp only at hSw); go_simp; try with_reducible rfl)
      simp only [Act.put, List.setIfInBounds_toArray, List.set_cons_zero, List.set_cons_succ]
      refine take_at (i := 1) 21 (v := ?_) rfl rfl (by kernel_rfl) (by kernel_rfl) (by kernel_rfl) (fun _ _ _ h => h) (by rfl) ?_ hHeld ?_
      rotate_left
      · (intro w hSw; (try dsimp only at hSw); go_simp; try with_reducible rfl)
      simp only [Act.put, List.setIfInBounds_toArray, List.set_cons_zero, List.set_cons_succ]
      refine take_at (i := 2) 22 (v := ?_) rfl rfl (by kernel_rfl) (by kernel_rfl) (by kernel_rfl) (fun _ _ _ h => h) (by rfl) ?_ hHeld ?_
      rotate_left
      · (intro w hSw; (try dsimp only at hSw); go_simp; try with_reducible rfl)
      simp only [Act.put, List.setIfInBounds_toArray, List.set_cons_zero, List.set_cons_succ]
      refine take_at (i := 3) 23 (v := .bool false) rfl rfl (by kernel_rfl) (by kernel_rfl) (by kernel_rfl) (fun _ _ _ h => h) (by rfl) ?_ hHeld ?_
      · (intro w hSw; (try dsimp only at hSw); go_simp; first | done | with_reducible rfl | omega | (simp; omega))
      simp only [Act.put, List.setIfInBounds_toArray, List.set_cons_zero, List.set_cons_succ]
      refine take_at (i := 4) 24 (v := ?_) rfl rfl (by kernel_rfl) (by kernel_rfl) (by kernel_rfl) (fun _ _ _ h => h) (by rfl) ?_ hHeld ?_
      rotate_left
      · (intro w hSw; (try dsimp only at hSw); go_simp; try with_reducible rfl)
      simp only [Act.put, List.setIfInBounds_toArray, List.set_cons_zero, List.set_cons_succ]
      refine skip_at (i := 5) 25 rfl rfl (by kernel_rfl) (by kernel_rfl) (by kernel_rfl) (fun _ _ _ h => h) (by rfl) hHeld ?_
      simp only [Act.put, List.setIfInBounds_toArray, List.set_cons_zero, List.set_cons_succ]
      refine skip_at (i := 6) 26 rfl rfl (by kernel_rfl) (by kernel_rfl) (by kernel_rfl) (fun _ _ _ h => h) (by rfl) hHeld ?_
      simp only [Act.put, List.setIfInBounds_toArray, List.set_cons_zero, List.set_cons_succ]
      refine skip_at (i := 7) 27 rfl rfl (by kernel_rfl) (by kernel_rfl) (by kernel_rfl) (fun _ _ _ h => h) (by rfl) hHeld ?_
      simp only [Act.put, List.setIfInBounds_toArray, List.set_cons_zero, List.set_cons_succ]
      refine skip_at (i := 8) 28 rfl rfl (by kernel_rfl) (by kernel_rfl) (by kernel_rfl) (fun _ _ _ h => h) (by rfl) hHeld ?_
      simp only [Act.put, List.setIfInBounds_toArray, List.set_cons_zero, List.set_cons_succ]
      refine skip_at (i := 9) 29 rfl rfl (by kernel_rfl) (by kernel_rfl) (by kernel_rfl) (fun _ _ _ h => h) (by rfl) hHeld ?_
      simp only [Act.put, List.setIfInBounds_toArray, List.set_cons_zero, List.set_cons_succ]
      refine take_at (i := 10) 30 (v := ?_) rfl rfl (by kernel_rfl) (by kernel_rfl) (by kernel_rfl) (fun _ _ _ h => h) (by rfl) ?_ hHeld ?_
      rotate_left
      · (intro w hSw; (try dsimp only at hSw); go_simp; try with_reducible rfl)
      simp only [Act.put, List.setIfInBounds_toArray, List.set_cons_zero, List.set_cons_succ]
      refine run_at (i := 11) rfl (by kernel_rfl) (by rfl) (fun K hK => ?_)
      simp only [List.getElem_toArray, List.getElem_cons_zero, List.getElem_cons_succ]
      ((refine wpo_storeH (W := w) _ _ rfl _ _ _ _ _ (by rfl) (by rfl) (by simp [Value.oneCell']) _ _ _ _ _ HZz.out HBz.out (Nat.le_refl _) ?_; intro y1 hz hcz hgz; have HB1 : Hid (Below w.heap.size w y1) := hz; have HC1 : Hid (y1.heap[w1.heap.size]? = some (.cells #[.int .u64 (G : Int), .int .u64 (E : Int), .int .u64 (F : Int), .int .u64 (L : Int)] tHd (0, 0))) := grown_blk hgz HCz.out HNE.out; have HZ1 : Hid (y1.heap[w.heap.size]? = some (.cells #[.int .u64 (G : Int), .int .u64 (E : Int), .int .u64 (F : Int), .int .u64 (L : Int)] tHd (0, 0))) := hcz; have hs1 := cells4 HC1.out; clear hz hcz hgz hsz))
      refine hK.out _ _ (by first | exact hsz | assumption) ?_
      clear hK K
      intro hHeld2
      clear hHeld
      have hHeld := hHeld2
      clear hHeld2
      try simp only [Act.put, List.setIfInBounds_toArray, List.set_cons_zero, List.set_cons_succ]
      refine take_at (i := 12) 5 (v := ?_) rfl rfl (by kernel_rfl) (by kernel_rfl) (by kernel_rfl) (fun _ _ _ h => h) (by rfl) ?_ hHeld ?_
      rotate_left
      · (intro w hSw; (try dsimp only at hSw); go_simp; try with_reducible rfl)
      simp only [Act.put, List.setIfInBounds_toArray, List.set_cons_zero, List.set_cons_succ]
      refine wpAnyH_done (by kernel_rfl) ?_ _
      focus
        obtain ⟨k0, k1, k2, k3⟩ := cells4 HZ1.out
        go_wp2_with fail
        rw [HRES.out]
        refine bodyPost_ret (v := .tuple #[hdV G E F L, .bool false]) (by simp [results, Tryd.results59, go_sem, k0, k1, k2, k3]) rfl ⟨rfl, HB1.out⟩
    focus
      have HBz : Hid (Below w.heap.size w z.drew) := hz.drew
      have HCz : Hid (z.drew.heap[w1.heap.size]? = some (.cells #[.int .u64 (G : Int), .int .u64 (E : Int), .int .u64 (F : Int), .int .u64 (L : Int)] tHd (0, 0))) := hcz
      have HZz : Hid (z.drew.heap[w.heap.size]? = some (.cells #[.int .u64 0, .int .u64 0, .int .u64 0, .int .u64 0] tHd (0, 0))) := (show z.heap[w.heap.size]? = _ from grown_blk hgz (below_blk (alS (Below.refl _ _).drew _) HC1.out) HNE.out.symm)
      have hsz := cells4 HCz.out
      clear hz hcz hgz
      go_wp2_with fail
      refine wp_region_held_drew (S := (fun u => u.cell? ⟨w1.heap.size, 0, none⟩ = some (.int .u64 (G : Int)) ∧ u.cell? ⟨w1.heap.size, 1, none⟩ = some (.int .u64 (E : Int)) ∧ u.cell? ⟨w1.heap.size, 2, none⟩ = some (.int .u64 (F : Int)) ∧ u.cell? ⟨w1.heap.size, 3, none⟩ = some (.int .u64 (L : Int)))) (by kernel_rfl) (by first | exact hsz | assumption) (fun hHeld => ?_)
      refine take_at (i := 0) 20 (v := ?_) rfl rfl (by kernel_rfl) (by kernel_rfl) (by kernel_rfl) (fun _ _ _ h => h) (by rfl) ?_ hHeld ?_
      rotate_left
      · (intro w hSw; (try dsimp only at hSw); go_simp; try with_reducible rfl)
      simp only [Act.put, List.setIfInBounds_toArray, List.set_cons_zero, List.set_cons_succ]
      refine take_at (i := 1) 21 (v := ?_) rfl rfl (by kernel_rfl) (by kernel_rfl) (by kernel_rfl) (fun _ _ _ h => h) (by rfl) ?_ hHeld ?_
      rotate_left
      · (intro w hSw; (try dsimp only at hSw); go_simp; try with_reducible rfl)
      simp only [Act.put, List.setIfInBounds_toArray, List.set_cons_zero, List.set_cons_succ]
      refine take_at (i := 2) 22 (v := ?_) rfl rfl (by kernel_rfl) (by kernel_rfl) (by kernel_rfl) (fun _ _ _ h => h) (by rfl) ?_ hHeld ?_
      rotate_left
      · (intro w hSw; (try dsimp only at hSw); go_simp; try with_reducible rfl)
      simp only [Act.put, List.setIfInBounds_toArray, List.set_cons_zero, List.set_cons_succ]
      refine take_at (i := 3) 23 (v := .bool false) rfl rfl (by kernel_rfl) (by kernel_rfl) (by kernel_rfl) (fun _ _ _ h => h) (by rfl) ?_ hHeld ?_
      · (intro w hSw; (try dsimp only at hSw); go_simp; first | done | with_reducible rfl | omega | (simp; omega))
      simp only [Act.put, List.setIfInBounds_toArray, List.set_cons_zero, List.set_cons_succ]
      refine take_at (i := 4) 24 (v := ?_) rfl rfl (by kernel_rfl) (by kernel_rfl) (by kernel_rfl) (fun _ _ _ h => h) (by rfl) ?_ hHeld ?_
      rotate_left
      · (intro w hSw; (try dsimp only at hSw); go_simp; try with_reducible rfl)
      simp only [Act.put, List.setIfInBounds_toArray, List.set_cons_zero, List.set_cons_succ]
      refine skip_at (i := 5) 25 rfl rfl (by kernel_rfl) (by kernel_rfl) (by kernel_rfl) (fun _ _ _ h => h) (by rfl) hHeld ?_
      simp only [Act.put, List.setIfInBounds_toArray, List.set_cons_zero, List.set_cons_succ]
      refine skip_at (i := 6) 26 rfl rfl (by kernel_rfl) (by kernel_rfl) (by kernel_rfl) (fun _ _ _ h => h) (by rfl) hHeld ?_
      simp only [Act.put, List.setIfInBounds_toArray, List.set_cons_zero, List.set_cons_succ]
      refine skip_at (i := 7) 27 rfl rfl (by kernel_rfl) (by kernel_rfl) (by kernel_rfl) (fun _ _ _ h => h) (by rfl) hHeld ?_
      simp only [Act.put, List.setIfInBounds_toArray, List.set_cons_zero, List.set_cons_succ]
      refine skip_at (i := 8) 28 rfl rfl (by kernel_rfl) (by kernel_rfl) (by kernel_rfl) (fun _ _ _ h => h) (by rfl) hHeld ?_
      simp only [Act.put, List.setIfInBounds_toArray, List.set_cons_zero, List.set_cons_succ]
      refine skip_at (i := 9) 29 rfl rfl (by kernel_rfl) (by kernel_rfl) (by kernel_rfl) (fun _ _ _ h => h) (by rfl) hHeld ?_
      simp only [Act.put, List.setIfInBounds_toArray, List.set_cons_zero, List.set_cons_succ]
      refine take_at (i := 10) 30 (v := ?_) rfl rfl (by kernel_rfl) (by kernel_rfl) (by kernel_rfl) (fun _ _ _ h => h) (by rfl) ?_ hHeld ?_
      rotate_left
      · (intro w hSw; (try dsimp only at hSw); go_simp; try with_reducible rfl)
      simp only [Act.put, List.setIfInBounds_toArray, List.set_cons_zero, List.set_cons_succ]
      refine run_at (i := 11) rfl (by kernel_rfl) (by rfl) (fun K hK => ?_)
      simp only [List.getElem_toArray, List.getElem_cons_zero, List.getElem_cons_succ]
      ((refine wpo_storeH (W := w) _ _ rfl _ _ _ _ _ (by rfl) (by rfl) (by simp [Value.oneCell']) _ _ _ _ _ HZz.out HBz.out (Nat.le_refl _) ?_; intro y1 hz hcz hgz; have HB1 : Hid (Below w.heap.size w y1) := hz; have HC1 : Hid (y1.heap[w1.heap.size]? = some (.cells #[.int .u64 (G : Int), .int .u64 (E : Int), .int .u64 (F : Int), .int .u64 (L : Int)] tHd (0, 0))) := grown_blk hgz HCz.out HNE.out; have HZ1 : Hid (y1.heap[w.heap.size]? = some (.cells #[.int .u64 (G : Int), .int .u64 (E : Int), .int .u64 (F : Int), .int .u64 (L : Int)] tHd (0, 0))) := hcz; have hs1 := cells4 HC1.out; clear hz hcz hgz hsz))
      refine hK.out _ _ (by first | exact hsz | assumption) ?_
      clear hK K
      intro hHeld2
      clear hHeld
      have hHeld := hHeld2
      clear hHeld2
      try simp only [Act.put, List.setIfInBounds_toArray, List.set_cons_zero, List.set_cons_succ]
      refine take_at (i := 12) 5 (v := ?_) rfl rfl (by kernel_rfl) (by kernel_rfl) (by kernel_rfl) (fun _ _ _ h => h) (by rfl) ?_ hHeld ?_
      rotate_left
      · (intro w hSw; (try dsimp only at hSw); go_simp; try with_reducible rfl)
      simp only [Act.put, List.setIfInBounds_toArray, List.set_cons_zero, List.set_cons_succ]
      refine wpAnyH_done (by kernel_rfl) ?_ _
      focus
        obtain ⟨k0, k1, k2, k3⟩ := cells4 HZ1.out
        go_wp2_with fail
        rw [HRES.out]
        refine bodyPost_ret (v := .tuple #[hdV G E F L, .bool false]) (by simp [results, Tryd.results59, go_sem, k0, k1, k2, k3]) rfl ⟨rfl, HB1.out⟩
    focus
      have HBz : Hid (Below w.heap.size w z.drew) := hz.drew
      have HCz : Hid (z.drew.heap[w1.heap.size]? = some (.cells #[.int .u64 (G : Int), .int .u64 (E : Int), .int .u64 (F : Int), .int .u64 (L : Int)] tHd (0, 0))) := hcz
      have HZz : Hid (z.drew.heap[w.heap.size]? = some (.cells #[.int .u64 0, .int .u64 0, .int .u64 0, .int .u64 0] tHd (0, 0))) := (show z.heap[w.heap.size]? = _ from grown_blk hgz (below_blk (alS (Below.refl _ _).drew _) HC1.out) HNE.out.symm)
      have hsz := cells4 HCz.out
      clear hz hcz hgz
      go_wp2_with fail
      refine wp_region_held_drew (S := (fun u => u.cell? ⟨w1.heap.size, 0, none⟩ = some (.int .u64 (G : Int)) ∧ u.cell? ⟨w1.heap.size, 1, none⟩ = some (.int .u64 (E : Int)) ∧ u.cell? ⟨w1.heap.size, 2, none⟩ = some (.int .u64 (F : Int)) ∧ u.cell? ⟨w1.heap.size, 3, none⟩ = some (.int .u64 (L : Int)))) (by kernel_rfl) (by first | exact hsz | assumption) (fun hHeld => ?_)
      refine take_at (i := 0) 20 (v := ?_) rfl rfl (by kernel_rfl) (by kernel_rfl) (by kernel_rfl) (fun _ _ _ h => h) (by rfl) ?_ hHeld ?_
      rotate_left
      · (intro w hSw; (try dsimp only at hSw); go_simp; try with_reducible rfl)
      simp only [Act.put, List.setIfInBounds_toArray, List.set_cons_zero, List.set_cons_succ]
      refine take_at (i := 1) 21 (v := ?_) rfl rfl (by kernel_rfl) (by kernel_rfl) (by kernel_rfl) (fun _ _ _ h => h) (by rfl) ?_ hHeld ?_
      rotate_left
      · (intro w hSw; (try dsimp only at hSw); go_simp; try with_reducible rfl)
      simp only [Act.put, List.setIfInBounds_toArray, List.set_cons_zero, List.set_cons_succ]
      refine take_at (i := 2) 22 (v := ?_) rfl rfl (by kernel_rfl) (by kernel_rfl) (by kernel_rfl) (fun _ _ _ h => h) (by rfl) ?_ hHeld ?_
      rotate_left
      · (intro w hSw; (try dsimp only at hSw); go_simp; try with_reducible rfl)
      simp only [Act.put, List.setIfInBounds_toArray, List.set_cons_zero, List.set_cons_succ]
      refine take_at (i := 3) 23 (v := .bool false) rfl rfl (by kernel_rfl) (by kernel_rfl) (by kernel_rfl) (fun _ _ _ h => h) (by rfl) ?_ hHeld ?_
      · (intro w hSw; (try dsimp only at hSw); go_simp; first | done | with_reducible rfl | omega | (simp; omega))
      simp only [Act.put, List.setIfInBounds_toArray, List.set_cons_zero, List.set_cons_succ]
      refine take_at (i := 4) 24 (v := ?_) rfl rfl (by kernel_rfl) (by kernel_rfl) (by kernel_rfl) (fun _ _ _ h => h) (by rfl) ?_ hHeld ?_
      rotate_left
      · (intro w hSw; (try dsimp only at hSw); go_simp; try with_reducible rfl)
      simp only [Act.put, List.setIfInBounds_toArray, List.set_cons_zero, List.set_cons_succ]
      refine skip_at (i := 5) 25 rfl rfl (by kernel_rfl) (by kernel_rfl) (by kernel_rfl) (fun _ _ _ h => h) (by rfl) hHeld ?_
      simp only [Act.put, List.setIfInBounds_toArray, List.set_cons_zero, List.set_cons_succ]
      refine skip_at (i := 6) 26 rfl rfl (by kernel_rfl) (by kernel_rfl) (by kernel_rfl) (fun _ _ _ h => h) (by rfl) hHeld ?_
      simp only [Act.put, List.setIfInBounds_toArray, List.set_cons_zero, List.set_cons_succ]
      refine skip_at (i := 7) 27 rfl rfl (by kernel_rfl) (by kernel_rfl) (by kernel_rfl) (fun _ _ _ h => h) (by rfl) hHeld ?_
      simp only [Act.put, List.setIfInBounds_toArray, List.set_cons_zero, List.set_cons_succ]
      refine skip_at (i := 8) 28 rfl rfl (by kernel_rfl) (by kernel_rfl) (by kernel_rfl) (fun _ _ _ h => h) (by rfl) hHeld ?_
      simp only [Act.put, List.setIfInBounds_toArray, List.set_cons_zero, List.set_cons_succ]
      refine skip_at (i := 9) 29 rfl rfl (by kernel_rfl) (by kernel_rfl) (by kernel_rfl) (fun _ _ _ h => h) (by rfl) hHeld ?_
      simp only [Act.put, List.setIfInBounds_toArray, List.set_cons_zero, List.set_cons_succ]
      refine take_at (i := 10) 30 (v := ?_) rfl rfl (by kernel_rfl) (by kernel_rfl) (by kernel_rfl) (fun _ _ _ h => h) (by rfl) ?_ hHeld ?_
      rotate_left
      · (intro w hSw; (try dsimp only at hSw); go_simp; try with_reducible rfl)
      simp only [Act.put, List.setIfInBounds_toArray, List.set_cons_zero, List.set_cons_succ]
      refine run_at (i := 11) rfl (by kernel_rfl) (by rfl) (fun K hK => ?_)
      simp only [List.getElem_toArray, List.getElem_cons_zero, List.getElem_cons_succ]
      ((refine wpo_storeH (W := w) _ _ rfl _ _ _ _ _ (by rfl) (by rfl) (by simp [Value.oneCell']) _ _ _ _ _ HZz.out HBz.out (Nat.le_refl _) ?_; intro y1 hz hcz hgz; have HB1 : Hid (Below w.heap.size w y1) := hz; have HC1 : Hid (y1.heap[w1.heap.size]? = some (.cells #[.int .u64 (G : Int), .int .u64 (E : Int), .int .u64 (F : Int), .int .u64 (L : Int)] tHd (0, 0))) := grown_blk hgz HCz.out HNE.out; have HZ1 : Hid (y1.heap[w.heap.size]? = some (.cells #[.int .u64 (G : Int), .int .u64 (E : Int), .int .u64 (F : Int), .int .u64 (L : Int)] tHd (0, 0))) := hcz; have hs1 := cells4 HC1.out; clear hz hcz hgz hsz))
      refine hK.out _ _ (by first | exact hsz | assumption) ?_
      clear hK K
      intro hHeld2
      clear hHeld
      have hHeld := hHeld2
      clear hHeld2
      try simp only [Act.put, List.setIfInBounds_toArray, List.set_cons_zero, List.set_cons_succ]
      refine take_at (i := 12) 5 (v := ?_) rfl rfl (by kernel_rfl) (by kernel_rfl) (by kernel_rfl) (fun _ _ _ h => h) (by rfl) ?_ hHeld ?_
      rotate_left
      · (intro w hSw; (try dsimp only at hSw); go_simp; try with_reducible rfl)
      simp only [Act.put, List.setIfInBounds_toArray, List.set_cons_zero, List.set_cons_succ]
      refine wpAnyH_done (by kernel_rfl) ?_ _
      focus
        obtain ⟨k0, k1, k2, k3⟩ := cells4 HZ1.out
        go_wp2_with fail
        rw [HRES.out]
        refine bodyPost_ret (v := .tuple #[hdV G E F L, .bool false]) (by simp [results, Tryd.results59, go_sem, k0, k1, k2, k3]) rfl ⟨rfl, HB1.out⟩
    focus
      have HBz : Hid (Below w.heap.size w z.drew) := hz.drew
      have HCz : Hid (z.drew.heap[w1.heap.size]? = some (.cells #[.int .u64 (G : Int), .int .u64 (E : Int), .int .u64 (F : Int), .int .u64 (L : Int)] tHd (0, 0))) := hcz
      have HZz : Hid (z.drew.heap[w.heap.size]? = some (.cells #[.int .u64 0, .int .u64 0, .int .u64 0, .int .u64 0] tHd (0, 0))) := (show z.heap[w.heap.size]? = _ from grown_blk hgz (below_blk (alS (Below.refl _ _).drew _) HC1.out) HNE.out.symm)
      have hsz := cells4 HCz.out
      clear hz hcz hgz
      go_wp2_with fail
      refine wp_region_held_drew (S := (fun u => u.cell? ⟨w1.heap.size, 0, none⟩ = some (.int .u64 (G : Int)) ∧ u.cell? ⟨w1.heap.size, 1, none⟩ = some (.int .u64 (E : Int)) ∧ u.cell? ⟨w1.heap.size, 2, none⟩ = some (.int .u64 (F : Int)) ∧ u.cell? ⟨w1.heap.size, 3, none⟩ = some (.int .u64 (L : Int)))) (by kernel_rfl) (by first | exact hsz | assumption) (fun hHeld => ?_)
      refine take_at (i := 0) 20 (v := ?_) rfl rfl (by kernel_rfl) (by kernel_rfl) (by kernel_rfl) (fun _ _ _ h => h) (by rfl) ?_ hHeld ?_
      rotate_left
      · (intro w hSw; (try dsimp only at hSw); go_simp; try with_reducible rfl)
      simp only [Act.put, List.setIfInBounds_toArray, List.set_cons_zero, List.set_cons_succ]
      refine take_at (i := 1) 21 (v := ?_) rfl rfl (by kernel_rfl) (by kernel_rfl) (by kernel_rfl) (fun _ _ _ h => h) (by rfl) ?_ hHeld ?_
      rotate_left
      · (intro w hSw; (try dsimp only at hSw); go_simp; try with_reducible rfl)
      simp only [Act.put, List.setIfInBounds_toArray, List.set_cons_zero, List.set_cons_succ]
      refine take_at (i := 2) 22 (v := ?_) rfl rfl (by kernel_rfl) (by kernel_rfl) (by kernel_rfl) (fun _ _ _ h => h) (by rfl) ?_ hHeld ?_
      rotate_left
      · (intro w hSw; (try dsimp only at hSw); go_simp; try with_reducible rfl)
      simp only [Act.put, List.setIfInBounds_toArray, List.set_cons_zero, List.set_cons_succ]
      refine take_at (i := 3) 23 (v := .bool false) rfl rfl (by kernel_rfl) (by kernel_rfl) (by kernel_rfl) (fun _ _ _ h => h) (by rfl) ?_ hHeld ?_
      · (intro w hSw; (try dsimp only at hSw); go_simp; first | done | with_reducible rfl | omega | (simp; omega))
      simp only [Act.put, List.setIfInBounds_toArray, List.set_cons_zero, List.set_cons_succ]
      refine take_at (i := 4) 24 (v := ?_) rfl rfl (by kernel_rfl) (by kernel_rfl) (by kernel_rfl) (fun _ _ _ h => h) (by rfl) ?_ hHeld ?_
      rotate_left
      · (intro w hSw; (try dsimp only at hSw); go_simp; try with_reducible rfl)
      simp only [Act.put, List.setIfInBounds_toArray, List.set_cons_zero, List.set_cons_succ]
      refine skip_at (i := 5) 25 rfl rfl (by kernel_rfl) (by kernel_rfl) (by kernel_rfl) (fun _ _ _ h => h) (by rfl) hHeld ?_
      simp only [Act.put, List.setIfInBounds_toArray, List.set_cons_zero, List.set_cons_succ]
      refine skip_at (i := 6) 26 rfl rfl (by kernel_rfl) (by kernel_rfl) (by kernel_rfl) (fun _ _ _ h => h) (by rfl) hHeld ?_
      simp only [Act.put, List.setIfInBounds_toArray, List.set_cons_zero, List.set_cons_succ]
      refine skip_at (i := 7) 27 rfl rfl (by kernel_rfl) (by kernel_rfl) (by kernel_rfl) (fun _ _ _ h => h) (by rfl) hHeld ?_
      simp only [Act.put, List.setIfInBounds_toArray, List.set_cons_zero, List.set_cons_succ]
      refine skip_at (i := 8) 28 rfl rfl (by kernel_rfl) (by kernel_rfl) (by kernel_rfl) (fun _ _ _ h => h) (by rfl) hHeld ?_
      simp only [Act.put, List.setIfInBounds_toArray, List.set_cons_zero, List.set_cons_succ]
      refine skip_at (i := 9) 29 rfl rfl (by kernel_rfl) (by kernel_rfl) (by kernel_rfl) (fun _ _ _ h => h) (by rfl) hHeld ?_
      simp only [Act.put, List.setIfInBounds_toArray, List.set_cons_zero, List.set_cons_succ]
      refine take_at (i := 10) 30 (v := ?_) rfl rfl (by kernel_rfl) (by kernel_rfl) (by kernel_rfl) (fun _ _ _ h => h) (by rfl) ?_ hHeld ?_
      rotate_left
      · (intro w hSw; (try dsimp only at hSw); go_simp; try with_reducible rfl)
      simp only [Act.put, List.setIfInBounds_toArray, List.set_cons_zero, List.set_cons_succ]
      refine run_at (i := 11) rfl (by kernel_rfl) (by rfl) (fun K hK => ?_)
      simp only [List.getElem_toArray, List.getElem_cons_zero, List.getElem_cons_succ]
      ((refine wpo_storeH (W := w) _ _ rfl _ _ _ _ _ (by rfl) (by rfl) (by simp [Value.oneCell']) _ _ _ _ _ HZz.out HBz.out (Nat.le_refl _) ?_; intro y1 hz hcz hgz; have HB1 : Hid (Below w.heap.size w y1) := hz; have HC1 : Hid (y1.heap[w1.heap.size]? = some (.cells #[.int .u64 (G : Int), .int .u64 (E : Int), .int .u64 (F : Int), .int .u64 (L : Int)] tHd (0, 0))) := grown_blk hgz HCz.out HNE.out; have HZ1 : Hid (y1.heap[w.heap.size]? = some (.cells #[.int .u64 (G : Int), .int .u64 (E : Int), .int .u64 (F : Int), .int .u64 (L : Int)] tHd (0, 0))) := hcz; have hs1 := cells4 HC1.out; clear hz hcz hgz hsz))
      refine hK.out _ _ (by first | exact hsz | assumption) ?_
      clear hK K
      intro hHeld2
      clear hHeld
      have hHeld := hHeld2
      clear hHeld2
      try simp only [Act.put, List.setIfInBounds_toArray, List.set_cons_zero, List.set_cons_succ]
      refine take_at (i := 12) 5 (v := ?_) rfl rfl (by kernel_rfl) (by kernel_rfl) (by kernel_rfl) (fun _ _ _ h => h) (by rfl) ?_ hHeld ?_
      rotate_left
      · (intro w hSw; (try dsimp only at hSw); go_simp; try with_reducible rfl)
      simp only [Act.put, List.setIfInBounds_toArray, List.set_cons_zero, List.set_cons_succ]
      refine wpAnyH_done (by kernel_rfl) ?_ _
      focus
        obtain ⟨k0, k1, k2, k3⟩ := cells4 HZ1.out
        go_wp2_with fail
        rw [HRES.out]
        refine bodyPost_ret (v := .tuple #[hdV G E F L, .bool false]) (by simp [results, Tryd.results59, go_sem, k0, k1, k2, k3]) rfl ⟨rfl, HB1.out⟩
  · have hgp : (0 : Int) < (G : Int) := by omega
    have HRES : Hid ((decide (0 < G) && (xs == headT G E F L size)) = bb) := (show _ = _ by rw [HBB.out, decide_eq_true HG0, Bool.true_and])
    clear HG0
    go_enter Tryd.func59, Tryd.ntmps59
    go_wp2_with fail
    rw [← hw1]
    clear hw1
    refine wp_region_held_drew (S := (fun u => Below w.heap.size w u)) (by kernel_rfl) (by first | exact HB1.out.drew | exact alS HB1.out.drew _ | assumption) (fun hHeld => ?_)
    refine take_at (i := 0) 7 (v := ?_) rfl rfl (by kernel_rfl) (by kernel_rfl) (by kernel_rfl) (fun _ _ _ h => h) (by rfl) ?_ hHeld ?_
    rotate_left
    · (intro w hSw; (try dsimp only at hSw); go_simp; try with_reducible rfl)
    simp only [Act.put, List.setIfInBounds_toArray, List.set_cons_zero, List.set_cons_succ]
    refine take_at (i := 1) 8 (v := ?_) rfl rfl (by kernel_rfl) (by kernel_rfl) (by kernel_rfl) (fun _ _ _ h => h) (by rfl) ?_ hHeld ?_
    rotate_left
    · (intro w hSw; (try dsimp only at hSw); go_simp; try with_reducible rfl)
    simp only [Act.put, List.setIfInBounds_toArray, List.set_cons_zero, List.set_cons_succ]
    refine take_at (i := 3) 10 (v := ?_) rfl rfl (by kernel_rfl) (by kernel_rfl) (by kernel_rfl) (fun _ _ _ h => h) (by rfl) ?_ hHeld ?_
    rotate_left
    · (intro w hSw; (try dsimp only at hSw); go_simp; try with_reducible rfl)
    simp only [Act.put, List.setIfInBounds_toArray, List.set_cons_zero, List.set_cons_succ]
    refine take_at (i := 4) 11 (v := ?_) rfl rfl (by kernel_rfl) (by kernel_rfl) (by kernel_rfl) (fun _ _ _ h => h) (by rfl) ?_ hHeld ?_
    rotate_left
    · (intro w hSw; (try dsimp only at hSw); go_simp; try with_reducible rfl)
    simp only [Act.put, List.setIfInBounds_toArray, List.set_cons_zero, List.set_cons_succ]
    refine take_at (i := 6) 13 (v := ?_) rfl rfl (by kernel_rfl) (by kernel_rfl) (by kernel_rfl) (fun _ _ _ h => h) (by rfl) ?_ hHeld ?_
    rotate_left
    · (intro w hSw; (try dsimp only at hSw); go_simp; try with_reducible rfl)
    simp only [Act.put, List.setIfInBounds_toArray, List.set_cons_zero, List.set_cons_succ]
    refine take_at (i := 7) 14 (v := ?_) rfl rfl (by kernel_rfl) (by kernel_rfl) (by kernel_rfl) (fun _ _ _ h => h) (by rfl) ?_ hHeld ?_
    rotate_left
    · (intro w hSw; (try dsimp only at hSw); go_simp; try with_reducible rfl)
    simp only [Act.put, List.setIfInBounds_toArray, List.set_cons_zero, List.set_cons_succ]
    refine take_at (i := 9) 16 (v := ?_) rfl rfl (by kernel_rfl) (by kernel_rfl) (by kernel_rfl) (fun _ _ _ h => h) (by rfl) ?_ hHeld ?_
    rotate_left
    · (intro w hSw; (try dsimp only at hSw); go_simp; try with_reducible rfl)
    simp only [Act.put, List.setIfInBounds_toArray, List.set_cons_zero, List.set_cons_succ]
    refine take_at (i := 10) 17 (v := ?_) rfl rfl (by kernel_rfl) (by kernel_rfl) (by kernel_rfl) (fun _ _ _ h => h) (by rfl) ?_ hHeld ?_
    rotate_left
    · (intro w hSw; (try dsimp only at hSw); go_simp; try with_reducible rfl)
    simp only [Act.put, List.setIfInBounds_toArray, List.set_cons_zero, List.set_cons_succ]
    refine wpAnyH_ready (rs := [2, 13]) (by kernel_rfl) (by simp) ?_
    refine AllReadyH.cons (o := _) rfl (fun K hK => ?_) ?_
    focus
      rw [if_pos (by rfl)]
      simp only [List.getElem_toArray, List.getElem_cons_zero, List.getElem_cons_succ]
      (go_simp; go_at_call 72; refine Calls.mono (HL0.out _ _ (by first | exact HB1.out.drew | exact alS HB1.out.drew _)) ?_; rintro er u9 ⟨rfl, rfl⟩; go_wp2_with fail)
      refine hK.out _ _ (by first | exact HB1.out.drew | exact alS HB1.out.drew _ | assumption) ?_
      clear hK K
      intro hHeld2
      clear hHeld
      have hHeld := hHeld2
      clear hHeld2
      try simp only [Act.put, List.setIfInBounds_toArray, List.set_cons_zero, List.set_cons_succ]
      refine wpAnyH_ready (rs := [5, 13]) (by kernel_rfl) (by simp) ?_
      refine AllReadyH.cons (o := _) rfl (fun K hK => ?_) ?_
      focus
        rw [if_pos (by rfl)]
        simp only [List.getElem_toArray, List.getElem_cons_zero, List.getElem_cons_succ]
        (go_simp; go_at_call 72; refine Calls.mono (HL1.out _ _ (by first | exact HB1.out.drew | exact alS HB1.out.drew _)) ?_; rintro er u9 ⟨rfl, rfl⟩; go_wp2_with fail)
        refine hK.out _ _ (by first | exact HB1.out.drew | exact alS HB1.out.drew _ | assumption) ?_
        clear hK K
        intro hHeld2
        clear hHeld
        have hHeld := hHeld2
        clear hHeld2
        try simp only [Act.put, List.setIfInBounds_toArray, List.set_cons_zero, List.set_cons_succ]
        refine wpAnyH_ready (rs := [8, 13]) (by kernel_rfl) (by simp) ?_
        refine AllReadyH.cons (o := _) rfl (fun K hK => ?_) ?_
        focus
          rw [if_pos (by rfl)]
          simp only [List.getElem_toArray, List.getElem_cons_zero, List.getElem_cons_succ]
          (go_simp; go_at_call 72; refine Calls.mono (HL2.out _ _ (by first | exact HB1.out.drew | exact alS HB1.out.drew _)) ?_; rintro er u9 ⟨rfl, rfl⟩; go_wp2_with fail)
          refine hK.out _ _ (by first | exact HB1.out.drew | exact alS HB1.out.drew _ | assumption) ?_
          clear hK K
          intro hHeld2
          clear hHeld
          have hHeld := hHeld2
          clear hHeld2
          try simp only [Act.put, List.setIfInBounds_toArray, List.set_cons_zero, List.set_cons_succ]
          refine wpAnyH_ready (rs := [11, 13]) (by kernel_rfl) (by simp) ?_
          refine AllReadyH.cons (o := _) rfl (fun K hK => ?_) ?_
          focus
            rw [if_pos (by rfl)]
            simp only [List.getElem_toArray, List.getElem_cons_zero, List.getElem_cons_succ]
            (go_simp; go_at_call 72; refine Calls.mono (HL3.out _ _ (by first | exact HB1.out.drew | exact alS HB1.out.drew _)) ?_; rintro er u9 ⟨rfl, rfl⟩; go_wp2_with fail)
            refine hK.out _ _ (by first | exact HB1.out.drew | exact alS HB1.out.drew _ | assumption) ?_
            clear hK K
            intro hHeld2
            clear hHeld
            have hHeld := hHeld2
            clear hHeld2
            try simp only [Act.put, List.setIfInBounds_toArray, List.set_cons_zero, List.set_cons_succ]
            refine take_at (i := 12) 19 (v := ?_) rfl rfl (by kernel_rfl) (by kernel_rfl) (by kernel_rfl) (fun _ _ _ h => h) (by rfl) ?_ hHeld ?_
            rotate_left
            · (intro w hSw; (try dsimp only at hSw); go_simp; try with_reducible rfl)
            simp only [Act.put, List.setIfInBounds_toArray, List.set_cons_zero, List.set_cons_succ]
            refine run_at (i := 13) rfl (by kernel_rfl) (by rfl) (fun K hK => ?_)
            simp only [List.getElem_toArray, List.getElem_cons_zero, List.getElem_cons_succ]
            go_simp
            go_wp2_with fail
            refine hK.out _ _ (by first | exact HB1.out.drew | exact alS HB1.out.drew _ | assumption) ?_
            clear hK K
            intro hHeld2
            clear hHeld
            have hHeld := hHeld2
            clear hHeld2
            try simp only [Act.put, List.setIfInBounds_toArray, List.set_cons_zero, List.set_cons_succ]
            refine run_at (i := 14) rfl (by kernel_rfl) (by rfl) (fun K hK => ?_)
            simp only [List.getElem_toArray, List.getElem_cons_zero, List.getElem_cons_succ]
            ((refine wpo_storeH (W := w) _ _ rfl _ _ _ _ _ (by rfl) (by rfl) (by simp [Value.oneCell']) _ _ _ _ _ (heap_alloc_new _ _) (alS HB1.out.drew _) HB1.out.size ?_; intro z hz hcz hgz))
            refine hK.out _ _ (by first | exact HB1.out.drew | exact alS HB1.out.drew _ | assumption) ?_
            clear hK K
            intro hHeld2
            clear hHeld
            have hHeld := hHeld2
            clear hHeld2
            try simp only [Act.put, List.setIfInBounds_toArray, List.set_cons_zero, List.set_cons_succ]
            refine wpAnyH_done (by kernel_rfl) ?_ _
          rotate_left 1
          refine AllReadyH.cons (o := _) rfl (fun K hK => ?_) AllReadyH.nil
          focus
            rw [if_pos (by rfl)]
            simp only [List.getElem_toArray, List.getElem_cons_zero, List.getElem_cons_succ]
            go_simp
            go_wp2_with fail
            refine hK.out _ _ (by first | exact HB1.out.drew | exact alS HB1.out.drew _ | assumption) ?_
            clear hK K
            intro hHeld2
            clear hHeld
            have hHeld := hHeld2
            clear hHeld2
            try simp only [Act.put, List.setIfInBounds_toArray, List.set_cons_zero, List.set_cons_succ]
            refine run_at (i := 11) rfl (by kernel_rfl) (by rfl) (fun K hK => ?_)
            simp only [List.getElem_toArray, List.getElem_cons_zero, List.getElem_cons_succ]
            (go_simp; go_at_call 72; refine Calls.mono (HL3.out _ _ (by first | exact HB1.out.drew | exact alS HB1.out.drew _)) ?_; rintro er u9 ⟨rfl, rfl⟩; go_wp2_with fail)
            refine hK.out _ _ (by first | exact HB1.out.drew | exact alS HB1.out.drew _ | assumption) ?_
            clear hK K
            intro hHeld2
            clear hHeld
            have hHeld := hHeld2
            clear hHeld2
            try simp only [Act.put, List.setIfInBounds_toArray, List.set_cons_zero, List.set_cons_succ]
            refine take_at (i := 12) 19 (v := ?_) rfl rfl (by kernel_rfl) (by kernel_rfl) (by kernel_rfl) (fun _ _ _ h => h) (by rfl) ?_ hHeld ?_
            rotate_left
            · (intro w hSw; (try dsimp only at hSw); go_simp; try with_reducible rfl)
            simp only [Act.put, List.setIfInBounds_toArray, List.set_cons_zero, List.set_cons_succ]
            refine run_at (i := 14) rfl (by kernel_rfl) (by rfl) (fun K hK => ?_)
            simp only [List.getElem_toArray, List.getElem_cons_zero, List.getElem_cons_succ]
            ((refine wpo_storeH (W := w) _ _ rfl _ _ _ _ _ (by rfl) (by rfl) (by simp [Value.oneCell']) _ _ _ _ _ (heap_alloc_new _ _) (alS HB1.out.drew _) HB1.out.size ?_; intro z hz hcz hgz))
            refine hK.out _ _ (by first | exact HB1.out.drew | exact alS HB1.out.drew _ | assumption) ?_
            clear hK K
            intro hHeld2
            clear hHeld
            have hHeld := hHeld2
            clear hHeld2
            try simp only [Act.put, List.setIfInBounds_toArray, List.set_cons_zero, List.set_cons_succ]
            refine wpAnyH_done (by kernel_rfl) ?_ _
        rotate_left 2
        refine AllReadyH.cons (o := _) rfl (fun K hK => ?_) AllReadyH.nil
        focus
          rw [if_pos (by rfl)]
          simp only [List.getElem_toArray, List.getElem_cons_zero, List.getElem_cons_succ]
          go_simp
          go_wp2_with fail
          refine hK.out _ _ (by first | exact HB1.out.drew | exact alS HB1.out.drew _ | assumption) ?_
          clear hK K
          intro hHeld2
          clear hHeld
          have hHeld := hHeld2
          clear hHeld2
          try simp only [Act.put, List.setIfInBounds_toArray, List.set_cons_zero, List.set_cons_succ]
          refine run_at (i := 8) rfl (by kernel_rfl) (by rfl) (fun K hK => ?_)
          simp only [List.getElem_toArray, List.getElem_cons_zero, List.getElem_cons_succ]
          (go_simp; go_at_call 72; refine Calls.mono (HL2.out _ _ (by first | exact HB1.out.drew | exact alS HB1.out.drew _)) ?_; rintro er u9 ⟨rfl, rfl⟩; go_wp2_with fail)
          refine hK.out _ _ (by first | exact HB1.out.drew | exact alS HB1.out.drew _ | assumption) ?_
          clear hK K
          intro hHeld2
          clear hHeld
          have hHeld := hHeld2
          clear hHeld2
          try simp only [Act.put, List.setIfInBounds_toArray, List.set_cons_zero, List.set_cons_succ]
          refine run_at (i := 11) rfl (by kernel_rfl) (by rfl) (fun K hK => ?_)
          simp only [List.getElem_toArray, List.getElem_cons_zero, List.getElem_cons_succ]
          (go_simp; go_at_call 72; refine Calls.mono (HL3.out _ _ (by first | exact HB1.out.drew | exact alS HB1.out.drew _)) ?_; rintro er u9 ⟨rfl, rfl⟩; go_wp2_with fail)
          refine hK.out _ _ (by first | exact HB1.out.drew | exact alS HB1.out.drew _ | assumption) ?_
          clear hK K
          intro hHeld2
          clear hHeld
          have hHeld := hHeld2
          clear hHeld2
          try simp only [Act.put, List.setIfInBounds_toArray, List.set_cons_zero, List.set_cons_succ]
          refine take_at (i := 12) 19 (v := ?_) rfl rfl (by kernel_rfl) (by kernel_rfl) (by kernel_rfl) (fun _ _ _ h => h) (by rfl) ?_ hHeld ?_
          rotate_left
          · (intro w hSw; (try dsimp only at hSw); go_simp; try with_reducible rfl)
          simp only [Act.put, List.setIfInBounds_toArray, List.set_cons_zero, List.set_cons_succ]
          refine run_at (i := 14) rfl (by kernel_rfl) (by rfl) (fun K hK => ?_)
          simp only [List.getElem_toArray, List.getElem_cons_zero, List.getElem_cons_succ]
          ((refine wpo_storeH (W := w) _ _ rfl _ _ _ _ _ (by rfl) (by rfl) (by simp [Value.oneCell']) _ _ _ _ _ (heap_alloc_new _ _) (alS HB1.out.drew _) HB1.out.size ?_; intro z hz hcz hgz))
          refine hK.out _ _ (by first | exact HB1.out.drew | exact alS HB1.out.drew _ | assumption) ?_
          clear hK K
          intro hHeld2
          clear hHeld
          have hHeld := hHeld2
          clear hHeld2
          try simp only [Act.put, List.setIfInBounds_toArray, List.set_cons_zero, List.set_cons_succ]
          refine wpAnyH_done (by kernel_rfl) ?_ _
      rotate_left 3
      refine AllReadyH.cons (o := _) rfl (fun K hK => ?_) AllReadyH.nil
      focus
        rw [if_pos (by rfl)]
        simp only [List.getElem_toArray, List.getElem_cons_zero, List.getElem_cons_succ]
        go_simp
        go_wp2_with fail
        refine hK.out _ _ (by first | exact HB1.out.drew | exact alS HB1.out.drew _ | assumption) ?_
        clear hK K
        intro hHeld2
        clear hHeld
        have hHeld := hHeld2
        clear hHeld2
        try simp only [Act.put, List.setIfInBounds_toArray, List.set_cons_zero, List.set_cons_succ]
        refine run_at (i := 5) rfl (by kernel_rfl) (by rfl) (fun K hK => ?_)
        simp only [List.getElem_toArray, List.getElem_cons_zero, List.getElem_cons_succ]
        (go_simp; go_at_call 72; refine Calls.mono (HL1.out _ _ (by first | exact HB1.out.drew | exact alS HB1.out.drew _)) ?_; rintro er u9 ⟨rfl, rfl⟩; go_wp2_with fail)
        refine hK.out _ _ (by first | exact HB1.out.drew | exact alS HB1.out.drew _ | assumption) ?_
        clear hK K
        intro hHeld2
        clear hHeld
        have hHeld := hHeld2
        clear hHeld2
        try simp only [Act.put, List.setIfInBounds_toArray, List.set_cons_zero, List.set_cons_succ]
        refine run_at (i := 8) rfl (by kernel_rfl) (by rfl) (fun K hK => ?_)
        simp only [List.getElem_toArray, List.getElem_cons_zero, List.getElem_cons_succ]
        (go_simp; go_at_call 72; refine Calls.mono (HL2.out _ _ (by first | exact HB1.out.drew | exact alS HB1.out.drew _)) ?_; rintro er u9 ⟨rfl, rfl⟩; go_wp2_with fail)
        refine hK.out _ _ (by first | exact HB1.out.drew | exact alS HB1.out.drew _ | assumption) ?_
        clear hK K
        intro hHeld2
        clear hHeld
        have hHeld := hHeld2
        clear hHeld2
        try simp only [Act.put, List.setIfInBounds_toArray, List.set_cons_zero, List.set_cons_succ]
        refine run_at (i := 11) rfl (by kernel_rfl) (by rfl) (fun K hK => ?_)
        simp only [List.getElem_toArray, List.getElem_cons_zero, List.getElem_cons_succ]
        (go_simp; go_at_call 72; refine Calls.mono (HL3.out _ _ (by first | exact HB1.out.drew | exact alS HB1.out.drew _)) ?_; rintro er u9 ⟨rfl, rfl⟩; go_wp2_with fail)
        refine hK.out _ _ (by first | exact HB1.out.drew | exact alS HB1.out.drew _ | assumption) ?_
        clear hK K
        intro hHeld2
        clear hHeld
        have hHeld := hHeld2
        clear hHeld2
        try simp only [Act.put, List.setIfInBounds_toArray, List.set_cons_zero, List.set_cons_succ]
        refine take_at (i := 12) 19 (v := ?_) rfl rfl (by kernel_rfl) (by kernel_rfl) (by kernel_rfl) (fun _ _ _ h => h) (by rfl) ?_ hHeld ?_
        rotate_left
        · (intro w hSw; (try dsimp only at hSw); go_simp; try with_reducible rfl)
        simp only [Act.put, List.setIfInBounds_toArray, List.set_cons_zero, List.set_cons_succ]
        refine run_at (i := 14) rfl (by kernel_rfl) (by rfl) (fun K hK => ?_)
        simp only [List.getElem_toArray, List.getElem_cons_zero, List.getElem_cons_succ]
        ((refine wpo_storeH (W := w) _ _ rfl _ _ _ _ _ (by rfl) (by rfl) (by simp [Value.oneCell']) _ _ _ _ _ (heap_alloc_new _ _) (alS HB1.out.drew _) HB1.out.size ?_; intro z hz hcz hgz))
        refine hK.out _ _ (by first | exact HB1.out.drew | exact alS HB1.out.drew _ | assumption) ?_
        clear hK K
        intro hHeld2
        clear hHeld
        have hHeld := hHeld2
        clear hHeld2
        try simp only [Act.put, List.setIfInBounds_toArray, List.set_cons_zero, List.set_cons_succ]
        refine wpAnyH_done (by kernel_rfl) ?_ _
    rotate_left 4
    refine AllReadyH.cons (o := _) rfl (fun K hK => ?_) AllReadyH.nil
    focus
      rw [if_pos (by rfl)]
      simp only [List.getElem_toArray, List.getElem_cons_zero, List.getElem_cons_succ]
      go_simp
      go_wp2_with fail
      refine hK.out _ _ (by first | exact HB1.out.drew | exact alS HB1.out.drew _ | assumption) ?_
      clear hK K
      intro hHeld2
      clear hHeld
      have hHeld := hHeld2
      clear hHeld2
      try simp only [Act.put, List.setIfInBounds_toArray, List.set_cons_zero, List.set_cons_succ]
      refine run_at (i := 2) rfl (by kernel_rfl) (by rfl) (fun K hK => ?_)
      simp only [List.getElem_toArray, List.getElem_cons_zero, List.getElem_cons_succ]
      (go_simp; go_at_call 72; refine Calls.mono (HL0.out _ _ (by first | exact HB1.out.drew | exact alS HB1.out.drew _)) ?_; rintro er u9 ⟨rfl, rfl⟩; go_wp2_with fail)
      refine hK.out _ _ (by first | exact HB1.out.drew | exact alS HB1.out.drew _ | assumption) ?_
      clear hK K
      intro hHeld2
      clear hHeld
      have hHeld := hHeld2
      clear hHeld2
      try simp only [Act.put, List.setIfInBounds_toArray, List.set_cons_zero, List.set_cons_succ]
      refine run_at (i := 5) rfl (by kernel_rfl) (by rfl) (fun K hK => ?_)
      simp only [List.getElem_toArray, List.getElem_cons_zero, List.getElem_cons_succ]
      (go_simp; go_at_call 72; refine Calls.mono (HL1.out _ _ (by first | exact HB1.out.drew | exact alS HB1.out.drew _)) ?_; rintro er u9 ⟨rfl, rfl⟩; go_wp2_with fail)
      refine hK.out _ _ (by first | exact HB1.out.drew | exact alS HB1.out.drew _ | assumption) ?_
      clear hK K
      intro hHeld2
      clear hHeld
      have hHeld := hHeld2
      clear hHeld2
      try simp only [Act.put, List.setIfInBounds_toArray, List.set_cons_zero, List.set_cons_succ]
      refine run_at (i := 8) rfl (by kernel_rfl) (by rfl) (fun K hK => ?_)
      simp only [List.getElem_toArray, List.getElem_cons_zero, List.getElem_cons_succ]
      (go_simp; go_at_call 72; refine Calls.mono (HL2.out _ _ (by first | exact HB1.out.drew | exact alS HB1.out.drew _)) ?_; rintro er u9 ⟨rfl, rfl⟩; go_wp2_with fail)
      refine hK.out _ _ (by first | exact HB1.out.drew | exact alS HB1.out.drew _ | assumption) ?_
      clear hK K
      intro hHeld2
      clear hHeld
      have hHeld := hHeld2
      clear hHeld2
      try simp only [Act.put, List.setIfInBounds_toArray, List.set_cons_zero, List.set_cons_succ]
      refine run_at (i := 11) rfl (by kernel_rfl) (by rfl) (fun K hK => ?_)
      simp only [List.getElem_toArray, List.getElem_cons_zero, List.getElem_cons_succ]
      (go_simp; go_at_call 72; refine Calls.mono (HL3.out _ _ (by first | exact HB1.out.drew | exact alS HB1.out.drew _)) ?_; rintro er u9 ⟨rfl, rfl⟩; go_wp2_with fail)
      refine hK.out _ _ (by first | exact HB1.out.drew | exact alS HB1.out.drew _ | assumption) ?_
      clear hK K
      intro hHeld2
      clear hHeld
      have hHeld := hHeld2
      clear hHeld2
      try simp only [Act.put, List.setIfInBounds_toArray, List.set_cons_zero, List.set_cons_succ]
      refine take_at (i := 12) 19 (v := ?_) rfl rfl (by kernel_rfl) (by kernel_rfl) (by kernel_rfl) (fun _ _ _ h => h) (by rfl) ?_ hHeld ?_
      rotate_left
      · (intro w hSw; (try dsimp only at hSw); go_simp; try with_reducible rfl)
      simp only [Act.put, List.setIfInBounds_toArray, List.set_cons_zero, List.set_cons_succ]
      refine run_at (i := 14) rfl (by kernel_rfl) (by rfl) (fun K hK => ?_)
      simp only [List.getElem_toArray, List.getElem_cons_zero, List.getElem_cons_succ]
      ((refine wpo_storeH (W := w) _ _ rfl _ _ _ _ _ (by rfl) (by rfl) (by simp [Value.oneCell']) _ _ _ _ _ (heap_alloc_new _ _) (alS HB1.out.drew _) HB1.out.size ?_; intro z hz hcz hgz))
      refine hK.out _ _ (by first | exact HB1.out.drew | exact alS HB1.out.drew _ | assumption) ?_
      clear hK K
      intro hHeld2
      clear hHeld
      have hHeld := hHeld2
      clear hHeld2
      try simp only [Act.put, List.setIfInBounds_toArray, List.set_cons_zero, List.set_cons_succ]
      refine wpAnyH_done (by kernel_rfl) ?_ _
    focus
      have HBz : Hid (Below w.heap.size w z.drew) := hz.drew
      have HCz : Hid (z.drew.heap[w1.heap.size]? = some (.cells #[.int .u64 (G : Int), .int .u64 (E : Int), .int .u64 (F : Int), .int .u64 (L : Int)] tHd (0, 0))) := hcz
      have HZz : Hid (z.drew.heap[w.heap.size]? = some (.cells #[.int .u64 0, .int .u64 0, .int .u64 0, .int .u64 0] tHd (0, 0))) := (show z.heap[w.heap.size]? = _ from grown_blk hgz (below_blk (alS (Below.refl _ _).drew _) HC1.out) HNE.out.symm)
      have hsz := cells4 HCz.out
      clear hz hcz hgz
      go_wp2_with fail
      refine wp_region_held_drew (S := (fun u => u.cell? ⟨w1.heap.size, 0, none⟩ = some (.int .u64 (G : Int)) ∧ u.cell? ⟨w1.heap.size, 1, none⟩ = some (.int .u64 (E : Int)) ∧ u.cell? ⟨w1.heap.size, 2, none⟩ = some (.int .u64 (F : Int)) ∧ u.cell? ⟨w1.heap.size, 3, none⟩ = some (.int .u64 (L : Int)))) (by kernel_rfl) (by first | exact hsz | assumption) (fun hHeld => ?_)
      refine take_at (i := 0) 20 (v := ?_) rfl rfl (by kernel_rfl) (by kernel_rfl) (by kernel_rfl) (fun _ _ _ h => h) (by rfl) ?_ hHeld ?_
      rotate_left
      · (intro w hSw; (try dsimp only at hSw); go_simp; try with_reducible rfl)
      simp only [Act.put, List.setIfInBounds_toArray, List.set_cons_zero, List.set_cons_succ]
      refine take_at (i := 1) 21 (v := ?_) rfl rfl (by kernel_rfl) (by kernel_rfl) (by kernel_rfl) (fun _ _ _ h => h) (by rfl) ?_ hHeld ?_
      rotate_left
      · (intro w hSw; (try dsimp only at hSw); go_simp; try with_reducible rfl)
      simp only [Act.put, List.setIfInBounds_toArray, List.set_cons_zero, List.set_cons_succ]
      refine take_at (i := 2) 22 (v := ?_) rfl rfl (by kernel_rfl) (by kernel_rfl) (by kernel_rfl) (fun _ _ _ h => h) (by rfl) ?_ hHeld ?_
      rotate_left
      · (intro w hSw; (try dsimp only at hSw); go_simp; try with_reducible rfl)
      simp only [Act.put, List.setIfInBounds_toArray, List.set_cons_zero, List.set_cons_succ]
      refine take_at (i := 3) 23 (v := .bool true) rfl rfl (by kernel_rfl) (by kernel_rfl) (by kernel_rfl) (fun _ _ _ h => h) (by rfl) ?_ hHeld ?_
      · (intro w hSw; (try dsimp only at hSw); go_simp; first | done | with_reducible rfl | omega | (simp; omega))
      simp only [Act.put, List.setIfInBounds_toArray, List.set_cons_zero, List.set_cons_succ]
      refine take_at (i := 4) 24 (v := ?_) rfl rfl (by kernel_rfl) (by kernel_rfl) (by kernel_rfl) (fun _ _ _ h => h) (by rfl) ?_ hHeld ?_
      rotate_left
      · (intro w hSw; (try dsimp only at hSw); go_simp; try with_reducible rfl)
      simp only [Act.put, List.setIfInBounds_toArray, List.set_cons_zero, List.set_cons_succ]
      refine take_at (i := 5) 25 (v := ?_) rfl rfl (by kernel_rfl) (by kernel_rfl) (by kernel_rfl) (fun _ _ _ h => h) (by rfl) ?_ hHeld ?_
      rotate_left
      · (intro w hSw; (try dsimp only at hSw); go_simp; try with_reducible rfl)
      simp only [Act.put, List.setIfInBounds_toArray, List.set_cons_zero, List.set_cons_succ]
      refine take_at (i := 6) 26 (v := ?_) rfl rfl (by kernel_rfl) (by kernel_rfl) (by kernel_rfl) (fun _ _ _ h => h) (by rfl) ?_ hHeld ?_
      rotate_left
      · (intro w hSw; (try dsimp only at hSw); go_simp; try with_reducible rfl)
      simp only [Act.put, List.setIfInBounds_toArray, List.set_cons_zero, List.set_cons_succ]
      refine take_at (i := 7) 27 (v := ?_) rfl rfl (by kernel_rfl) (by kernel_rfl) (by kernel_rfl) (fun _ _ _ h => h) (by rfl) ?_ hHeld ?_
      rotate_left
      · (intro w hSw; (try dsimp only at hSw); go_simp; try with_reducible rfl)
      simp only [Act.put, List.setIfInBounds_toArray, List.set_cons_zero, List.set_cons_succ]
      refine run_at (i := 8) rfl (by kernel_rfl) (by rfl) (fun K hK => ?_)
      simp only [List.getElem_toArray, List.getElem_cons_zero, List.getElem_cons_succ]
      (go_simp; go_at_call 70; refine Calls.mono (headText_t G E F L size hG.out hE.out hF.out hL.out hs _ (HT.out.below HBz.out)) ?_; rintro er y1 ⟨v4, rfl, ho4, hb4⟩; obtain ⟨a1, c1, hv4, -⟩ := Own.val ho4; rw [headT_len] at hv4; subst hv4; have HO1 : Hid (Own y1 (w.heap.size + 1) (.slice a1 128 c1) (headT G E F L size)) := Own.base ho4 (by have h9 := (Array.getElem?_eq_some_iff.1 HCz.out).1; have h8 := HW1.out; omega); have HB1 : Hid (Below w.heap.size w y1) := below_next HBz.out hb4; have HC1 : Hid (y1.heap[w1.heap.size]? = some (.cells #[.int .u64 (G : Int), .int .u64 (E : Int), .int .u64 (F : Int), .int .u64 (L : Int)] tHd (0, 0))) := below_blk hb4 HCz.out; have HZ1 : Hid (y1.heap[w.heap.size]? = some (.cells #[.int .u64 0, .int .u64 0, .int .u64 0, .int .u64 0] tHd (0, 0))) := below_blk hb4 HZz.out; have hs1 := cells4 HC1.out; clear ho4 hb4 hsz; go_wp2_with fail)
      refine hK.out _ _ (by first | exact hsz | assumption) ?_
      clear hK K
      intro hHeld2
      clear hHeld
      have hHeld := hHeld2
      clear hHeld2
      try simp only [Act.put, List.setIfInBounds_toArray, List.set_cons_zero, List.set_cons_succ]
      refine run_at (i := 9) rfl (by kernel_rfl) (by rfl) (fun K hK => ?_)
      simp only [List.getElem_toArray, List.getElem_cons_zero, List.getElem_cons_succ]
      (go_simp; go_at_call 73; refine Calls.mono (show Calls _ _ _ _ (fun e w' => e = .returned (.bool bb) ∧ w' = _) by rw [HBB.out]; exact equal_t _ 128 cap xs hx.out.symm a1 128 c1 (headT G E F L size) (headT_len _ _ _ _ _).symm _ (Rd.below HRX.out HB1.out) (Rd.of_own HO1.out)) ?_; rintro er u9 ⟨rfl, rfl⟩; go_wp2_with fail)
      refine hK.out _ _ (by first | exact hsz | assumption) ?_
      clear hK K
      intro hHeld2
      clear hHeld
      have hHeld := hHeld2
      clear hHeld2
      try simp only [Act.put, List.setIfInBounds_toArray, List.set_cons_zero, List.set_cons_succ]
      refine take_at (i := 10) 30 (v := ?_) rfl rfl (by kernel_rfl) (by kernel_rfl) (by kernel_rfl) (fun _ _ _ h => h) (by rfl) ?_ hHeld ?_
      rotate_left
      · (intro w hSw; (try dsimp only at hSw); go_simp; try with_reducible rfl)
      simp only [Act.put, List.setIfInBounds_toArray, List.set_cons_zero, List.set_cons_succ]
      refine run_at (i := 11) rfl (by kernel_rfl) (by rfl) (fun K hK => ?_)
      simp only [List.getElem_toArray, List.getElem_cons_zero, List.getElem_cons_succ]
      ((refine wpo_storeH (W := w) _ _ rfl _ _ _ _ _ (by rfl) (by rfl) (by simp [Value.oneCell']) _ _ _ _ _ HZ1.out HB1.out (Nat.le_refl _) ?_; intro y2 hz hcz hgz; have HB2 : Hid (Below w.heap.size w y2) := hz; have HC2 : Hid (y2.heap[w1.heap.size]? = some (.cells #[.int .u64 (G : Int), .int .u64 (E : Int), .int .u64 (F : Int), .int .u64 (L : Int)] tHd (0, 0))) := grown_blk hgz HC1.out HNE.out; have HZ2 : Hid (y2.heap[w.heap.size]? = some (.cells #[.int .u64 (G : Int), .int .u64 (E : Int), .int .u64 (F : Int), .int .u64 (L : Int)] tHd (0, 0))) := hcz; have hs2 := cells4 HC2.out; clear hz hcz hgz hs1))
      refine hK.out _ _ (by first | exact hsz | assumption) ?_
      clear hK K
      intro hHeld2
      clear hHeld
      have hHeld := hHeld2
      clear hHeld2
      try simp only [Act.put, List.setIfInBounds_toArray, List.set_cons_zero, List.set_cons_succ]
      refine take_at (i := 12) 5 (v := ?_) rfl rfl (by kernel_rfl) (by kernel_rfl) (by kernel_rfl) (fun _ _ _ h => h) (by rfl) ?_ hHeld ?_
      rotate_left
      · (intro w hSw; (try dsimp only at hSw); go_simp; try with_reducible rfl)
      simp only [Act.put, List.setIfInBounds_toArray, List.set_cons_zero, List.set_cons_succ]
      refine wpAnyH_done (by kernel_rfl) ?_ _
      focus
        obtain ⟨k0, k1, k2, k3⟩ := cells4 HZ2.out
        go_wp2_with fail
        rw [HRES.out]
        refine bodyPost_ret (v := .tuple #[hdV G E F L, .bool bb]) (by simp [results, Tryd.results59, go_sem, k0, k1, k2, k3]) rfl ⟨rfl, HB2.out⟩
    focus
      have HBz : Hid (Below w.heap.size w z.drew) := hz.drew
      have HCz : Hid (z.drew.heap[w1.heap.size]? = some (.cells #[.int .u64 (G : Int), .int .u64 (E : Int), .int .u64 (F : Int), .int .u64 (L : Int)] tHd (0, 0))) := hcz
      have HZz : Hid (z.drew.heap[w.heap.size]? = some (.cells #[.int .u64 0, .int .u64 0, .int .u64 0, .int .u64 0] tHd (0, 0))) := (show z.heap[w.heap.size]? = _ from grown_blk hgz (below_blk (alS (Below.refl _ _).drew _) HC1.out) HNE.out.symm)
      have hsz := cells4 HCz.out
      clear hz hcz hgz
      go_wp2_with fail
      refine wp_region_held_drew (S := (fun u => u.cell? ⟨w1.heap.size, 0, none⟩ = some (.int .u64 (G : Int)) ∧ u.cell? ⟨w1.heap.size, 1, none⟩ = some (.int .u64 (E : Int)) ∧ u.cell? ⟨w1.heap.size, 2, none⟩ = some (.int .u64 (F : Int)) ∧ u.cell? ⟨w1.heap.size, 3, none⟩ = some (.int .u64 (L : Int)))) (by kernel_rfl) (by first | exact hsz | assumption) (fun hHeld => ?_)
      refine take_at (i := 0) 20 (v := ?_) rfl rfl (by kernel_rfl) (by kernel_rfl) (by kernel_rfl) (fun _ _ _ h => h) (by rfl) ?_ hHeld ?_
      rotate_left
      · (intro w hSw; (try dsimp only at hSw); go_simp; try with_reducible rfl)
      simp only [Act.put, List.setIfInBounds_toArray, List.set_cons_zero, List.set_cons_succ]
      refine take_at (i := 1) 21 (v := ?_) rfl rfl (by kernel_rfl) (by kernel_rfl) (by kernel_rfl) (fun _ _ _ h => h) (by rfl) ?_ hHeld ?_
      rotate_left
      · (intro w hSw; (try dsimp only at hSw); go_simp; try with_reducible rfl)
      simp only [Act.put, List.setIfInBounds_toArray, List.set_cons_zero, List.set_cons_succ]
      refine take_at (i := 2) 22 (v := ?_) rfl rfl (by kernel_rfl) (by kernel_rfl) (by kernel_rfl) (fun _ _ _ h => h) (by rfl) ?_ hHeld ?_
      rotate_left
      · (intro w hSw; (try dsimp only at hSw); go_simp; try with_reducible rfl)
      simp only [Act.put, List.setIfInBounds_toArray, List.set_cons_zero, List.set_cons_succ]
      refine take_at (i := 3) 23 (v := .bool true) rfl rfl (by kernel_rfl) (by kernel_rfl) (by kernel_rfl) (fun _ _ _ h => h) (by rfl) ?_ hHeld ?_
      · (intro w hSw; (try dsimp only at hSw); go_simp; first | done | with_reducible rfl | omega | (simp; omega))
      simp only [Act.put, List.setIfInBounds_toArray, List.set_cons_zero, List.set_cons_succ]
      refine take_at (i := 4) 24 (v := ?_) rfl rfl (by kernel_rfl) (by kernel_rfl) (by kernel_rfl) (fun _ _ _ h => h) (by rfl) ?_ hHeld ?_
      rotate_left
      · (intro w hSw; (try dsimp only at hSw); go_simp; try with_reducible rfl)
      simp only [Act.put, List.setIfInBounds_toArray, List.set_cons_zero, List.set_cons_succ]
      refine take_at (i := 5) 25 (v := ?_) rfl rfl (by kernel_rfl) (by kernel_rfl) (by kernel_rfl) (fun _ _ _ h => h) (by rfl) ?_ hHeld ?_
      rotate_left
      · (intro w hSw; (try dsimp only at hSw); go_simp; try with_reducible rfl)
      simp only [Act.put, List.setIfInBounds_toArray, List.set_cons_zero, List.set_cons_succ]
      refine take_at (i := 6) 26 (v := ?_) rfl rfl (by kernel_rfl) (by kernel_rfl) (by kernel_rfl) (fun _ _ _ h => h) (by rfl) ?_ hHeld ?_
      rotate_left
      · (intro w hSw; (try dsimp only at hSw); go_simp; try with_reducible rfl)
      simp only [Act.put, List.setIfInBounds_toArray, List.set_cons_zero, List.set_cons_succ]
      refine take_at (i := 7) 27 (v := ?_) rfl rfl (by kernel_rfl) (by kernel_rfl) (by kernel_rfl) (fun _ _ _ h => h) (by rfl) ?_ hHeld ?_
      rotate_left
      · (intro w hSw; (try dsimp only at hSw); go_simp; try with_reducible rfl)
      simp only [Act.put, List.setIfInBounds_toArray, List.set_cons_zero, List.set_cons_succ]
      refine run_at (i := 8) rfl (by kernel_rfl) (by rfl) (fun K hK => ?_)
      simp only [List.getElem_toArray, List.getElem_cons_zero, List.getElem_cons_succ]
      (go_simp; go_at_call 70; refine Calls.mono (headText_t G E F L size hG.out hE.out hF.out hL.out hs _ (HT.out.below HBz.out)) ?_; rintro er y1 ⟨v4, rfl, ho4, hb4⟩; obtain ⟨a1, c1, hv4, -⟩ := Own.val ho4; rw [headT_len] at hv4; subst hv4; have HO1 : Hid (Own y1 (w.heap.size + 1) (.slice a1 128 c1) (headT G E F L size)) := Own.base ho4 (by have h9 := (Array.getElem?_eq_some_iff.1 HCz.out).1; have h8 := HW1.out; omega); have HB1 : Hid (Below w.heap.size w y1) := below_next HBz.out hb4; have HC1 : Hid (y1.heap[w1.heap.size]? = some (.cells #[.int .u64 (G : Int), .int .u64 (E : Int), .int .u64 (F : Int), .int .u64 (L : Int)] tHd (0, 0))) := below_blk hb4 HCz.out; have HZ1 : Hid (y1.heap[w.heap.size]? = some (.cells #[.int .u64 0, .int .u64 0, .int .u64 0, .int .u64 0] tHd (0, 0))) := below_blk hb4 HZz.out; have hs1 := cells4 HC1.out; clear ho4 hb4 hsz; go_wp2_with fail)
      refine hK.out _ _ (by first | exact hsz | assumption) ?_
      clear hK K
      intro hHeld2
      clear hHeld
      have hHeld := hHeld2
      clear hHeld2
      try simp only [Act.put, List.setIfInBounds_toArray, List.set_cons_zero, List.set_cons_succ]
      refine run_at (i := 9) rfl (by kernel_rfl) (by rfl) (fun K hK => ?_)
      simp only [List.getElem_toArray, List.getElem_cons_zero, List.getElem_cons_succ]
      (go_simp; go_at_call 73; refine Calls.mono (show Calls _ _ _ _ (fun e w' => e = .returned (.bool bb) ∧ w' = _) by rw [HBB.out]; exact equal_t _ 128 cap xs hx.out.symm a1 128 c1 (headT G E F L size) (headT_len _ _ _ _ _).symm _ (Rd.below HRX.out HB1.out) (Rd.of_own HO1.out)) ?_; rintro er u9 ⟨rfl, rfl⟩; go_wp2_with fail)
      refine hK.out _ _ (by first | exact hsz | assumption) ?_
      clear hK K
      intro hHeld2
      clear hHeld
      have hHeld := hHeld2
      clear hHeld2
      try simp only [Act.put, List.setIfInBounds_toArray, List.set_cons_zero, List.set_cons_succ]
      refine take_at (i := 10) 30 (v := ?_) rfl rfl (by kernel_rfl) (by kernel_rfl) (by kernel_rfl) (fun _ _ _ h => h) (by rfl) ?_ hHeld ?_
      rotate_left
      · (intro w hSw; (try dsimp only at hSw); go_simp; try with_reducible rfl)
      simp only [Act.put, List.setIfInBounds_toArray, List.set_cons_zero, List.set_cons_succ]
      refine run_at (i := 11) rfl (by kernel_rfl) (by rfl) (fun K hK => ?_)
      simp only [List.getElem_toArray, List.getElem_cons_zero, List.getElem_cons_succ]
      ((refine wpo_storeH (W := w) _ _ rfl _ _ _ _ _ (by rfl) (by rfl) (by simp [Value.oneCell']) _ _ _ _ _ HZ1.out HB1.out (Nat.le_refl _) ?_; intro y2 hz hcz hgz; have HB2 : Hid (Below w.heap.size w y2) := hz; have HC2 : Hid (y2.heap[w1.heap.size]? = some (.cells #[.int .u64 (G : Int), .int .u64 (E : Int), .int .u64 (F : Int), .int .u64 (L : Int)] tHd (0, 0))) := grown_blk hgz HC1.out HNE.out; have HZ2 : Hid (y2.heap[w.heap.size]? = some (.cells #[.int .u64 (G : Int), .int .u64 (E : Int), .int .u64 (F : Int), .int .u64 (L : Int)] tHd (0, 0))) := hcz; have hs2 := cells4 HC2.out; clear hz hcz hgz hs1))
      refine hK.out _ _ (by first | exact hsz | assumption) ?_
      clear hK K
      intro hHeld2
      clear hHeld
      have hHeld := hHeld2
      clear hHeld2
      try simp only [Act.put, List.setIfInBounds_toArray, List.set_cons_zero, List.set_cons_succ]
      refine take_at (i := 12) 5 (v := ?_) rfl rfl (by kernel_rfl) (by kernel_rfl) (by kernel_rfl) (fun _ _ _ h => h) (by rfl) ?_ hHeld ?_
      rotate_left
      · (intro w hSw; (try dsimp only at hSw); go_simp; try with_reducible rfl)
      simp only [Act.put, List.setIfInBounds_toArray, List.set_cons_zero, List.set_cons_succ]
      refine wpAnyH_done (by kernel_rfl) ?_ _
      focus
        obtain ⟨k0, k1, k2, k3⟩ := cells4 HZ2.out
        go_wp2_with fail
        rw [HRES.out]
        refine bodyPost_ret (v := .tuple #[hdV G E F L, .bool bb]) (by simp [results, Tryd.results59, go_sem, k0, k1, k2, k3]) rfl ⟨rfl, HB2.out⟩
    focus
      have HBz : Hid (Below w.heap.size w z.drew) := hz.drew
      have HCz : Hid (z.drew.heap[w1.heap.size]? = some (.cells #[.int .u64 (G : Int), .int .u64 (E : Int), .int .u64 (F : Int), .int .u64 (L : Int)] tHd (0, 0))) := hcz
      have HZz : Hid (z.drew.heap[w.heap.size]? = some (.cells #[.int .u64 0, .int .u64 0, .int .u64 0, .int .u64 0] tHd (0, 0))) := (show z.heap[w.heap.size]? = _ from grown_blk hgz (below_blk (alS (Below.refl _ _).drew _) HC1.out) HNE.out.symm)
      have hsz := cells4 HCz.out
      clear hz hcz hgz
      go_wp2_with fail
      refine wp_region_held_drew (S := (fun u => u.cell? ⟨w1.heap.size, 0, none⟩ = some (.int .u64 (G : Int)) ∧ u.cell? ⟨w1.heap.size, 1, none⟩ = some (.int .u64 (E : Int)) ∧ u.cell? ⟨w1.heap.size, 2, none⟩ = some (.int .u64 (F : Int)) ∧ u.cell? ⟨w1.heap.size, 3, none⟩ = some (.int .u64 (L : Int)))) (by kernel_rfl) (by first | exact hsz | assumption) (fun hHeld => ?_)
      refine take_at (i := 0) 20 (v := ?_) rfl rfl (by kernel_rfl) (by kernel_rfl) (by kernel_rfl) (fun _ _ _ h => h) (by rfl) ?_ hHeld ?_
      rotate_left
      · (intro w hSw; (try dsimp only at hSw); go_simp; try with_reducible rfl)
      simp only [Act.put, List.setIfInBounds_toArray, List.set_cons_zero, List.set_cons_succ]
      refine take_at (i := 1) 21 (v := ?_) rfl rfl (by kernel_rfl) (by kernel_rfl) (by kernel_rfl) (fun _ _ _ h => h) (by rfl) ?_ hHeld ?_
      rotate_left
      · (intro w hSw; (try dsimp only at hSw); go_simp; try with_reducible rfl)
      simp only [Act.put, List.setIfInBounds_toArray, List.set_cons_zero, List.set_cons_succ]
      refine take_at (i := 2) 22 (v := ?_) rfl rfl (by kernel_rfl) (by kernel_rfl) (by kernel_rfl) (fun _ _ _ h => h) (by rfl) ?_ hHeld ?_
      rotate_left
      · (intro w hSw; (try dsimp only at hSw); go_simp; try with_reducible rfl)
      simp only [Act.put, List.setIfInBounds_toArray, List.set_cons_zero, List.set_cons_succ]
      refine take_at (i := 3) 23 (v := .bool true) rfl rfl (by kernel_rfl) (by kernel_rfl) (by kernel_rfl) (fun _ _ _ h => h) (by rfl) ?_ hHeld ?_
      · (intro w hSw; (try dsimp only at hSw); go_simp; first | done | with_reducible rfl | omega | (simp; omega))
      simp only [Act.put, List.setIfInBounds_toArray, List.set_cons_zero, List.set_cons_succ]
      refine take_at (i := 4) 24 (v := ?_) rfl rfl (by kernel_rfl) (by kernel_rfl) (by kernel_rfl) (fun _ _ _ h => h) (by rfl) ?_ hHeld ?_
      rotate_left
      · (intro w hSw; (try dsimp only at hSw); go_simp; try with_reducible rfl)
      simp only [Act.put, List.setIfInBounds_toArray, List.set_cons_zero, List.set_cons_succ]
      refine take_at (i := 5) 25 (v := ?_) rfl rfl (by kernel_rfl) (by kernel_rfl) (by kernel_rfl) (fun _ _ _ h => h) (by rfl) ?_ hHeld ?_
      rotate_left
      · (intro w hSw; (try dsimp only at hSw); go_simp; try with_reducible rfl)
      simp only [Act.put, List.setIfInBounds_toArray, List.set_cons_zero, List.set_cons_succ]
      refine take_at (i := 6) 26 (v := ?_) rfl rfl (by kernel_rfl) (by kernel_rfl) (by kernel_rfl) (fun _ _ _ h => h) (by rfl) ?_ hHeld ?_
      rotate_left
      · (intro w hSw; (try dsimp only at hSw); go_simp; try with_reducible rfl)
      simp only [Act.put, List.setIfInBounds_toArray, List.set_cons_zero, List.set_cons_succ]
      refine take_at (i := 7) 27 (v := ?_) rfl rfl (by kernel_rfl) (by kernel_rfl) (by kernel_rfl) (fun _ _ _ h => h) (by rfl) ?_ hHeld ?_
      rotate_left
      · (intro w hSw; (try dsimp only at hSw); go_simp; try with_reducible rfl)
      simp only [Act.put, List.setIfInBounds_toArray, List.set_cons_zero, List.set_cons_succ]
      refine run_at (i := 8) rfl (by kernel_rfl) (by rfl) (fun K hK => ?_)
      simp only [List.getElem_toArray, List.getElem_cons_zero, List.getElem_cons_succ]
      (go_simp; go_at_call 70; refine Calls.mono (headText_t G E F L size hG.out hE.out hF.out hL.out hs _ (HT.out.below HBz.out)) ?_; rintro er y1 ⟨v4, rfl, ho4, hb4⟩; obtain ⟨a1, c1, hv4, -⟩ := Own.val ho4; rw [headT_len] at hv4; subst hv4; have HO1 : Hid (Own y1 (w.heap.size + 1) (.slice a1 128 c1) (headT G E F L size)) := Own.base ho4 (by have h9 := (Array.getElem?_eq_some_iff.1 HCz.out).1; have h8 := HW1.out; omega); have HB1 : Hid (Below w.heap.size w y1) := below_next HBz.out hb4; have HC1 : Hid (y1.heap[w1.heap.size]? = some (.cells #[.int .u64 (G : Int), .int .u64 (E : Int), .int .u64 (F : Int), .int .u64 (L : Int)] tHd (0, 0))) := below_blk hb4 HCz.out; have HZ1 : Hid (y1.heap[w.heap.size]? = some (.cells #[.int .u64 0, .int .u64 0, .int .u64 0, .int .u64 0] tHd (0, 0))) := below_blk hb4 HZz.out; have hs1 := cells4 HC1.out; clear ho4 hb4 hsz; go_wp2_with fail)
      refine hK.out _ _ (by first | exact hsz | assumption) ?_
      clear hK K
      intro hHeld2
      clear hHeld
      have hHeld := hHeld2
      clear hHeld2
      try simp only [Act.put, List.setIfInBounds_toArray, List.set_cons_zero, List.set_cons_succ]
      refine run_at (i := 9) rfl (by kernel_rfl) (by rfl) (fun K hK => ?_)
      simp only [List.getElem_toArray, List.getElem_cons_zero, List.getElem_cons_succ]
      (go_simp; go_at_call 73; refine Calls.mono (show Calls _ _ _ _ (fun e w' => e = .returned (.bool bb) ∧ w' = _) by rw [HBB.out]; exact equal_t _ 128 cap xs hx.out.symm a1 128 c1 (headT G E F L size) (headT_len _ _ _ _ _).symm _ (Rd.below HRX.out HB1.out) (Rd.of_own HO1.out)) ?_; rintro er u9 ⟨rfl, rfl⟩; go_wp2_with fail)
      refine hK.out _ _ (by first | exact hsz | assumption) ?_
      clear hK K
      intro hHeld2
      clear hHeld
      have hHeld := hHeld2
      clear hHeld2
      try simp only [Act.put, List.setIfInBounds_toArray, List.set_cons_zero, List.set_cons_succ]
      refine take_at (i := 10) 30 (v := ?_) rfl rfl (by kernel_rfl) (by kernel_rfl) (by kernel_rfl) (fun _ _ _ h => h) (by rfl) ?_ hHeld ?_
      rotate_left
      · (intro w hSw; (try dsimp only at hSw); go_simp; try with_reducible rfl)
      simp only [Act.put, List.setIfInBounds_toArray, List.set_cons_zero, List.set_cons_succ]
      refine run_at (i := 11) rfl (by kernel_rfl) (by rfl) (fun K hK => ?_)
      simp only [List.getElem_toArray, List.getElem_cons_zero, List.getElem_cons_succ]
      ((refine wpo_storeH (W := w) _ _ rfl _ _ _ _ _ (by rfl) (by rfl) (by simp [Value.oneCell']) _ _ _ _ _ HZ1.out HB1.out (Nat.le_refl _) ?_; intro y2 hz hcz hgz; have HB2 : Hid (Below w.heap.size w y2) := hz; have HC2 : Hid (y2.heap[w1.heap.size]? = some (.cells #[.int .u64 (G : Int), .int .u64 (E : Int), .int .u64 (F : Int), .int .u64 (L : Int)] tHd (0, 0))) := grown_blk hgz HC1.out HNE.out; have HZ2 : Hid (y2.heap[w.heap.size]? = some (.cells #[.int .u64 (G : Int), .int .u64 (E : Int), .int .u64 (F : Int), .int .u64 (L : Int)] tHd (0, 0))) := hcz; have hs2 := cells4 HC2.out; clear hz hcz hgz hs1))
      refine hK.out _ _ (by first | exact hsz | assumption) ?_
      clear hK K
      intro hHeld2
      clear hHeld
      have hHeld := hHeld2
      clear hHeld2
      try simp only [Act.put, List.setIfInBounds_toArray, List.set_cons_zero, List.set_cons_succ]
      refine take_at (i := 12) 5 (v := ?_) rfl rfl (by kernel_rfl) (by kernel_rfl) (by kernel_rfl) (fun _ _ _ h => h) (by rfl) ?_ hHeld ?_
      rotate_left
      · (intro w hSw; (try dsimp only at hSw); go_simp; try with_reducible rfl)
      simp only [Act.put, List.setIfInBounds_toArray, List.set_cons_zero, List.set_cons_succ]
      refine wpAnyH_done (by kernel_rfl) ?_ _
      focus
        obtain ⟨k0, k1, k2, k3⟩ := cells4 HZ2.out
        go_wp2_with fail
        rw [HRES.out]
        refine bodyPost_ret (v := .tuple #[hdV G E F L, .bool bb]) (by simp [results, Tryd.results59, go_sem, k0, k1, k2, k3]) rfl ⟨rfl, HB2.out⟩
    focus
      have HBz : Hid (Below w.heap.size w z.drew) := hz.drew
      have HCz : Hid (z.drew.heap[w1.heap.size]? = some (.cells #[.int .u64 (G : Int), .int .u64 (E : Int), .int .u64 (F : Int), .int .u64 (L : Int)] tHd (0, 0))) := hcz
      have HZz : Hid (z.drew.heap[w.heap.size]? = some (.cells #[.int .u64 0, .int .u64 0, .int .u64 0, .int .u64 0] tHd (0, 0))) := (show z.heap[w.heap.size]? = _ from grown_blk hgz (below_blk (alS (Below.refl _ _).drew _) HC1.out) HNE.out.symm)
      have hsz := cells4 HCz.out
      clear hz hcz hgz
      go_wp2_with fail
      refine wp_region_held_drew (S := (fun u => u.cell? ⟨w1.heap.size, 0, none⟩ = some (.int .u64 (G : Int)) ∧ u.cell? ⟨w1.heap.size, 1, none⟩ = some (.int .u64 (E : Int)) ∧ u.cell? ⟨w1.heap.size, 2, none⟩ = some (.int .u64 (F : Int)) ∧ u.cell? ⟨w1.heap.size, 3, none⟩ = some (.int .u64 (L : Int)))) (by kernel_rfl) (by first | exact hsz | assumption) (fun hHeld => ?_)
      refine take_at (i := 0) 20 (v := ?_) rfl rfl (by kernel_rfl) (by kernel_rfl) (by kernel_rfl) (fun _ _ _ h => h) (by rfl) ?_ hHeld ?_
      rotate_left
      · (intro w hSw; (try dsimp only at hSw); go_simp; try with_reducible rfl)
      simp only [Act.put, List.setIfInBounds_toArray, List.set_cons_zero, List.set_cons_succ]
      refine take_at (i := 1) 21 (v := ?_) rfl rfl (by kernel_rfl) (by kernel_rfl) (by kernel_rfl) (fun _ _ _ h => h) (by rfl) ?_ hHeld ?_
      rotate_left
      · (intro w hSw; (try dsimp only at hSw); go_simp; try with_reducible rfl)
      simp only [Act.put, List.setIfInBounds_toArray, List.set_cons_zero, List.set_cons_succ]
      refine take_at (i := 2) 22 (v := ?_) rfl rfl (by kernel_rfl) (by kernel_rfl) (by kernel_rfl) (fun _ _ _ h => h) (by rfl) ?_ hHeld ?_
      rotate_left
      · (intro w hSw; (try dsimp only at hSw); go_simp; try with_reducible rfl)
      simp only [Act.put, List.setIfInBounds_toArray, List.set_cons_zero, List.set_cons_succ]
      refine take_at (i := 3) 23 (v := .bool true) rfl rfl (by kernel_rfl) (by kernel_rfl) (by kernel_rfl) (fun _ _ _ h => h) (by rfl) ?_ hHeld ?_
      · (intro w hSw; (try dsimp only at hSw); go_simp; first | done | with_reducible rfl | omega | (simp; omega))
      simp only [Act.put, List.setIfInBounds_toArray, List.set_cons_zero, List.set_cons_succ]
      refine take_at (i := 4) 24 (v := ?_) rfl rfl (by kernel_rfl) (by kernel_rfl) (by kernel_rfl) (fun _ _ _ h => h) (by rfl) ?_ hHeld ?_
      rotate_left
      · (intro w hSw; (try dsimp only at hSw); go_simp; try with_reducible rfl)
      simp only [Act.put, List.setIfInBounds_toArray, List.set_cons_zero, List.set_cons_succ]
      refine take_at (i := 5) 25 (v := ?_) rfl rfl (by kernel_rfl) (by kernel_rfl) (by kernel_rfl) (fun _ _ _ h => h) (by rfl) ?_ hHeld ?_
      rotate_left
      · (intro w hSw; (try dsimp only at hSw); go_simp; try with_reducible rfl)
      simp only [Act.put, List.setIfInBounds_toArray, List.set_cons_zero, List.set_cons_succ]
      refine take_at (i := 6) 26 (v := ?_) rfl rfl (by kernel_rfl) (by kernel_rfl) (by kernel_rfl) (fun _ _ _ h => h) (by rfl) ?_ hHeld ?_
      rotate_left
      · (intro w hSw; (try dsimp only at hSw); go_simp; try with_reducible rfl)
      simp only [Act.put, List.setIfInBounds_toArray, List.set_cons_zero, List.set_cons_succ]
      refine take_at (i := 7) 27 (v := ?_) rfl rfl (by kernel_rfl) (by kernel_rfl) (by kernel_rfl) (fun _ _ _ h => h) (by rfl) ?_ hHeld ?_
      rotate_left
      · (intro w hSw; (try dsimp only at hSw); go_simp; try with_reducible rfl)
      simp only [Act.put, List.setIfInBounds_toArray, List.set_cons_zero, List.set_cons_succ]
      refine run_at (i := 8) rfl (by kernel_rfl) (by rfl) (fun K hK => ?_)
      simp only [List.getElem_toArray, List.getElem_cons_zero, List.getElem_cons_succ]
      (go_simp; go_at_call 70; refine Calls.mono (headText_t G E F L size hG.out hE.out hF.out hL.out hs _ (HT.out.below HBz.out)) ?_; rintro er y1 ⟨v4, rfl, ho4, hb4⟩; obtain ⟨a1, c1, hv4, -⟩ := Own.val ho4; rw [headT_len] at hv4; subst hv4; have HO1 : Hid (Own y1 (w.heap.size + 1) (.slice a1 128 c1) (headT G E F L size)) := Own.base ho4 (by have h9 := (Array.getElem?_eq_some_iff.1 HCz.out).1; have h8 := HW1.out; omega); have HB1 : Hid (Below w.heap.size w y1) := below_next HBz.out hb4; have HC1 : Hid (y1.heap[w1.heap.size]? = some (.cells #[.int .u64 (G : Int), .int .u64 (E : Int), .int .u64 (F : Int), .int .u64 (L : Int)] tHd (0, 0))) := below_blk hb4 HCz.out; have HZ1 : Hid (y1.heap[w.heap.size]? = some (.cells #[.int .u64 0, .int .u64 0, .int .u64 0, .int .u64 0] tHd (0, 0))) := below_blk hb4 HZz.out; have hs1 := cells4 HC1.out; clear ho4 hb4 hsz; go_wp2_with fail)
      refine hK.out _ _ (by first | exact hsz | assumption) ?_
      clear hK K
      intro hHeld2
      clear hHeld
      have hHeld := hHeld2
      clear hHeld2
      try simp only [Act.put, List.setIfInBounds_toArray, List.set_cons_zero, List.set_cons_succ]
      refine run_at (i := 9) rfl (by kernel_rfl) (by rfl) (fun K hK => ?_)
      simp only [List.getElem_toArray, List.getElem_cons_zero, List.getElem_cons_succ]
      (go_simp; go_at_call 73; refine Calls.mono (show Calls _ _ _ _ (fun e w' => e = .returned (.bool bb) ∧ w' = _) by rw [HBB.out]; exact equal_t _ 128 cap xs hx.out.symm a1 128 c1 (headT G E F L size) (headT_len _ _ _ _ _).symm _ (Rd.below HRX.out HB1.out) (Rd.of_own HO1.out)) ?_; rintro er u9 ⟨rfl, rfl⟩; go_wp2_with fail)
      refine hK.out _ _ (by first | exact hsz | assumption) ?_
      clear hK K
      intro hHeld2
      clear hHeld
      have hHeld := hHeld2
      clear hHeld2
      try simp only [Act.put, List.setIfInBounds_toArray, List.set_cons_zero, List.set_cons_succ]
      refine take_at (i := 10) 30 (v := ?_) rfl rfl (by kernel_rfl) (by kernel_rfl) (by kernel_rfl) (fun _ _ _ h => h) (by rfl) ?_ hHeld ?_
      rotate_left
      · (intro w hSw; (try dsimp only at hSw); go_simp; try with_reducible rfl)
      simp only [Act.put, List.setIfInBounds_toArray, List.set_cons_zero, List.set_cons_succ]
      refine run_at (i := 11) rfl (by kernel_rfl) (by rfl) (fun K hK => ?_)
      simp only [List.getElem_toArray, List.getElem_cons_zero, List.getElem_cons_succ]
      ((refine wpo_storeH (W := w) _ _ rfl _ _ _ _ _ (by rfl) (by rfl) (by simp [Value.oneCell']) _ _ _ _ _ HZ1.out HB1.out (Nat.le_refl _) ?_; intro y2 hz hcz hgz; have HB2 : Hid (Below w.heap.size w y2) := hz; have HC2 : Hid (y2.heap[w1.heap.size]? = some (.cells #[.int .u64 (G : Int), .int .u64 (E : Int), .int .u64 (F : Int), .int .u64 (L : Int)] tHd (0, 0))) := grown_blk hgz HC1.out HNE.out; have HZ2 : Hid (y2.heap[w.heap.size]? = some (.cells #[.int .u64 (G : Int), .int .u64 (E : Int), .int .u64 (F : Int), .int .u64 (L : Int)] tHd (0, 0))) := hcz; have hs2 := cells4 HC2.out; clear hz hcz hgz hs1))
      refine hK.out _ _ (by first | exact hsz | assumption) ?_
      clear hK K
      intro hHeld2
      clear hHeld
      have hHeld := hHeld2
      clear hHeld2
      try simp only [Act.put, List.setIfInBounds_toArray, List.set_cons_zero, List.set_cons_succ]
      refine take_at (i := 12) 5 (v := ?_) rfl rfl (by kernel_rfl) (by kernel_rfl) (by kernel_rfl) (fun _ _ _ h => h) (by rfl) ?_ hHeld ?_
      rotate_left
      · (intro w hSw; (try dsimp only at hSw); go_simp; try with_reducible rfl)
      simp only [Act.put, List.setIfInBounds_toArray, List.set_cons_zero, List.set_cons_succ]
      refine wpAnyH_done (by kernel_rfl) ?_ _
      focus
        obtain ⟨k0, k1, k2, k3⟩ := cells4 HZ2.out
        go_wp2_with fail
        rw [HRES.out]
        refine bodyPost_ret (v := .tuple #[hdV G E F L, .bool bb]) (by simp [results, Tryd.results59, go_sem, k0, k1, k2, k3]) rfl ⟨rfl, HB2.out⟩
    focus
      have HBz : Hid (Below w.heap.size w z.drew) := hz.drew
      have HCz : Hid (z.drew.heap[w1.heap.size]? = some (.cells #[.int .u64 (G : Int), .int .u64 (E : Int), .int .u64 (F : Int), .int .u64 (L : Int)] tHd (0, 0))) := hcz
      have HZz : Hid (z.drew.heap[w.heap.size]? = some (.cells #[.int .u64 0, .int .u64 0, .int .u64 0, .int .u64 0] tHd (0, 0))) := (show z.heap[w.heap.size]? = _ from grown_blk hgz (below_blk (alS (Below.refl _ _).drew _) HC1.out) HNE.out.symm)
      have hsz := cells4 HCz.out
      clear hz hcz hgz
      go_wp2_with fail
      refine wp_region_held_drew (S := (fun u => u.cell? ⟨w1.heap.size, 0, none⟩ = some (.int .u64 (G : Int)) ∧ u.cell? ⟨w1.heap.size, 1, none⟩ = some (.int .u64 (E : Int)) ∧ u.cell? ⟨w1.heap.size, 2, none⟩ = some (.int .u64 (F : Int)) ∧ u.cell? ⟨w1.heap.size, 3, none⟩ = some (.int .u64 (L : Int)))) (by kernel_rfl) (by first | exact hsz | assumption) (fun hHeld => ?_)
      refine take_at (i := 0) 20 (v := ?_) rfl rfl (by kernel_rfl) (by kernel_rfl) (by kernel_rfl) (fun _ _ _ h => h) (by rfl) ?_ hHeld ?_
      rotate_left
      · (intro w hSw; (try dsimp only at hSw); go_simp; try with_reducible rfl)
      simp only [Act.put, List.setIfInBounds_toArray, List.set_cons_zero, List.set_cons_succ]
      refine take_at (i := 1) 21 (v := ?_) rfl rfl (by kernel_rfl) (by kernel_rfl) (by kernel_rfl) (fun _ _ _ h => h) (by rfl) ?_ hHeld ?_
      rotate_left
      · (intro w hSw; (try dsimp only at hSw); go_simp; try with_reducible rfl)
      simp only [Act.put, List.setIfInBounds_toArray, List.set_cons_zero, List.set_cons_succ]
      refine take_at (i := 2) 22 (v := ?_) rfl rfl (by kernel_rfl) (by kernel_rfl) (by kernel_rfl) (fun _ _ _ h => h) (by rfl) ?_ hHeld ?_
      rotate_left
      · (intro w hSw; (try dsimp only at hSw); go_simp; try with_reducible rfl)
      simp only [Act.put, List.setIfInBounds_toArray, List.set_cons_zero, List.set_cons_succ]
      refine take_at (i := 3) 23 (v := .bool true) rfl rfl (by kernel_rfl) (by kernel_rfl) (by kernel_rfl) (fun _ _ _ h => h) (by rfl) ?_ hHeld ?_
      · (intro w hSw; (try dsimp only at hSw); go_simp; first | done | with_reducible rfl | omega | (simp; omega))
      simp only [Act.put, List.setIfInBounds_toArray, List.set_cons_zero, List.set_cons_succ]
      refine take_at (i := 4) 24 (v := ?_) rfl rfl (by kernel_rfl) (by kernel_rfl) (by kernel_rfl) (fun _ _ _ h => h) (by rfl) ?_ hHeld ?_
      rotate_left
      · (intro w hSw; (try dsimp only at hSw); go_simp; try with_reducible rfl)
      simp only [Act.put, List.setIfInBounds_toArray, List.set_cons_zero, List.set_cons_succ]
      refine take_at (i := 5) 25 (v := ?_) rfl rfl (by kernel_rfl) (by kernel_rfl) (by kernel_rfl) (fun _ _ _ h => h) (by rfl) ?_ hHeld ?_
      rotate_left
      · (intro w hSw; (try dsimp only at hSw); go_simp; try with_reducible rfl)
      simp only [Act.put, List.setIfInBounds_toArray, List.set_cons_zero, List.set_cons_succ]
      refine take_at (i := 6) 26 (v := ?_) rfl rfl (by kernel_rfl) (by kernel_rfl) (by kernel_rfl) (fun _ _ _ h => h) (by rfl) ?_ hHeld ?_
      rotate_left
      · (intro w hSw; (try dsimp only at hSw); go_simp; try with_reducible rfl)
      simp only [Act.put, List.setIfInBounds_toArray, List.set_cons_zero, List.set_cons_succ]
      refine take_at (i := 7) 27 (v := ?_) rfl rfl (by kernel_rfl) (by kernel_rfl) (by kernel_rfl) (fun _ _ _ h => h) (by rfl) ?_ hHeld ?_
      rotate_left
      · (intro w hSw; (try dsimp only at hSw); go_simp; try with_reducible rfl)
      simp only [Act.put, List.setIfInBounds_toArray, List.set_cons_zero, List.set_cons_succ]
      refine run_at (i := 8) rfl (by kernel_rfl) (by rfl) (fun K hK => ?_)
      simp only [List.getElem_toArray, List.getElem_cons_zero, List.getElem_cons_succ]
      (go_simp; go_at_call 70; refine Calls.mono (headText_t G E F L size hG.out hE.out hF.out hL.out hs _ (HT.out.below HBz.out)) ?_; rintro er y1 ⟨v4, rfl, ho4, hb4⟩; obtain ⟨a1, c1, hv4, -⟩ := Own.val ho4; rw [headT_len] at hv4; subst hv4; have HO1 : Hid (Own y1 (w.heap.size + 1) (.slice a1 128 c1) (headT G E F L size)) := Own.base ho4 (by have h9 := (Array.getElem?_eq_some_iff.1 HCz.out).1; have h8 := HW1.out; omega); have HB1 : Hid (Below w.heap.size w y1) := below_next HBz.out hb4; have HC1 : Hid (y1.heap[w1.heap.size]? = some (.cells #[.int .u64 (G : Int), .int .u64 (E : Int), .int .u64 (F : Int), .int .u64 (L : Int)] tHd (0, 0))) := below_blk hb4 HCz.out; have HZ1 : Hid (y1.heap[w.heap.size]? = some (.cells #[.int .u64 0, .int .u64 0, .int .u64 0, .int .u64 0] tHd (0, 0))) := below_blk hb4 HZz.out; have hs1 := cells4 HC1.out; clear ho4 hb4 hsz; go_wp2_with fail)
      refine hK.out _ _ (by first | exact hsz | assumption) ?_
      clear hK K
      intro hHeld2
      clear hHeld
      have hHeld := hHeld2
      clear hHeld2
      try simp only [Act.put, List.setIfInBounds_toArray, List.set_cons_zero, List.set_cons_succ]
      refine run_at (i := 9) rfl (by kernel_rfl) (by rfl) (fun K hK => ?_)
      simp only [List.getElem_toArray, List.getElem_cons_zero, List.getElem_cons_succ]
      (go_simp; go_at_call 73; refine Calls.mono (show Calls _ _ _ _ (fun e w' => e = .returned (.bool bb) ∧ w' = _) by rw [HBB.out]; exact equal_t _ 128 cap xs hx.out.symm a1 128 c1 (headT G E F L size) (headT_len _ _ _ _ _).symm _ (Rd.below HRX.out HB1.out) (Rd.of_own HO1.out)) ?_; rintro er u9 ⟨rfl, rfl⟩; go_wp2_with fail)
      refine hK.out _ _ (by first | exact hsz | assumption) ?_
      clear hK K
      intro hHeld2
      clear hHeld
      have hHeld := hHeld2
      clear hHeld2
      try simp only [Act.put, List.setIfInBounds_toArray, List.set_cons_zero, List.set_cons_succ]
      refine take_at (i := 10) 30 (v := ?_) rfl rfl (by kernel_rfl) (by kernel_rfl) (by kernel_rfl) (fun _ _ _ h => h) (by rfl) ?_ hHeld ?_
      rotate_left
      · (intro w hSw; (try dsimp only at hSw); go_simp; try with_reducible rfl)
      simp only [Act.put, List.setIfInBounds_toArray, List.set_cons_zero, List.set_cons_succ]
      refine run_at (i := 11) rfl (by kernel_rfl) (by rfl) (fun K hK => ?_)
      simp only [List.getElem_toArray, List.getElem_cons_zero, List.getElem_cons_succ]
      ((refine wpo_storeH (W := w) _ _ rfl _ _ _ _ _ (by rfl) (by rfl) (by simp [Value.oneCell']) _ _ _ _ _ HZ1.out HB1.out (Nat.le_refl _) ?_; intro y2 hz hcz hgz; have HB2 : Hid (Below w.heap.size w y2) := hz; have HC2 : Hid (y2.heap[w1.heap.size]? = some (.cells #[.int .u64 (G : Int), .int .u64 (E : Int), .int .u64 (F : Int), .int .u64 (L : Int)] tHd (0, 0))) := grown_blk hgz HC1.out HNE.out; have HZ2 : Hid (y2.heap[w.heap.size]? = some (.cells #[.int .u64 (G : Int), .int .u64 (E : Int), .int .u64 (F : Int), .int .u64 (L : Int)] tHd (0, 0))) := hcz; have hs2 := cells4 HC2.out; clear hz hcz hgz hs1))
      refine hK.out _ _ (by first | exact hsz | assumption) ?_
      clear hK K
      intro hHeld2
      clear hHeld
      have hHeld := hHeld2
      clear hHeld2
      try simp only [Act.put, List.setIfInBounds_toArray, List.set_cons_zero, List.set_cons_succ]
      refine take_at (i := 12) 5 (v := ?_) rfl rfl (by kernel_rfl) (by kernel_rfl) (by kernel_rfl) (fun _ _ _ h => h) (by rfl) ?_ hHeld ?_
      rotate_left
      · (intro w hSw; (try dsimp only at hSw); go_simp; try with_reducible rfl)
      simp only [Act.put, List.setIfInBounds_toArray, List.set_cons_zero, List.set_cons_succ]
      refine wpAnyH_done (by kernel_rfl) ?_ _
      focus
        obtain ⟨k0, k1, k2, k3⟩ := cells4 HZ2.out
        go_wp2_with fail
        rw [HRES.out]
        refine bodyPost_ret (v := .tuple #[hdV G E F L, .bool bb]) (by simp [results, Tryd.results59, go_sem, k0, k1, k2, k3]) rfl ⟨rfl, HB2.out⟩
end
end Go.Proofs.YtibepnilhmbpeaaDoor
namespace Go.Proofs.YtibepnilhmbpeaaDoor
set_option linter.unusedVariables false
set_option linter.unusedSimpArgs false
open Go.RowKit
abbrev pcM : List UInt8 := [104, 108, 121, 80]
def pcA (N : Nat) : List UInt8 := pcM ++ layL N 6
def pcB (N E : Nat) : List UInt8 := pcA N ++ layL E 6
def pcC (N E L : Nat) : List UInt8 := pcB N E ++ layL L 2
def pcD (N E L I : Nat) : List UInt8 := pcC N E L ++ layL I 2
theorem pcA_len (N : Nat) : (pcA N).length = 10 := by simp [pcA, layL_len]
theorem pcB_len (N E : Nat) : (pcB N E).length = 16 := by simp [pcB, pcA_len, layL_len]
theorem pcC_len (N E L : Nat) : (pcC N E L).length = 18 := by simp [pcC, pcB_len, layL_len]
theorem pcD_len (N E L I : Nat) : (pcD N E L I).length = 20 := by simp [pcD, pcC_len, layL_len]
/-- the text of a piece -/
def pcT (N E L I : Nat) (ds : List UInt8) : List UInt8 := sealT (pcD N E L I ++ ds)
theorem pcT_len (N E L I : Nat) (ds : List UInt8) (h : ds.length ≤ 104) : (pcT N E L I ds).length = 128 := sealT_len _ (by rw [List.length_append, pcD_len]; omega)
theorem rd_pcM {w : World} {N : Nat} {fr : Nat × Nat} (hN : w.heap[N]? = some (.cells #[.int .u8 104, .int .u8 108, .int .u8 121, .int .u8 80] 5 fr)) : Rd w (some ⟨N, 0, none⟩) pcM := fun _ => ⟨N, 0, rfl, fun i hi => by
  rw [cell_of_row _ _ _ _ _ _ hN]
  match i, hi with
  | 0, _ => rfl
  | 1, _ => rfl
  | 2, _ => rfl
  | 3, _ => rfl⟩
theorem cells5 {w : World} {g : Nat} {a b c d e : Value} {t : TypeId} {fr : Nat × Nat} (h : w.heap[g]? = some (.cells #[a, b, c, d, e] t fr)) : w.cell? ⟨g, 0, none⟩ = some a ∧ w.cell? ⟨g, 1, none⟩ = some b ∧ w.cell? ⟨g, 2, none⟩ = some c ∧ w.cell? ⟨g, 3, none⟩ = some d ∧ w.cell? ⟨g, 4, none⟩ = some e :=
  ⟨by rw [cell_of_row _ _ _ _ _ _ h]; rfl, by rw [cell_of_row _ _ _ _ _ _ h]; rfl, by rw [cell_of_row _ _ _ _ _ _ h]; rfl, by rw [cell_of_row _ _ _ _ _ _ h]; rfl, by rw [cell_of_row _ _ _ _ _ _ h]; rfl⟩
abbrev pcV (N E L I : Nat) (v : Value) : Value := .agg #[.int .u64 (N : Int), .int .u64 (E : Int), .int .i64 (L : Int), .int .i64 (I : Int), v]
abbrev tPc : TypeId := 108
section
set_option maxRecDepth 20000
set_option maxHeartbeats 6400000
theorem pieceText_t (N E L I : Nat) (ao : Option Addr) (n c : Nat) (ds : List UInt8) (hn : n = ds.length) (hn1 : n ≤ 104) (hnil : ao = none → c = 0) (hN : N < 18446744073709551616) (hE : E < 18446744073709551616) (hL : L < 9223372036854775808) (hI : I < 9223372036854775808) (w : World) (hr : Rd w ao ds) (ht : TabOk w) :
    Calls Tryd.prog 69 #[pcV N E L I (.slice ao n c)] w fun er w' => ∃ v, er = .returned v ∧ Own w' w.heap.size v (pcT N E L I ds) ∧ Below w.heap.size w w' := by
  have HT : Hid (TabOk w) := ht
  have HR : Hid (Rd w ao ds) := hr
  have HN : Hid (n = ds.length) := hn
  obtain ⟨wa, hwa⟩ : ∃ X : World, X = w.alloc (.cells #[.int .u64 (N : Int), .int .u64 (E : Int), .int .i64 (L : Int), .int .i64 (I : Int), .slice ao n c] tPc) := ⟨_, rfl⟩
  obtain ⟨w2, hw2⟩ : ∃ X : World, X = wa.alloc (.cells #[.int .u8 104, .int .u8 108, .int .u8 121, .int .u8 80] 5 (4, 5)) := ⟨_, rfl⟩
  have HBA : Hid (Below w.heap.size w w2) := (show Below _ _ _ by rw [hw2, hwa]; exact alS (alS (Below.refl _ _) _) _)
  have HSA : Hid (wa.heap.size = w.heap.size + 1) := (show _ = _ by rw [hwa]; simp)
  have HO2 : Hid (Rd w2 (some ⟨w.heap.size + 1, 0, none⟩) pcM) := (show Rd _ _ _ by
    rw [hw2, ← HSA.out]
    exact rd_pcM (heap_alloc_new wa _))
  have HCL : Hid (∀ u, Below w2.heap.size w2 u → u.cell? ⟨w.heap.size, 0, none⟩ = some (.int .u64 (N : Int)) ∧ u.cell? ⟨w.heap.size, 1, none⟩ = some (.int .u64 (E : Int)) ∧ u.cell? ⟨w.heap.size, 2, none⟩ = some (.int .i64 (L : Int)) ∧ u.cell? ⟨w.heap.size, 3, none⟩ = some (.int .i64 (I : Int)) ∧ u.cell? ⟨w.heap.size, 4, none⟩ = some (.slice ao n c)) := (fun u hu => cells5 (t := tPc) (fr := (0, 0)) (below_blk hu (by
    rw [hw2]
    exact below_blk (alS (Below.refl _ _) _) (by rw [hwa]; exact heap_alloc_new _ _))))
  have hcv := Go.Joins.run_convert_bytes_const_at (P := Tryd.prog) wa 27 5 #[.int .u8 104, .int .u8 108, .int .u8 121, .int .u8 80] 4 4 (w.heap.size + 1) (by rw [HSA.out]) Tryd.underlying27 Tryd.underlying5
  rw [hwa] at hcv
  rw [hwa] at hw2
  clear hr ht hn
  go_enter Tryd.func69, Tryd.ntmps69
  go_wp2_with fail
  rw [← hw2]
  clear hw2 hcv
  refine Calls.mono (lay_f (w.heap.size + 1) 4 pcM rfl N 6 w2 HO2.out hN (by decide) (by decide)) ?_
  rintro er w3 ⟨v3, rfl, ho, hb⟩
  obtain ⟨a3, c3, hv, -⟩ := Own.val ho
  rw [show (pcM ++ layL N 6).length = 10 from pcA_len N] at hv
  subst hv
  have HO3 : Hid (Own w3 w2.heap.size (.slice a3 10 c3) (pcA N)) := ho
  have HB3 : Hid (Below w2.heap.size w2 w3) := hb
  obtain ⟨k0, k1, k2, k3, k4⟩ := HCL.out w3 HB3.out
  clear ho hb
  go_wp2_with fail
  refine Calls.mono (slay_t w2.heap.size _ (pcA N) E 6 w3 HO3.out (by omega) (by decide) (by rw [pcA_len]; decide) HB3.out.size) ?_
  rintro er w4 ⟨v4, rfl, ho, hb⟩
  obtain ⟨a4, c4, hv, -⟩ := Own.val ho
  rw [show ((pcA N) ++ layL E 6).length = 16 by rw [List.length_append, pcA_len, layL_len]] at hv
  subst hv
  have HO4 : Hid (Own w4 w2.heap.size (.slice a4 16 c4) (pcB N E)) := ho
  have HB4 : Hid (Below w2.heap.size w2 w4) := HB3.out.trans hb
  obtain ⟨k0, k1, k2, k3, k4⟩ := HCL.out w4 HB4.out
  clear ho hb
  go_wp2_with fail
  refine Calls.mono (slay_t w2.heap.size _ (pcB N E) L 2 w4 HO4.out (by omega) (by decide) (by rw [pcB_len]; decide) HB4.out.size) ?_
  rintro er w5 ⟨v5, rfl, ho, hb⟩
  obtain ⟨a5, c5, hv, -⟩ := Own.val ho
  rw [show ((pcB N E) ++ layL L 2).length = 18 by rw [List.length_append, pcB_len, layL_len]] at hv
  subst hv
  have HO5 : Hid (Own w5 w2.heap.size (.slice a5 18 c5) (pcC N E L)) := ho
  have HB5 : Hid (Below w2.heap.size w2 w5) := HB4.out.trans hb
  obtain ⟨k0, k1, k2, k3, k4⟩ := HCL.out w5 HB5.out
  clear ho hb
  go_wp2_with fail
  refine Calls.mono (slay_t w2.heap.size _ (pcC N E L) I 2 w5 HO5.out (by omega) (by decide) (by rw [pcC_len]; decide) HB5.out.size) ?_
  rintro er w6 ⟨v6, rfl, ho, hb⟩
  obtain ⟨a6, c6, hv, -⟩ := Own.val ho
  rw [show ((pcC N E L) ++ layL I 2).length = 20 by rw [List.length_append, pcC_len, layL_len]] at hv
  subst hv
  have HO6 : Hid (Own w6 w2.heap.size (.slice a6 20 c6) (pcD N E L I)) := ho
  have HB6 : Hid (Below w2.heap.size w2 w6) := HB5.out.trans hb
  obtain ⟨k0, k1, k2, k3, k4⟩ := HCL.out w6 HB6.out
  clear ho hb
  have HRD : Hid (Rd w6 ao ds) := Rd.below HR.out (below_next HBA.out HB6.out)
  go_wp2_with (at_builtin; refine wp_app rfl _ _ rfl w2.heap.size _ (pcD N E L I) ds ao c rfl HO6.out (by rw [← HN.out]; rfl) HRD.out hnil (by rw [pcD_len, ← HN.out]; omega) HB6.out.size ?_; intro v7 w7 ho hg; obtain ⟨a7, c7, hv, -⟩ := Own.val ho; rw [show (pcD N E L I ++ ds).length = 20 + n by rw [List.length_append, pcD_len, HN.out]] at hv; subst hv; have HO7 : Hid (Own w7 w2.heap.size (.slice a7 (20 + n) c7) (pcD N E L I ++ ds)) := ho; have HB7 : Hid (Below w2.heap.size w2 w7) := HB6.out.grown hg HB6.out.size (fun q hq => (World.ownsRow.lt HO6.out q hq).1); clear ho hg)
  have HBW : Hid (Below w.heap.size w w7) := below_next HBA.out HB7.out
  refine Calls.mono (sealed_t a7 (20 + n) c7 (pcD N E L I ++ ds) (by rw [List.length_append, pcD_len, HN.out]) w7 (Rd.of_own HO7.out) (by omega) (HT.out.below HBW.out)) ?_
  rintro er w8 ⟨v8, rfl, ho8, hb8⟩
  obtain ⟨a8, c8, hv, -⟩ := Own.val ho8
  rw [show (sealT (pcD N E L I ++ ds)).length = 128 from pcT_len N E L I ds (by rw [← HN.out]; exact hn1)] at hv
  subst hv
  have HO8 : Hid (Own w8 w.heap.size (.slice a8 128 c8) (pcT N E L I ds)) := Own.base ho8 HBW.out.size
  have HB8 : Hid (Below w.heap.size w w8) := below_next HBW.out hb8
  clear ho8 hb8
  go_wp2
  go_ret
  exact ⟨_, rfl, HO8.out, HB8.out⟩
end
end Go.Proofs.YtibepnilhmbpeaaDoor
namespace Go.Proofs.YtibepnilhmbpeaaDoor
set_option linter.unusedVariables false
set_option linter.unusedSimpArgs false
open Go.RowKit
/-- sectors of a record of so many bytes -/
def needS (L : Nat) : Nat := if 8192 < L then 0 else max 1 ((L + 103) / 104)
theorem hdN_lt2 (xs : List UInt8) (i : Nat) : hdN xs i 2 < 65536 := by
  unfold hdN
  have h := lowS_lt ((xs.drop i).take 2)
  have h2 : ((xs.drop i).take 2).length ≤ 2 := by rw [List.length_take]; omega
  have h3 : 256 ^ ((xs.drop i).take 2).length ≤ 256 ^ 2 := Nat.pow_le_pow_right (by decide) h2
  have h4 : (256 : Nat) ^ 2 = 65536 := by decide
  omega
theorem needS_in (L I : Nat) (h : I < needS L) : I * 104 ≤ L ∧ L ≤ 8192 := by
  unfold needS at h
  split at h
  · omega
  · omega
section
set_option maxRecDepth 20000
set_option maxHeartbeats 6400000
theorem need_t (L : Nat) (hL : L < 9223372036854775808) (w : World) :
    Calls Tryd.prog 11 #[.int .i64 (L : Int)] w fun er w' => er = .returned (.int .i64 ((needS L : Nat) : Int)) ∧ w' = w := by
  have h0 : ¬ (L : Int) < 0 := by omega
  by_cases h : 8192 < L
  · have h1 : (8192 : Int) < (L : Int) := by omega
    have HS : Hid (needS L = 0) := if_pos h
    go_enter Tryd.func11, Tryd.ntmps11
    go_wp2
    go_ret
    rw [HS.out]
    exact ⟨rfl, rfl⟩
  · have h1 : ¬ (8192 : Int) < (L : Int) := by omega
    have HS : Hid (needS L = max 1 ((L + 103) / 104)) := if_neg h
    have h2 : (L : Int) ≤ 8192 := by omega
    have h3 : (L : Int) + 104 - 1 = ((L + 103 : Nat) : Int) := by omega
    go_enter Tryd.func11, Tryd.ntmps11
    go_wp2
    all_goals go_ret
    all_goals rw [HS.out]
    all_goals refine ⟨?_, rfl⟩
    · show Ending.returned (Value.int IntKind.i64 (((L : Int) + 103) / 104)) = _
      rw [show ((max 1 ((L + 103) / 104) : Nat) : Int) = ((L : Int) + 103) / 104 by omega]
    · show Ending.returned (Value.int IntKind.i64 1) = _
      rw [show ((max 1 ((L + 103) / 104) : Nat) : Int) = 1 by omega]
abbrev lbV (N E L I : Nat) : Value := .agg #[.int .u64 (N : Int), .int .u64 (E : Int), .int .i64 (L : Int), .int .i64 (I : Int)]
theorem span_t (N E L I : Nat) (hL : L < 9223372036854775808) (hI : I ≤ 65536) (w : World) :
    Calls Tryd.prog 52 #[lbV N E L I] w fun er w' => er = .returned (.tuple #[.int .i64 ((I * 104 : Nat) : Int), .int .i64 ((min (I * 104 + 104) L : Nat) : Int)]) ∧ Below w.heap.size w w' := by
  have h1 : (I : Int) * 104 + 104 < 9000000 := by omega
  by_cases h : I * 104 + 104 ≤ L
  · have HM : Hid (min (I * 104 + 104) L = I * 104 + 104) := Nat.min_eq_left h
    have h2 : (I : Int) * 104 + 104 ≤ (L : Int) := by omega
    go_enter Tryd.func52, Tryd.ntmps52
    go_wp2
    go_region
    all_goals go_wp2
    all_goals go_ret2
    all_goals refine ⟨?_, alS (Below.refl _ _).drew _⟩
    rw [HM.out]
    show Ending.returned (.tuple #[.int .i64 ((I : Int) * 104), .int .i64 ((I : Int) * 104 + 104)]) = _
    rw [show ((I * 104 + 104 : Nat) : Int) = (I : Int) * 104 + 104 by omega, show ((I * 104 : Nat) : Int) = (I : Int) * 104 by omega]
  · have HM : Hid (min (I * 104 + 104) L = L) := Nat.min_eq_right (by omega)
    have h2 : ¬ (I : Int) * 104 + 104 ≤ (L : Int) := by omega
    go_enter Tryd.func52, Tryd.ntmps52
    go_wp2
    go_region
    all_goals go_wp2
    all_goals go_ret2
    all_goals refine ⟨?_, alS (Below.refl _ _).drew _⟩
    rw [HM.out]
    show Ending.returned (.tuple #[.int .i64 ((I : Int) * 104), .int .i64 (L : Int)]) = _
    rw [show ((I * 104 : Nat) : Int) = (I : Int) * 104 by omega]
theorem part_t (N E L I i : Nat) (hN : N + i < 18446744073709551616) (hi : i < 9223372036854775808) (w : World) :
    Calls Tryd.prog 51 #[lbV N E L I, .int .i64 (i : Int)] w fun er w' => er = .returned (lbV (N + i) E L i) ∧ Below w.heap.size w w' := by
  have hw1 : IntKind.u64.wrap (i : Int) = (i : Int) := by rw [IntKind.wrap_u64]; omega
  have hw2 : IntKind.u64.wrap ((N : Int) + (i : Int)) = (N : Int) + (i : Int) := by rw [IntKind.wrap_u64]; omega
  go_enter Tryd.func51, Tryd.ntmps51
  go_wp2
  refine bodyPost_ret (v := lbV (N + i) E L i) (by simp [results, Tryd.results51, go_sem]) rfl ⟨rfl, alS (alS (Below.refl _ _) _) _⟩
end
end Go.Proofs.YtibepnilhmbpeaaDoor
