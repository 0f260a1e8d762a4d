import Derived.Test.YtibolgpaolnheabNT
namespace Go.Proofs.Ytibolgpaolnheab
set_option linter.unusedVariables false
set_option linter.unusedSimpArgs false
open Go.RowKit Go.Shelf
theorem info_op4 : (Try.prog.info? tOp).map (·.size) = some 4 := by kernel_rfl
section
set_option maxRecDepth 20000
set_option maxHeartbeats 6400000
theorem ask0_t {w : World} {x : Value} (h : Zero w x) (kd : Int) (s1 s2 n : Nat) : Calls Try.prog 10 #[x, opw kd s1 s2 n] w fun e w' => ∃ v, e = .returned v ∧ OwnU w' w.heap.size v (nilL kd) ∧ Below w.heap.size w w' := by
  obtain ⟨w1, hw1⟩ : ∃ X : World, X = w.alloc (.cells #[.int .i64 kd, .int .u64 (s1 : Int), .int .u64 (s2 : Int), .int .u64 (n : Int)] tOp) := ⟨_, rfl⟩
  have HB1 : Hid (Below w.heap.size w w1) := (show Below w.heap.size w w1 by rw [hw1]; exact al (Below.refl _ _) _)
  have HX1 : Hid (w1.heap[w.heap.size]? = some (.cells #[.int .i64 kd, .int .u64 (s1 : Int), .int .u64 (s2 : Int), .int .u64 (n : Int)] tOp (0, 0))) := (show _ = _ by rw [hw1]; exact heap_alloc_new w _)
  have HLD : Hid ((w.alloc (.cells #[.int .i64 kd, .int .u64 (s1 : Int), .int .u64 (s2 : Int), .int .u64 (n : Int)] tOp)).rangeAt w.heap.size 1 (sc (s1, s2))) := (show World.rangeAt _ _ _ _ by
    rw [← hw1]
    exact box_off HX1.out)
  have HLO : Hid ((w.alloc (.cells #[.int .i64 kd, .int .u64 (s1 : Int), .int .u64 (s2 : Int), .int .u64 (n : Int)] tOp)).rangeAt w.heap.size 0 [.int .i64 kd, .int .u64 (s1 : Int), .int .u64 (s2 : Int), .int .u64 (n : Int)]) := (show World.rangeAt _ _ _ _ by
    rw [← hw1]
    exact box_range HX1.out)
  have HW1 : Hid (w1 = w.alloc (.cells #[.int .i64 kd, .int .u64 (s1 : Int), .int .u64 (s2 : Int), .int .u64 (n : Int)] tOp)) := hw1
  have HAB : Hid (∀ ob, Below w.heap.size w (w.alloc ob)) := fun ob => al (Below.refl _ _) _
  have HZ : Hid (∀ ob, Zero (w.alloc ob) x) := fun ob => h.below (al (Below.refl _ _) _)
  obtain ⟨px, rfl⟩ : ∃ g, x = .pointer g := by rcases h with rfl | ⟨g, rfl, -⟩ <;> exact ⟨_, rfl⟩
  clear hw1 h
  go_enter Try.func10, Try.ntmps10
  by_cases h1 : kd = 1
  · subst h1
    go_wp2_with (first | (refine wpList_load_mid rfl tSt _ rfl w.heap.size 1 rfl (sc (s1, s2)) _ HLD.out Try.underlying33 rfl info_st ?_))
    refine Calls.mono (put0_t (HZ.out _) (s1, s2) n) ?_
    rintro e w2 ⟨rfl, hb⟩
    have HB2 : Hid (Below w.heap.size w w2) := below_next (HAB.out _) hb
    clear hb
    go_wp2_with fail
    refine Calls.mono (bit_f _) ?_
    rintro e w9 ⟨rfl, hw9⟩
    subst hw9
    go_wp2
    go_ret
    exact ⟨_, rfl, OwnU.lit w9 HB2.out.size [0] 1 rfl (by decide), HB2.out.alloc HB2.out.size _⟩
  · have g1 : (kd == 1) = false := by simpa using h1
    by_cases h2 : kd = 2
    · subst h2
      go_wp2_with (first | (refine wpList_load_mid rfl tSt _ rfl w.heap.size 1 rfl (sc (s1, s2)) _ HLD.out Try.underlying33 rfl info_st ?_))
      refine Calls.mono (remove0_t (HZ.out _) s1 s2) ?_
      rintro e w2 ⟨rfl, hb⟩
      have HB2 : Hid (Below w.heap.size w w2) := below_next (HAB.out _) hb
      clear hb
      go_wp2_with fail
      refine Calls.mono (bit_f _) ?_
      rintro e w9 ⟨rfl, hw9⟩
      subst hw9
      go_wp2
      go_ret
      exact ⟨_, rfl, OwnU.lit w9 HB2.out.size [0, 0] 2 rfl (by decide), HB2.out.alloc HB2.out.size _⟩
    · have g2 : (kd == 2) = false := by simpa using h2
      by_cases h3 : kd = 3
      · subst h3
        go_wp2_with (first | (refine wpList_load_mid rfl tSt _ rfl w.heap.size 1 rfl (sc (s1, s2)) _ HLD.out Try.underlying33 rfl info_st ?_))
        refine Calls.mono (get0_t (HZ.out _) s1 s2) ?_
        rintro e w2 ⟨rfl, hb⟩
        have HB2 : Hid (Below w.heap.size w w2) := below_next (HAB.out _) hb
        clear hb
        go_wp2_with fail
        refine Calls.mono (bit_f _) ?_
        rintro e w9 ⟨rfl, hw9⟩
        subst hw9
        go_wp2
        go_ret
        exact ⟨_, rfl, OwnU.lit w9 HB2.out.size [0, 0] 2 rfl (by decide), HB2.out.alloc HB2.out.size _⟩
      · have g3 : (kd == 3) = false := by simpa using h3
        by_cases h4 : kd = 4
        · subst h4
          go_wp2_with fail
          rw [← HW1.out]
          have HL9 : Hid _ := len_t (.pointer px) none 0 0 [] w1 (show Zero w1 _ by rw [HW1.out]; exact HZ.out _).pg rfl (fun j hj => absurd hj (Nat.not_lt_zero _)) (by decide) (fun p hp => by cases hp)
          refine Calls.mono HL9.out ?_
          rintro e w9 ⟨rfl, hw9⟩
          subst hw9
          go_wp2
          go_ret
          exact ⟨_, rfl, OwnU.lit w9 HB1.out.size [0] 1 rfl (by decide), HB1.out.alloc HB1.out.size _⟩
        · have g4 : (kd == 4) = false := by simpa using h4
          by_cases h5 : kd = 5
          · subst h5
            go_wp2_with fail
            rw [← HW1.out]
            have HL9 : Hid _ := pages_t (.pointer px) none 0 0 [] w1 (show Zero w1 _ by rw [HW1.out]; exact HZ.out _).pg rfl (fun j hj => absurd hj (Nat.not_lt_zero _)) (by decide)
            refine Calls.mono HL9.out ?_
            rintro e w2 ⟨v2, rfl, hrow, hb⟩
            have HB2 : Hid (Below w.heap.size w w2) := below_next HB1.out hb
            obtain ⟨a2, c2, rfl⟩ : ∃ a c, v2 = .slice a 0 c := (by
              rcases hrow.2 with ⟨rfl, -⟩ | ⟨g, cap, cur, rfl, -⟩
              · exact ⟨_, _, rfl⟩
              · exact ⟨_, _, rfl⟩)
            clear hrow hb HL9
            go_wp2_with fail
            go_loopw [5, 13] (fun l i wr => l = .slice none 0 0 ∧ i = .int .i64 0 ∧ Below w.heap.size w wr) (fun _ _ _ => 0)
            case atStart => exact ⟨rfl, rfl, HB2.out⟩
            case round =>
              obtain ⟨rfl, rfl, hb⟩ := hrel
              have HB3 : Hid (Below w.heap.size w wr) := hb
              clear hb
              go_wp2
              go_ret
              exact ⟨_, rfl, OwnU.nil _ _, HB3.out⟩
          · have g5 : (kd == 5) = false := by simpa using h5
            by_cases h6 : kd = 6
            · subst h6
              go_wp2_with (first | (refine wpList_load_mid rfl tSt _ rfl w.heap.size 1 rfl (sc (s1, s2)) _ HLD.out Try.underlying33 rfl info_st ?_))
              refine Calls.mono (place0_t (HZ.out _) (s1, s2)) ?_
              rintro e w2 ⟨rfl, hb⟩
              have HB2 : Hid (Below w.heap.size w w2) := below_next (HAB.out _) hb
              clear hb
              go_wp2_with fail
              refine Calls.mono (bit_f _) ?_
              rintro e w9 ⟨rfl, hw9⟩
              subst hw9
              go_wp2
              go_ret
              exact ⟨_, rfl, OwnU.lit w9 HB2.out.size [0, 0, 0] 3 rfl (by decide), HB2.out.alloc HB2.out.size _⟩
            · have g6 : (kd == 6) = false := by simpa using h6
              by_cases h7 : kd = 7
              · subst h7
                go_wp2_with (first | (refine wpList_load_mid rfl tSt _ rfl w.heap.size 1 rfl (sc (s1, s2)) _ HLD.out Try.underlying33 rfl info_st ?_))
                refine Calls.mono (least0_t (.pointer px) none 0 (.inl ⟨rfl, rfl⟩) s1 s2 _ (HZ.out _).pg) ?_
                rintro e w2 ⟨rfl, hb⟩
                have HB2 : Hid (Below w.heap.size w w2) := below_next (HAB.out _) hb
                clear hb
                obtain ⟨w3, hw3⟩ : ∃ Y : World, Y = w2.alloc (.cells #[.int .u64 0, .int .u64 0] tSt) := ⟨_, rfl⟩
                have HB3 : Hid (Below w.heap.size w w3) := (show Below _ _ _ by rw [hw3]; exact HB2.out.alloc HB2.out.size _)
                have HX3 : Hid (w3.heap[w2.heap.size]? = some (.cells #[.int .u64 0, .int .u64 0] tSt (0, 0))) := (show _ = _ by rw [hw3]; exact heap_alloc_new w2 _)
                have hl3 : ∀ u, Below w3.heap.size w3 u → (Instr.loadAt tSt (.pointer (some ⟨w2.heap.size, 0, none⟩))).run Try.prog u = .ok (sv (0, 0)) u := fun u hu => load_st u _ _ (0, 0) (rangeAt_below (box_range HX3.out) hu)
                go_upto_region 27 with fail
                rw [← hw3]
                clear hw3
                refine wp_region_held_drew (S := (fun u => Below w3.heap.size w3 u)) (by kernel_rfl) (by first | exact (Below.refl _ _).drew | assumption | exact al (Below.refl _ _).drew _) (fun hHeld => ?_)
                refine take_at (i := 0) 115 (v := ?_) rfl rfl (by kernel_rfl) (by kernel_rfl) (by kernel_rfl) (fun _ _ _ h => h) (by rfl) ?_ hHeld ?_
                rotate_left
                · (intro w hSw; (try dsimp only at hSw); go_simp; try with_reducible rfl)
                simp only [Act.put, List.setIfInBounds_toArray, List.set_cons_zero, List.set_cons_succ]
                refine take_at (i := 3) 118 (v := sv (0, 0)) rfl rfl (by kernel_rfl) (by kernel_rfl) (by kernel_rfl) (fun _ _ _ h => h) (by rfl) ?_ hHeld ?_
                · (intro w hSw; refine exec_load (by rfl) ?_; exact hl3 w hSw)
                simp only [Act.put, List.setIfInBounds_toArray, List.set_cons_zero, List.set_cons_succ]
                refine take_at (i := 4) 119 (v := ?_) rfl rfl (by kernel_rfl) (by kernel_rfl) (by kernel_rfl) (fun _ _ _ h => h) (by rfl) ?_ hHeld ?_
                rotate_left
                · (intro w hSw; (try dsimp only at hSw); go_simp; try with_reducible rfl)
                simp only [Act.put, List.setIfInBounds_toArray, List.set_cons_zero, List.set_cons_succ]
                refine run_at (i := 1) rfl (by kernel_rfl) (by rfl) (fun K hK => ?_)
                simp only [List.getElem_toArray, List.getElem_cons_zero, List.getElem_cons_succ]
                go_simp
                first | (go_at_call 22; refine Calls.mono (bit_f _) ?_; rintro e w9 ⟨rfl, hw9⟩; subst hw9) | (go_at_call 27; refine Calls.mono (two_t (B := w3.heap.size) _ [0] 0 0 0 _ (OwnU.lit w3.drew (Nat.le_refl _) [0] 1 rfl (by decide)) (al (Below.refl _ _).drew _).size (by decide)) ?_; rintro e w4 ⟨v4, rfl, hu4, hb⟩; have hb4 : Below w3.heap.size w3 w4 := (al (Below.refl w3.heap.size w3).drew _).trans hb; have HU4 : Hid (OwnU w4 w3.heap.size v4 [0, 0, 0, 0]) := hu4; obtain ⟨a4, c4, rfl, -⟩ := OwnU.val hu4; clear hb hu4)
                go_wp2_with fail
                refine hK.out _ _ (by first | exact (Below.refl _ _).drew | assumption | exact al (Below.refl _ _).drew _) ?_
                clear hK K
                intro hHeld2
                clear hHeld
                have hHeld := hHeld2
                clear hHeld2
                try simp only [Act.put, List.setIfInBounds_toArray, List.set_cons_zero, List.set_cons_succ]
                refine run_at (i := 2) rfl (by kernel_rfl) (by rfl) (fun K hK => ?_)
                simp only [List.getElem_toArray, List.getElem_cons_zero, List.getElem_cons_succ]
                go_simp
                go_wp2_with fail
                refine hK.out _ _ (by first | exact (Below.refl _ _).drew | assumption | exact al (Below.refl _ _).drew _) ?_
                clear hK K
                intro hHeld2
                clear hHeld
                have hHeld := hHeld2
                clear hHeld2
                try simp only [Act.put, List.setIfInBounds_toArray, List.set_cons_zero, List.set_cons_succ]
                refine run_at (i := 5) rfl (by kernel_rfl) (by rfl) (fun K hK => ?_)
                simp only [List.getElem_toArray, List.getElem_cons_zero, List.getElem_cons_succ]
                go_simp
                first | (go_at_call 22; refine Calls.mono (bit_f _) ?_; rintro e w9 ⟨rfl, hw9⟩; subst hw9) | (go_at_call 27; refine Calls.mono (two_t (B := w3.heap.size) _ [0] 0 0 0 _ (OwnU.lit w3.drew (Nat.le_refl _) [0] 1 rfl (by decide)) (al (Below.refl _ _).drew _).size (by decide)) ?_; rintro e w4 ⟨v4, rfl, hu4, hb⟩; have hb4 : Below w3.heap.size w3 w4 := (al (Below.refl w3.heap.size w3).drew _).trans hb; have HU4 : Hid (OwnU w4 w3.heap.size v4 [0, 0, 0, 0]) := hu4; obtain ⟨a4, c4, rfl, -⟩ := OwnU.val hu4; clear hb hu4)
                go_wp2_with fail
                refine hK.out _ _ (by first | exact (Below.refl _ _).drew | assumption | exact al (Below.refl _ _).drew _) ?_
                clear hK K
                intro hHeld2
                clear hHeld
                have hHeld := hHeld2
                clear hHeld2
                try simp only [Act.put, List.setIfInBounds_toArray, List.set_cons_zero, List.set_cons_succ]
                refine take_at (i := 6) 4 (v := ?_) rfl rfl (by kernel_rfl) (by kernel_rfl) (by kernel_rfl) (fun _ _ _ h => h) (by rfl) ?_ hHeld ?_
                rotate_left
                · (intro w hSw; (try dsimp only at hSw); go_simp; try with_reducible rfl)
                simp only [Act.put, List.setIfInBounds_toArray, List.set_cons_zero, List.set_cons_succ]
                refine wpAnyH_done (by kernel_rfl) ?_ _
                have HB4 : Hid (Below w.heap.size w w4) := below_next HB3.out hb4
                clear hb4 hl3
                go_wp2
                go_ret
                exact ⟨_, rfl, OwnU.base HU4.out HB3.out.size, HB4.out⟩
              · have g7 : (kd == 7) = false := by simpa using h7
                by_cases h8 : kd = 8
                · subst h8
                  go_wp2_with (first | (refine wpList_load_mid rfl tSt _ rfl w.heap.size 1 rfl (sc (s1, s2)) _ HLD.out Try.underlying33 rfl info_st ?_))
                  refine Calls.mono (greatest0_t (.pointer px) none 0 (.inl ⟨rfl, rfl⟩) s1 s2 _ (HZ.out _).pg) ?_
                  rintro e w2 ⟨rfl, hb⟩
                  have HB2 : Hid (Below w.heap.size w w2) := below_next (HAB.out _) hb
                  clear hb
                  obtain ⟨w3, hw3⟩ : ∃ Y : World, Y = w2.alloc (.cells #[.int .u64 0, .int .u64 0] tSt) := ⟨_, rfl⟩
                  have HB3 : Hid (Below w.heap.size w w3) := (show Below _ _ _ by rw [hw3]; exact HB2.out.alloc HB2.out.size _)
                  have HX3 : Hid (w3.heap[w2.heap.size]? = some (.cells #[.int .u64 0, .int .u64 0] tSt (0, 0))) := (show _ = _ by rw [hw3]; exact heap_alloc_new w2 _)
                  have hl3 : ∀ u, Below w3.heap.size w3 u → (Instr.loadAt tSt (.pointer (some ⟨w2.heap.size, 0, none⟩))).run Try.prog u = .ok (sv (0, 0)) u := fun u hu => load_st u _ _ (0, 0) (rangeAt_below (box_range HX3.out) hu)
                  go_upto_region 30 with fail
                  rw [← hw3]
                  clear hw3
                  refine wp_region_held_drew (S := (fun u => Below w3.heap.size w3 u)) (by kernel_rfl) (by first | exact (Below.refl _ _).drew | assumption | exact al (Below.refl _ _).drew _) (fun hHeld => ?_)
                  refine take_at (i := 0) 131 (v := ?_) rfl rfl (by kernel_rfl) (by kernel_rfl) (by kernel_rfl) (fun _ _ _ h => h) (by rfl) ?_ hHeld ?_
                  rotate_left
                  · (intro w hSw; (try dsimp only at hSw); go_simp; try with_reducible rfl)
                  simp only [Act.put, List.setIfInBounds_toArray, List.set_cons_zero, List.set_cons_succ]
                  refine take_at (i := 3) 134 (v := sv (0, 0)) rfl rfl (by kernel_rfl) (by kernel_rfl) (by kernel_rfl) (fun _ _ _ h => h) (by rfl) ?_ hHeld ?_
                  · (intro w hSw; refine exec_load (by rfl) ?_; exact hl3 w hSw)
                  simp only [Act.put, List.setIfInBounds_toArray, List.set_cons_zero, List.set_cons_succ]
                  refine take_at (i := 4) 135 (v := ?_) rfl rfl (by kernel_rfl) (by kernel_rfl) (by kernel_rfl) (fun _ _ _ h => h) (by rfl) ?_ hHeld ?_
                  rotate_left
                  · (intro w hSw; (try dsimp only at hSw); go_simp; try with_reducible rfl)
                  simp only [Act.put, List.setIfInBounds_toArray, List.set_cons_zero, List.set_cons_succ]
                  refine run_at (i := 1) rfl (by kernel_rfl) (by rfl) (fun K hK => ?_)
                  simp only [List.getElem_toArray, List.getElem_cons_zero, List.getElem_cons_succ]
                  go_simp
                  first | (go_at_call 22; refine Calls.mono (bit_f _) ?_; rintro e w9 ⟨rfl, hw9⟩; subst hw9) | (go_at_call 27; refine Calls.mono (two_t (B := w3.heap.size) _ [0] 0 0 0 _ (OwnU.lit w3.drew (Nat.le_refl _) [0] 1 rfl (by decide)) (al (Below.refl _ _).drew _).size (by decide)) ?_; rintro e w4 ⟨v4, rfl, hu4, hb⟩; have hb4 : Below w3.heap.size w3 w4 := (al (Below.refl w3.heap.size w3).drew _).trans hb; have HU4 : Hid (OwnU w4 w3.heap.size v4 [0, 0, 0, 0]) := hu4; obtain ⟨a4, c4, rfl, -⟩ := OwnU.val hu4; clear hb hu4)
                  go_wp2_with fail
                  refine hK.out _ _ (by first | exact (Below.refl _ _).drew | assumption | exact al (Below.refl _ _).drew _) ?_
                  clear hK K
                  intro hHeld2
                  clear hHeld
                  have hHeld := hHeld2
                  clear hHeld2
                  try simp only [Act.put, List.setIfInBounds_toArray, List.set_cons_zero, List.set_cons_succ]
                  refine run_at (i := 2) rfl (by kernel_rfl) (by rfl) (fun K hK => ?_)
                  simp only [List.getElem_toArray, List.getElem_cons_zero, List.getElem_cons_succ]
                  go_simp
                  go_wp2_with fail
                  refine hK.out _ _ (by first | exact (Below.refl _ _).drew | assumption | exact al (Below.refl _ _).drew _) ?_
                  clear hK K
                  intro hHeld2
                  clear hHeld
                  have hHeld := hHeld2
                  clear hHeld2
                  try simp only [Act.put, List.setIfInBounds_toArray, List.set_cons_zero, List.set_cons_succ]
                  refine run_at (i := 5) rfl (by kernel_rfl) (by rfl) (fun K hK => ?_)
                  simp only [List.getElem_toArray, List.getElem_cons_zero, List.getElem_cons_succ]
                  go_simp
                  first | (go_at_call 22; refine Calls.mono (bit_f _) ?_; rintro e w9 ⟨rfl, hw9⟩; subst hw9) | (go_at_call 27; refine Calls.mono (two_t (B := w3.heap.size) _ [0] 0 0 0 _ (OwnU.lit w3.drew (Nat.le_refl _) [0] 1 rfl (by decide)) (al (Below.refl _ _).drew _).size (by decide)) ?_; rintro e w4 ⟨v4, rfl, hu4, hb⟩; have hb4 : Below w3.heap.size w3 w4 := (al (Below.refl w3.heap.size w3).drew _).trans hb; have HU4 : Hid (OwnU w4 w3.heap.size v4 [0, 0, 0, 0]) := hu4; obtain ⟨a4, c4, rfl, -⟩ := OwnU.val hu4; clear hb hu4)
                  go_wp2_with fail
                  refine hK.out _ _ (by first | exact (Below.refl _ _).drew | assumption | exact al (Below.refl _ _).drew _) ?_
                  clear hK K
                  intro hHeld2
                  clear hHeld
                  have hHeld := hHeld2
                  clear hHeld2
                  try simp only [Act.put, List.setIfInBounds_toArray, List.set_cons_zero, List.set_cons_succ]
                  refine take_at (i := 6) 4 (v := ?_) rfl rfl (by kernel_rfl) (by kernel_rfl) (by kernel_rfl) (fun _ _ _ h => h) (by rfl) ?_ hHeld ?_
                  rotate_left
                  · (intro w hSw; (try dsimp only at hSw); go_simp; try with_reducible rfl)
                  simp only [Act.put, List.setIfInBounds_toArray, List.set_cons_zero, List.set_cons_succ]
                  refine wpAnyH_done (by kernel_rfl) ?_ _
                  have HB4 : Hid (Below w.heap.size w w4) := below_next HB3.out hb4
                  clear hb4 hl3
                  go_wp2
                  go_ret
                  exact ⟨_, rfl, OwnU.base HU4.out HB3.out.size, HB4.out⟩
                · have g8 : (kd == 8) = false := by simpa using h8
                  by_cases h9 : kd = 9
                  · subst h9
                    go_wp2_with (first | (refine wpList_load_mid rfl tOp _ rfl w.heap.size 0 rfl [.int .i64 9, .int .u64 (s1 : Int), .int .u64 (s2 : Int), .int .u64 (n : Int)] _ HLO.out Try.underlying35 rfl info_op4 ?_))
                    refine Calls.mono (along0_t (HZ.out _) 9 s1 s2 n) ?_
                    rintro e w2 ⟨rfl, hb⟩
                    have HB2 : Hid (Below w.heap.size w w2) := below_next (HAB.out _) hb
                    clear hb
                    go_wp2
                    go_ret
                    exact ⟨_, rfl, OwnU.nil _ _, HB2.out⟩
                  · have g9 : (kd == 9) = false := by simpa using h9
                    by_cases h10 : kd = 10
                    · subst h10
                      go_wp2_with (first | (refine wpList_load_mid rfl tOp _ rfl w.heap.size 0 rfl [.int .i64 10, .int .u64 (s1 : Int), .int .u64 (s2 : Int), .int .u64 (n : Int)] _ HLO.out Try.underlying35 rfl info_op4 ?_))
                      refine Calls.mono (along0_t (HZ.out _) 10 s1 s2 n) ?_
                      rintro e w2 ⟨rfl, hb⟩
                      have HB2 : Hid (Below w.heap.size w w2) := below_next (HAB.out _) hb
                      clear hb
                      go_wp2
                      go_ret
                      exact ⟨_, rfl, OwnU.nil _ _, HB2.out⟩
                    · have g10 : (kd == 10) = false := by simpa using h10
                      have HNL : Hid (nilL kd = []) := (show _ = _ by unfold nilL; rw [if_neg h1, if_neg h2, if_neg h3, if_neg h4, if_neg h5, if_neg h6, if_neg h7, if_neg h8])
                      go_wp2
                      go_ret
                      exact ⟨_, rfl, by rw [HNL.out]; exact OwnU.nil _ _, HAB.out _⟩
end
end Go.Proofs.Ytibolgpaolnheab
