import Derived.Test.YtnhjkipaclchiabNS
import Derived.Test.YtnhjkipaclchiabQLt
import Derived.Deep.CutRange
namespace Go.Proofs.Ytnhjkipaclchiab
set_option linter.unusedVariables false
set_option linter.unusedSimpArgs false
open Go.RowKit
def nilL (kd : Int) : List Nat := if kd = 1 then [0] else if kd = 2 then [0, 0] else if kd = 3 then [0, 0] else if kd = 4 then [0] else if kd = 5 then [] else if kd = 6 then [0, 0, 0] else if kd = 7 then [0, 0, 0, 0] else if kd = 8 then [0, 0, 0, 0] else []
theorem nilL_len (kd : Int) : (nilL kd).length ≤ 4 := by
  unfold nilL
  repeat' split
  all_goals decide
theorem bit_f (w : World) : Calls Try.prog 22 #[.bool false] w fun e w' => e = .returned (.int .u64 0) ∧ w' = w := bit_t false w
abbrev opw (kd : Int) (s1 s2 n : Nat) : Value := .agg #[.int .i64 kd, .int .u64 (s1 : Int), .int .u64 (s2 : Int), .int .u64 (n : Int)]
theorem box_off {w : World} {b : Nat} {a : Value} {s1 s2 n : Nat} (h : w.heap[b]? = some (.cells #[a, .int .u64 (s1 : Int), .int .u64 (s2 : Int), .int .u64 (n : Int)] tOp (0, 0))) : w.rangeAt b 1 (sc (s1, s2)) := fun j v hv => by
  rw [cell_of_row _ _ _ _ _ _ h]
  match j with
  | 0 => simpa using hv
  | 1 => simpa using hv
  | j + 2 => simp at hv
section
set_option maxRecDepth 20000
set_option maxHeartbeats 6400000
theorem doc0_t (kd : Int) (s1 s2 n : Nat) (w : World) : Calls Try.prog 11 #[.pointer none, opw kd s1 s2 n] w fun e w' => ∃ v, e = .returned v ∧ OwnU w' w.heap.size v (nilL kd) ∧ Below w.heap.size w w' := by
  obtain ⟨w1, hw1⟩ : ∃ X : World, X = w.alloc (.cells #[.int .i64 kd, .int .u64 (s1 : Int), .int .u64 (s2 : Int), .int .u64 (n : Int)] tOp) := ⟨_, rfl⟩
  have HB1 : Hid (Below w.heap.size w w1) := (show Below w.heap.size w w1 by rw [hw1]; exact al (Below.refl _ _) _)
  have HX1 : Hid (w1.heap[w.heap.size]? = some (.cells #[.int .i64 kd, .int .u64 (s1 : Int), .int .u64 (s2 : Int), .int .u64 (n : Int)] tOp (0, 0))) := (show _ = _ by rw [hw1]; exact heap_alloc_new w _)
  have HLD : Hid ((w.alloc (.cells #[.int .i64 kd, .int .u64 (s1 : Int), .int .u64 (s2 : Int), .int .u64 (n : Int)] tOp)).rangeAt w.heap.size 1 (sc (s1, s2))) := (show World.rangeAt _ _ _ _ by
    rw [← hw1]
    exact box_off HX1.out)
  have HW1 : Hid (w1 = w.alloc (.cells #[.int .i64 kd, .int .u64 (s1 : Int), .int .u64 (s2 : Int), .int .u64 (n : Int)] tOp)) := hw1
  have HAB : Hid (∀ ob, Below w.heap.size w (w.alloc ob)) := fun ob => al (Below.refl _ _) _
  clear hw1
  go_enter Try.func11, Try.ntmps11
  by_cases h1 : kd = 1
  · subst h1
    go_wp2_with (first | (refine wpList_load_mid rfl tSt _ rfl w.heap.size 1 rfl (sc (s1, s2)) _ HLD.out Try.underlying33 rfl info_st ?_))
    refine Calls.mono (rput_nil (s1, s2) n _) ?_
    rintro e w2 ⟨rfl, hb⟩
    have HB2 : Hid (Below w.heap.size w w2) := below_next (HAB.out _) hb
    clear hb
    go_wp2_with fail
    refine Calls.mono (bit_f _) ?_
    rintro e w9 ⟨rfl, hw9⟩
    subst hw9
    go_wp2
    go_ret
    exact ⟨_, rfl, OwnU.lit w9 HB2.out.size [0] 1 rfl (by decide), HB2.out.alloc HB2.out.size _⟩
  · have g1 : (kd == 1) = false := by simpa using h1
    by_cases h2 : kd = 2
    · subst h2
      go_wp2_with (first | (refine wpList_load_mid rfl tSt _ rfl w.heap.size 1 rfl (sc (s1, s2)) _ HLD.out Try.underlying33 rfl info_st ?_))
      refine Calls.mono (rremove_nil s1 s2 _) ?_
      rintro e w2 ⟨rfl, hb⟩
      have HB2 : Hid (Below w.heap.size w w2) := below_next (HAB.out _) hb
      clear hb
      go_wp2_with fail
      refine Calls.mono (bit_f _) ?_
      rintro e w9 ⟨rfl, hw9⟩
      subst hw9
      go_wp2
      go_ret
      exact ⟨_, rfl, OwnU.lit w9 HB2.out.size [0, 0] 2 rfl (by decide), HB2.out.alloc HB2.out.size _⟩
    · have g2 : (kd == 2) = false := by simpa using h2
      by_cases h3 : kd = 3
      · subst h3
        go_wp2_with (first | (refine wpList_load_mid rfl tSt _ rfl w.heap.size 1 rfl (sc (s1, s2)) _ HLD.out Try.underlying33 rfl info_st ?_))
        refine Calls.mono (rget_nil s1 s2 _) ?_
        rintro e w2 ⟨rfl, hb⟩
        have HB2 : Hid (Below w.heap.size w w2) := below_next (HAB.out _) hb
        clear hb
        go_wp2_with fail
        refine Calls.mono (bit_f _) ?_
        rintro e w9 ⟨rfl, hw9⟩
        subst hw9
        go_wp2
        go_ret
        exact ⟨_, rfl, OwnU.lit w9 HB2.out.size [0, 0] 2 rfl (by decide), HB2.out.alloc HB2.out.size _⟩
      · have g3 : (kd == 3) = false := by simpa using h3
        by_cases h4 : kd = 4
        · subst h4
          go_wp2_with fail
          rw [← HW1.out]
          refine Calls.mono (rall_nil _) ?_
          rintro e w9 ⟨rfl, hw9⟩
          subst hw9
          go_wp2
          go_ret
          exact ⟨_, rfl, OwnU.lit w9 HB1.out.size [0] 1 rfl (by decide), HB1.out.alloc HB1.out.size _⟩
        · have g4 : (kd == 4) = false := by simpa using h4
          by_cases h5 : kd = 5
          · subst h5
            go_wp2_with fail
            rw [← HW1.out]
            refine Calls.mono (rpages_nil _) ?_
            rintro e w9 ⟨rfl, hw9⟩
            subst hw9
            go_wp2_with fail
            go_loopw [5, 12] (fun l i wr => l = .slice none 0 0 ∧ i = .int .i64 0 ∧ Below w.heap.size w wr) (fun _ _ _ => 0)
            case atStart => exact ⟨rfl, rfl, HB1.out⟩
            case round =>
              obtain ⟨rfl, rfl, hb⟩ := hrel
              have HB2 : Hid (Below w.heap.size w wr) := hb
              clear hb
              go_wp2
              go_ret
              exact ⟨_, rfl, OwnU.nil _ _, HB2.out⟩
          · have g5 : (kd == 5) = false := by simpa using h5
            by_cases h6 : kd = 6
            · subst h6
              go_wp2_with (first | (refine wpList_load_mid rfl tSt _ rfl w.heap.size 1 rfl (sc (s1, s2)) _ HLD.out Try.underlying33 rfl info_st ?_))
              refine Calls.mono (rplace_nil (s1, s2) _) ?_
              rintro e w2 ⟨rfl, hb⟩
              have HB2 : Hid (Below w.heap.size w w2) := below_next (HAB.out _) hb
              clear hb
              go_wp2_with fail
              refine Calls.mono (bit_f _) ?_
              rintro e w9 ⟨rfl, hw9⟩
              subst hw9
              go_wp2
              go_ret
              exact ⟨_, rfl, OwnU.lit w9 HB2.out.size [0, 0, 0] 3 rfl (by decide), HB2.out.alloc HB2.out.size _⟩
            · have g6 : (kd == 6) = false := by simpa using h6
              by_cases h7 : kd = 7
              · subst h7
                go_wp2_with (first | (refine wpList_load_mid rfl tSt _ rfl w.heap.size 1 rfl (sc (s1, s2)) _ HLD.out Try.underlying33 rfl info_st ?_))
                refine Calls.mono (rup_nil s1 s2 _) ?_
                rintro e w2 ⟨rfl, hb⟩
                have HB2 : Hid (Below w.heap.size w w2) := below_next (HAB.out _) hb
                clear hb
                go_wp2_with fail
                refine Calls.mono (first_nil _) ?_
                rintro e w3 ⟨v3, rfl, hu, hb⟩
                have HB3 : Hid (Below w.heap.size w w3) := below_next HB2.out hb
                have HU3 : Hid (OwnU w3 w.heap.size v3 [0, 0, 0, 0]) := OwnU.base hu HB2.out.size
                obtain ⟨a3, c3, rfl, -⟩ := OwnU.val hu
                clear hb hu
                go_wp2
                go_ret
                exact ⟨_, rfl, HU3.out, HB3.out⟩
              · have g7 : (kd == 7) = false := by simpa using h7
                by_cases h8 : kd = 8
                · subst h8
                  go_wp2_with (first | (refine wpList_load_mid rfl tSt _ rfl w.heap.size 1 rfl (sc (s1, s2)) _ HLD.out Try.underlying33 rfl info_st ?_))
                  refine Calls.mono (rdown_nil s1 s2 _) ?_
                  rintro e w2 ⟨rfl, hb⟩
                  have HB2 : Hid (Below w.heap.size w w2) := below_next (HAB.out _) hb
                  clear hb
                  go_wp2_with fail
                  refine Calls.mono (first_nil _) ?_
                  rintro e w3 ⟨v3, rfl, hu, hb⟩
                  have HB3 : Hid (Below w.heap.size w w3) := below_next HB2.out hb
                  have HU3 : Hid (OwnU w3 w.heap.size v3 [0, 0, 0, 0]) := OwnU.base hu HB2.out.size
                  obtain ⟨a3, c3, rfl, -⟩ := OwnU.val hu
                  clear hb hu
                  go_wp2
                  go_ret
                  exact ⟨_, rfl, HU3.out, HB3.out⟩
                · have g8 : (kd == 8) = false := by simpa using h8
                  by_cases h9 : kd = 9
                  · subst h9
                    go_upto_region 29 with fail
                    rw [← HW1.out]
                    have hl2 : ∀ u, Below w1.heap.size w1 u → (Instr.loadAt tSt (.pointer (some ⟨w.heap.size, 1, none⟩))).run Try.prog u = .ok (sv (s1, s2)) u := fun u hu => load_st u _ _ (s1, s2) (rangeAt_below (box_off HX1.out) hu)
                    have hl5 : ∀ u, Below w1.heap.size w1 u → u.cell? ⟨w.heap.size, 3, none⟩ = some (.int .u64 (n : Int)) := fun u hu => (hu.cell (p := ⟨w.heap.size, 3, none⟩) (Array.getElem?_eq_some_iff.1 HX1.out).1).trans (by rw [cell_of_row _ _ _ _ _ _ HX1.out]; rfl)
                    refine wp_region_held_drew (S := (fun u => Below w1.heap.size w1 u)) (by kernel_rfl) (by first | exact (Below.refl _ _).drew | assumption) (fun hHeld => ?_)
                    refine take_at (i := 0) 114 (v := ?_) rfl rfl (by kernel_rfl) (by kernel_rfl) (by kernel_rfl) (fun _ _ _ h => h) (by rfl) ?_ hHeld ?_
                    rotate_left
                    · (intro w hSw; (try dsimp only at hSw); go_simp; try with_reducible rfl)
                    simp only [Act.put, List.setIfInBounds_toArray, List.set_cons_zero, List.set_cons_succ]
                    refine take_at (i := 1) 115 (v := ?_) rfl rfl (by kernel_rfl) (by kernel_rfl) (by kernel_rfl) (fun _ _ _ h => h) (by rfl) ?_ hHeld ?_
                    rotate_left
                    · (intro w hSw; (try dsimp only at hSw); go_simp; try with_reducible rfl)
                    simp only [Act.put, List.setIfInBounds_toArray, List.set_cons_zero, List.set_cons_succ]
                    refine take_at (i := 2) 116 (v := sv (s1, s2)) rfl rfl (by kernel_rfl) (by kernel_rfl) (by kernel_rfl) (fun _ _ _ h => h) (by rfl) ?_ hHeld ?_
                    · (intro w hSw; refine exec_load (by rfl) ?_; exact hl2 w hSw)
                    simp only [Act.put, List.setIfInBounds_toArray, List.set_cons_zero, List.set_cons_succ]
                    refine take_at (i := 4) 118 (v := ?_) rfl rfl (by kernel_rfl) (by kernel_rfl) (by kernel_rfl) (fun _ _ _ h => h) (by rfl) ?_ hHeld ?_
                    rotate_left
                    · (intro w hSw; (try dsimp only at hSw); go_simp; try with_reducible rfl)
                    simp only [Act.put, List.setIfInBounds_toArray, List.set_cons_zero, List.set_cons_succ]
                    refine take_at (i := 5) 119 (v := ?_) rfl rfl (by kernel_rfl) (by kernel_rfl) (by kernel_rfl) (fun _ _ _ h => h) (by rfl) ?_ hHeld ?_
                    rotate_left
                    · (intro w hSw; (try dsimp only at hSw); go_simp; try with_reducible rfl)
                    simp only [Act.put, List.setIfInBounds_toArray, List.set_cons_zero, List.set_cons_succ]
                    refine take_at (i := 6) 120 (v := ?_) rfl rfl (by kernel_rfl) (by kernel_rfl) (by kernel_rfl) (fun _ _ _ h => h) (by rfl) ?_ hHeld ?_
                    rotate_left
                    · (intro w hSw; (try dsimp only at hSw); go_simp; try with_reducible rfl)
                    simp only [Act.put, List.setIfInBounds_toArray, List.set_cons_zero, List.set_cons_succ]
                    refine take_at (i := 7) 121 (v := ?_) rfl rfl (by kernel_rfl) (by kernel_rfl) (by kernel_rfl) (fun _ _ _ h => h) (by rfl) ?_ hHeld ?_
                    rotate_left
                    · (intro w hSw; (try dsimp only at hSw); go_simp; try with_reducible rfl)
                    simp only [Act.put, List.setIfInBounds_toArray, List.set_cons_zero, List.set_cons_succ]
                    refine run_at (i := 3) rfl (by kernel_rfl) (by rfl) (fun K hK => ?_)
                    simp only [List.getElem_toArray, List.getElem_cons_zero, List.getElem_cons_succ]
                    go_simp
                    first | (go_at_call 39; refine Calls.mono (entries_nil _ _) ?_; rintro e w3 ⟨rfl, hb⟩; have hb3 : Below w1.heap.size w1 w3 := below_next hb2 hb; clear hb) | (go_at_call 37; refine Calls.mono (rup_nil s1 s2 _) ?_; rintro e w2 ⟨rfl, hb⟩; have hb2 : Below w1.heap.size w1 w2 := below_next (Below.refl _ _).drew hb; clear hb)
                    go_wp2_with fail
                    refine hK.out _ _ (by first | exact (Below.refl _ _).drew | assumption) ?_
                    clear hK K
                    intro hHeld2
                    clear hHeld
                    have hHeld := hHeld2
                    clear hHeld2
                    try simp only [Act.put, List.setIfInBounds_toArray, List.set_cons_zero, List.set_cons_succ]
                    refine run_at (i := 8) rfl (by kernel_rfl) (by rfl) (fun K hK => ?_)
                    simp only [List.getElem_toArray, List.getElem_cons_zero, List.getElem_cons_succ]
                    go_simp
                    first | (go_at_call 39; refine Calls.mono (entries_nil _ _) ?_; rintro e w3 ⟨rfl, hb⟩; have hb3 : Below w1.heap.size w1 w3 := below_next hb2 hb; clear hb) | (go_at_call 37; refine Calls.mono (rup_nil s1 s2 _) ?_; rintro e w2 ⟨rfl, hb⟩; have hb2 : Below w1.heap.size w1 w2 := below_next (Below.refl _ _).drew hb; clear hb)
                    go_wp2_with fail
                    refine hK.out _ _ (by first | exact (Below.refl _ _).drew | assumption) ?_
                    clear hK K
                    intro hHeld2
                    clear hHeld
                    have hHeld := hHeld2
                    clear hHeld2
                    try simp only [Act.put, List.setIfInBounds_toArray, List.set_cons_zero, List.set_cons_succ]
                    refine take_at (i := 9) 4 (v := ?_) rfl rfl (by kernel_rfl) (by kernel_rfl) (by kernel_rfl) (fun _ _ _ h => h) (by rfl) ?_ hHeld ?_
                    rotate_left
                    · (intro w hSw; (try dsimp only at hSw); go_simp; try with_reducible rfl)
                    simp only [Act.put, List.setIfInBounds_toArray, List.set_cons_zero, List.set_cons_succ]
                    refine wpAnyH_done (by kernel_rfl) ?_ _
                    have HB3 : Hid (Below w.heap.size w w3) := below_next HB1.out hb3
                    clear hb3 hb2 hl2 hl5
                    go_wp2
                    go_ret
                    exact ⟨_, rfl, OwnU.nil _ _, HB3.out⟩
                  · have g9 : (kd == 9) = false := by simpa using h9
                    by_cases h10 : kd = 10
                    · subst h10
                      go_upto_region 31 with fail
                      rw [← HW1.out]
                      have hl2 : ∀ u, Below w1.heap.size w1 u → (Instr.loadAt tSt (.pointer (some ⟨w.heap.size, 1, none⟩))).run Try.prog u = .ok (sv (s1, s2)) u := fun u hu => load_st u _ _ (s1, s2) (rangeAt_below (box_off HX1.out) hu)
                      have hl5 : ∀ u, Below w1.heap.size w1 u → u.cell? ⟨w.heap.size, 3, none⟩ = some (.int .u64 (n : Int)) := fun u hu => (hu.cell (p := ⟨w.heap.size, 3, none⟩) (Array.getElem?_eq_some_iff.1 HX1.out).1).trans (by rw [cell_of_row _ _ _ _ _ _ HX1.out]; rfl)
                      refine wp_region_held_drew (S := (fun u => Below w1.heap.size w1 u)) (by kernel_rfl) (by first | exact (Below.refl _ _).drew | assumption) (fun hHeld => ?_)
                      refine take_at (i := 0) 125 (v := ?_) rfl rfl (by kernel_rfl) (by kernel_rfl) (by kernel_rfl) (fun _ _ _ h => h) (by rfl) ?_ hHeld ?_
                      rotate_left
                      · (intro w hSw; (try dsimp only at hSw); go_simp; try with_reducible rfl)
                      simp only [Act.put, List.setIfInBounds_toArray, List.set_cons_zero, List.set_cons_succ]
                      refine take_at (i := 1) 126 (v := ?_) rfl rfl (by kernel_rfl) (by kernel_rfl) (by kernel_rfl) (fun _ _ _ h => h) (by rfl) ?_ hHeld ?_
                      rotate_left
                      · (intro w hSw; (try dsimp only at hSw); go_simp; try with_reducible rfl)
                      simp only [Act.put, List.setIfInBounds_toArray, List.set_cons_zero, List.set_cons_succ]
                      refine take_at (i := 2) 127 (v := sv (s1, s2)) rfl rfl (by kernel_rfl) (by kernel_rfl) (by kernel_rfl) (fun _ _ _ h => h) (by rfl) ?_ hHeld ?_
                      · (intro w hSw; refine exec_load (by rfl) ?_; exact hl2 w hSw)
                      simp only [Act.put, List.setIfInBounds_toArray, List.set_cons_zero, List.set_cons_succ]
                      refine take_at (i := 4) 129 (v := ?_) rfl rfl (by kernel_rfl) (by kernel_rfl) (by kernel_rfl) (fun _ _ _ h => h) (by rfl) ?_ hHeld ?_
                      rotate_left
                      · (intro w hSw; (try dsimp only at hSw); go_simp; try with_reducible rfl)
                      simp only [Act.put, List.setIfInBounds_toArray, List.set_cons_zero, List.set_cons_succ]
                      refine take_at (i := 5) 130 (v := ?_) rfl rfl (by kernel_rfl) (by kernel_rfl) (by kernel_rfl) (fun _ _ _ h => h) (by rfl) ?_ hHeld ?_
                      rotate_left
                      · (intro w hSw; (try dsimp only at hSw); go_simp; try with_reducible rfl)
                      simp only [Act.put, List.setIfInBounds_toArray, List.set_cons_zero, List.set_cons_succ]
                      refine take_at (i := 6) 131 (v := ?_) rfl rfl (by kernel_rfl) (by kernel_rfl) (by kernel_rfl) (fun _ _ _ h => h) (by rfl) ?_ hHeld ?_
                      rotate_left
                      · (intro w hSw; (try dsimp only at hSw); go_simp; try with_reducible rfl)
                      simp only [Act.put, List.setIfInBounds_toArray, List.set_cons_zero, List.set_cons_succ]
                      refine take_at (i := 7) 132 (v := ?_) rfl rfl (by kernel_rfl) (by kernel_rfl) (by kernel_rfl) (fun _ _ _ h => h) (by rfl) ?_ hHeld ?_
                      rotate_left
                      · (intro w hSw; (try dsimp only at hSw); go_simp; try with_reducible rfl)
                      simp only [Act.put, List.setIfInBounds_toArray, List.set_cons_zero, List.set_cons_succ]
                      refine run_at (i := 3) rfl (by kernel_rfl) (by rfl) (fun K hK => ?_)
                      simp only [List.getElem_toArray, List.getElem_cons_zero, List.getElem_cons_succ]
                      go_simp
                      first | (go_at_call 39; refine Calls.mono (entries_nil _ _) ?_; rintro e w3 ⟨rfl, hb⟩; have hb3 : Below w1.heap.size w1 w3 := below_next hb2 hb; clear hb) | (go_at_call 38; refine Calls.mono (rdown_nil s1 s2 _) ?_; rintro e w2 ⟨rfl, hb⟩; have hb2 : Below w1.heap.size w1 w2 := below_next (Below.refl _ _).drew hb; clear hb)
                      go_wp2_with fail
                      refine hK.out _ _ (by first | exact (Below.refl _ _).drew | assumption) ?_
                      clear hK K
                      intro hHeld2
                      clear hHeld
                      have hHeld := hHeld2
                      clear hHeld2
                      try simp only [Act.put, List.setIfInBounds_toArray, List.set_cons_zero, List.set_cons_succ]
                      refine run_at (i := 8) rfl (by kernel_rfl) (by rfl) (fun K hK => ?_)
                      simp only [List.getElem_toArray, List.getElem_cons_zero, List.getElem_cons_succ]
                      go_simp
                      first | (go_at_call 39; refine Calls.mono (entries_nil _ _) ?_; rintro e w3 ⟨rfl, hb⟩; have hb3 : Below w1.heap.size w1 w3 := below_next hb2 hb; clear hb) | (go_at_call 38; refine Calls.mono (rdown_nil s1 s2 _) ?_; rintro e w2 ⟨rfl, hb⟩; have hb2 : Below w1.heap.size w1 w2 := below_next (Below.refl _ _).drew hb; clear hb)
                      go_wp2_with fail
                      refine hK.out _ _ (by first | exact (Below.refl _ _).drew | assumption) ?_
                      clear hK K
                      intro hHeld2
                      clear hHeld
                      have hHeld := hHeld2
                      clear hHeld2
                      try simp only [Act.put, List.setIfInBounds_toArray, List.set_cons_zero, List.set_cons_succ]
                      refine take_at (i := 9) 4 (v := ?_) rfl rfl (by kernel_rfl) (by kernel_rfl) (by kernel_rfl) (fun _ _ _ h => h) (by rfl) ?_ hHeld ?_
                      rotate_left
                      · (intro w hSw; (try dsimp only at hSw); go_simp; try with_reducible rfl)
                      simp only [Act.put, List.setIfInBounds_toArray, List.set_cons_zero, List.set_cons_succ]
                      refine wpAnyH_done (by kernel_rfl) ?_ _
                      have HB3 : Hid (Below w.heap.size w w3) := below_next HB1.out hb3
                      clear hb3 hb2 hl2 hl5
                      go_wp2
                      go_ret
                      exact ⟨_, rfl, OwnU.nil _ _, HB3.out⟩
                    · have g10 : (kd == 10) = false := by simpa using h10
                      have HNL : Hid (nilL kd = []) := (show _ = _ by unfold nilL; rw [if_neg h1, if_neg h2, if_neg h3, if_neg h4, if_neg h5, if_neg h6, if_neg h7, if_neg h8])
                      go_wp2
                      go_ret
                      exact ⟨_, rfl, by rw [HNL.out]; exact OwnU.nil _ _, HAB.out _⟩
end
end Go.Proofs.Ytnhjkipaclchiab
