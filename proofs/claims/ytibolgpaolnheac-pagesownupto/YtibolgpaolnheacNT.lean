import Derived.Test.YtibolgpaolnheacNR
import Derived.Test.YtibolgpaolnheacNS
import Derived.Test.YtibolgpaolnheacQLt
import Derived.Deep.CutRange
import Derived.Test.YtibolgpaolnheacQAny
namespace Go.Proofs.Ytibolgpaolnheac
set_option linter.unusedVariables false
set_option linter.unusedSimpArgs false
open Go.RowKit
def nilL (kd : Int) : List Nat := if kd = 1 then [0] else if kd = 2 then [0, 0] else if kd = 3 then [0, 0] else if kd = 4 then [0] else if kd = 5 then [] else if kd = 6 then [0, 0, 0] else if kd = 7 then [0, 0, 0, 0] else if kd = 8 then [0, 0, 0, 0] else []
theorem nilL_len (kd : Int) : (nilL kd).length ≤ 4 := by
  unfold nilL
  repeat' split
  all_goals decide
theorem bit_f (w : World) : Calls Try.prog 18 #[.bool false] w fun e w' => e = .returned (.int .u64 0) ∧ w' = w := bit_t false w
abbrev opw (kd : Int) (s1 s2 n : Nat) : Value := .agg #[.int .i64 kd, .int .u64 (s1 : Int), .int .u64 (s2 : Int), .int .u64 (n : Int)]
theorem box_off {w : World} {b : Nat} {a : Value} {s1 s2 n : Nat} (h : w.heap[b]? = some (.cells #[a, .int .u64 (s1 : Int), .int .u64 (s2 : Int), .int .u64 (n : Int)] tOp (0, 0))) : w.rangeAt b 1 (sc (s1, s2)) := fun j v hv => by
  rw [cell_of_row _ _ _ _ _ _ h]
  match j with
  | 0 => simpa using hv
  | 1 => simpa using hv
  | j + 2 => simp at hv
section
set_option maxRecDepth 20000
set_option maxHeartbeats 6400000
theorem doc0_t (kd : Int) (s1 s2 n : Nat) (w : World) : Calls Try.prog 8 #[.pointer none, opw kd s1 s2 n] w fun e w' => ∃ v, e = .returned v ∧ OwnU w' w.heap.size v (nilL kd) ∧ Below w.heap.size w w' := by
  obtain ⟨w1, hw1⟩ : ∃ X : World, X = w.alloc (.cells #[.int .i64 kd, .int .u64 (s1 : Int), .int .u64 (s2 : Int), .int .u64 (n : Int)] tOp) := ⟨_, rfl⟩
  have HB1 : Hid (Below w.heap.size w w1) := (show Below w.heap.size w w1 by rw [hw1]; exact al (Below.refl _ _) _)
  have HX1 : Hid (w1.heap[w.heap.size]? = some (.cells #[.int .i64 kd, .int .u64 (s1 : Int), .int .u64 (s2 : Int), .int .u64 (n : Int)] tOp (0, 0))) := (show _ = _ by rw [hw1]; exact heap_alloc_new w _)
  have HLD : Hid ((w.alloc (.cells #[.int .i64 kd, .int .u64 (s1 : Int), .int .u64 (s2 : Int), .int .u64 (n : Int)] tOp)).rangeAt w.heap.size 1 (sc (s1, s2))) := (show World.rangeAt _ _ _ _ by
    rw [← hw1]
    exact box_off HX1.out)
  have HW1 : Hid (w1 = w.alloc (.cells #[.int .i64 kd, .int .u64 (s1 : Int), .int .u64 (s2 : Int), .int .u64 (n : Int)] tOp)) := hw1
  have HAB : Hid (∀ ob, Below w.heap.size w (w.alloc ob)) := fun ob => al (Below.refl _ _) _
  clear hw1
  go_enter Try.func8, Try.ntmps8
  by_cases h1 : kd = 1
  · subst h1
    go_wp2_with (first | (refine wpList_load_mid rfl tSt _ rfl w.heap.size 1 rfl (sc (s1, s2)) _ HLD.out Try.underlying36 rfl info_st ?_))
    refine Calls.mono (rput_nil (s1, s2) n _) ?_
    rintro e w2 ⟨rfl, hb⟩
    have HB2 : Hid (Below w.heap.size w w2) := below_next (HAB.out _) hb
    clear hb
    go_wp2_with fail
    refine Calls.mono (bit_f _) ?_
    rintro e w9 ⟨rfl, hw9⟩
    subst hw9
    go_wp2
    go_ret
    exact ⟨_, rfl, OwnU.lit w9 HB2.out.size [0] 1 rfl (by decide), HB2.out.alloc HB2.out.size _⟩
  · have g1 : (kd == 1) = false := by simpa using h1
    by_cases h2 : kd = 2
    · subst h2
      go_wp2_with (first | (refine wpList_load_mid rfl tSt _ rfl w.heap.size 1 rfl (sc (s1, s2)) _ HLD.out Try.underlying36 rfl info_st ?_))
      refine Calls.mono (rremove_nil s1 s2 _) ?_
      rintro e w2 ⟨rfl, hb⟩
      have HB2 : Hid (Below w.heap.size w w2) := below_next (HAB.out _) hb
      clear hb
      go_wp2_with fail
      refine Calls.mono (bit_f _) ?_
      rintro e w9 ⟨rfl, hw9⟩
      subst hw9
      go_wp2
      go_ret
      exact ⟨_, rfl, OwnU.lit w9 HB2.out.size [0, 0] 2 rfl (by decide), HB2.out.alloc HB2.out.size _⟩
    · have g2 : (kd == 2) = false := by simpa using h2
      by_cases h3 : kd = 3
      · subst h3
        go_wp2_with (first | (refine wpList_load_mid rfl tSt _ rfl w.heap.size 1 rfl (sc (s1, s2)) _ HLD.out Try.underlying36 rfl info_st ?_))
        refine Calls.mono (rget_nil s1 s2 _) ?_
        rintro e w2 ⟨rfl, hb⟩
        have HB2 : Hid (Below w.heap.size w w2) := below_next (HAB.out _) hb
        clear hb
        go_wp2_with fail
        refine Calls.mono (bit_f _) ?_
        rintro e w9 ⟨rfl, hw9⟩
        subst hw9
        go_wp2
        go_ret
        exact ⟨_, rfl, OwnU.lit w9 HB2.out.size [0, 0] 2 rfl (by decide), HB2.out.alloc HB2.out.size _⟩
      · have g3 : (kd == 3) = false := by simpa using h3
        by_cases h4 : kd = 4
        · subst h4
          go_wp2_with fail
          rw [← HW1.out]
          refine Calls.mono (rall_nil _) ?_
          rintro e w9 ⟨rfl, hw9⟩
          subst hw9
          go_wp2
          go_ret
          exact ⟨_, rfl, OwnU.lit w9 HB1.out.size [0] 1 rfl (by decide), HB1.out.alloc HB1.out.size _⟩
        · have g4 : (kd == 4) = false := by simpa using h4
          by_cases h5 : kd = 5
          · subst h5
            go_wp2_with fail
            rw [← HW1.out]
            refine Calls.mono (rpages_nil _) ?_
            rintro e w9 ⟨rfl, hw9⟩
            subst hw9
            go_wp2_with fail
            go_loopw [5, 12] (fun l i wr => l = .slice none 0 0 ∧ i = .int .i64 0 ∧ Below w.heap.size w wr) (fun _ _ _ => 0)
            case atStart => exact ⟨rfl, rfl, HB1.out⟩
            case round =>
              obtain ⟨rfl, rfl, hb⟩ := hrel
              have HB2 : Hid (Below w.heap.size w wr) := hb
              clear hb
              go_wp2
              go_ret
              exact ⟨_, rfl, OwnU.nil _ _, HB2.out⟩
          · have g5 : (kd == 5) = false := by simpa using h5
            by_cases h6 : kd = 6
            · subst h6
              go_wp2_with (first | (refine wpList_load_mid rfl tSt _ rfl w.heap.size 1 rfl (sc (s1, s2)) _ HLD.out Try.underlying36 rfl info_st ?_))
              refine Calls.mono (rplace_nil (s1, s2) _) ?_
              rintro e w2 ⟨rfl, hb⟩
              have HB2 : Hid (Below w.heap.size w w2) := below_next (HAB.out _) hb
              clear hb
              go_wp2_with fail
              refine Calls.mono (bit_f _) ?_
              rintro e w9 ⟨rfl, hw9⟩
              subst hw9
              go_wp2
              go_ret
              exact ⟨_, rfl, OwnU.lit w9 HB2.out.size [0, 0, 0] 3 rfl (by decide), HB2.out.alloc HB2.out.size _⟩
            · have g6 : (kd == 6) = false := by simpa using h6
              by_cases h7 : kd = 7
              · subst h7
                go_wp2_with (first | (refine wpList_load_mid rfl tSt _ rfl w.heap.size 1 rfl (sc (s1, s2)) _ HLD.out Try.underlying36 rfl info_st ?_))
                refine Calls.mono (rup_nil s1 s2 _) ?_
                rintro e w2 ⟨rfl, hb⟩
                have HB2 : Hid (Below w.heap.size w w2) := below_next (HAB.out _) hb
                clear hb
                go_wp2_with fail
                refine Calls.mono (first_nil _) ?_
                rintro e w3 ⟨v3, rfl, hu, hb⟩
                have HB3 : Hid (Below w.heap.size w w3) := below_next HB2.out hb
                have HU3 : Hid (OwnU w3 w.heap.size v3 [0, 0, 0, 0]) := OwnU.base hu HB2.out.size
                obtain ⟨a3, c3, rfl, -⟩ := OwnU.val hu
                clear hb hu
                go_wp2
                go_ret
                exact ⟨_, rfl, HU3.out, HB3.out⟩
              · have g7 : (kd == 7) = false := by simpa using h7
                by_cases h8 : kd = 8
                · subst h8
                  go_wp2_with (first | (refine wpList_load_mid rfl tSt _ rfl w.heap.size 1 rfl (sc (s1, s2)) _ HLD.out Try.underlying36 rfl info_st ?_))
                  refine Calls.mono (rdown_nil s1 s2 _) ?_
                  rintro e w2 ⟨rfl, hb⟩
                  have HB2 : Hid (Below w.heap.size w w2) := below_next (HAB.out _) hb
                  clear hb
                  go_wp2_with fail
                  refine Calls.mono (first_nil _) ?_
                  rintro e w3 ⟨v3, rfl, hu, hb⟩
                  have HB3 : Hid (Below w.heap.size w w3) := below_next HB2.out hb
                  have HU3 : Hid (OwnU w3 w.heap.size v3 [0, 0, 0, 0]) := OwnU.base hu HB2.out.size
                  obtain ⟨a3, c3, rfl, -⟩ := OwnU.val hu
                  clear hb hu
                  go_wp2
                  go_ret
                  exact ⟨_, rfl, HU3.out, HB3.out⟩
                · have g8 : (kd == 8) = false := by simpa using h8
                  by_cases h9 : kd = 9
                  · subst h9
                    go_upto_region 29 with fail
                    rw [← HW1.out]
                    have hl2 : ∀ u, Below w1.heap.size w1 u → (Instr.loadAt tSt (.pointer (some ⟨w.heap.size, 1, none⟩))).run Try.prog u = .ok (sv (s1, s2)) u := fun u hu => load_st u _ _ (s1, s2) (rangeAt_below (box_off HX1.out) hu)
                    have hl5 : ∀ u, Below w1.heap.size w1 u → u.cell? ⟨w.heap.size, 3, none⟩ = some (.int .u64 (n : Int)) := fun u hu => (hu.cell (p := ⟨w.heap.size, 3, none⟩) (Array.getElem?_eq_some_iff.1 HX1.out).1).trans (by rw [cell_of_row _ _ _ _ _ _ HX1.out]; rfl)
                    refine wp_region_held_drew (S := (fun u => Below w1.heap.size w1 u)) (by kernel_rfl) (by first | exact (Below.refl _ _).drew | assumption) (fun hHeld => ?_)
                    refine take_at (i := 0) 114 (v := ?_) rfl rfl (by kernel_rfl) (by kernel_rfl) (by kernel_rfl) (fun _ _ _ h => h) (by rfl) ?_ hHeld ?_
                    rotate_left
                    · (intro w hSw; (try dsimp only at hSw); go_simp; try with_reducible rfl)
                    simp only [Act.put, List.setIfInBounds_toArray, List.set_cons_zero, List.set_cons_succ]
                    refine take_at (i := 1) 115 (v := ?_) rfl rfl (by kernel_rfl) (by kernel_rfl) (by kernel_rfl) (fun _ _ _ h => h) (by rfl) ?_ hHeld ?_
                    rotate_left
                    · (intro w hSw; (try dsimp only at hSw); go_simp; try with_reducible rfl)
                    simp only [Act.put, List.setIfInBounds_toArray, List.set_cons_zero, List.set_cons_succ]
                    refine take_at (i := 2) 116 (v := sv (s1, s2)) rfl rfl (by kernel_rfl) (by kernel_rfl) (by kernel_rfl) (fun _ _ _ h => h) (by rfl) ?_ hHeld ?_
                    · (intro w hSw; refine exec_load (by rfl) ?_; exact hl2 w hSw)
                    simp only [Act.put, List.setIfInBounds_toArray, List.set_cons_zero, List.set_cons_succ]
                    refine take_at (i := 4) 118 (v := ?_) rfl rfl (by kernel_rfl) (by kernel_rfl) (by kernel_rfl) (fun _ _ _ h => h) (by rfl) ?_ hHeld ?_
                    rotate_left
                    · (intro w hSw; (try dsimp only at hSw); go_simp; try with_reducible rfl)
                    simp only [Act.put, List.setIfInBounds_toArray, List.set_cons_zero, List.set_cons_succ]
                    refine take_at (i := 5) 119 (v := ?_) rfl rfl (by kernel_rfl) (by kernel_rfl) (by kernel_rfl) (fun _ _ _ h => h) (by rfl) ?_ hHeld ?_
                    rotate_left
                    · (intro w hSw; (try dsimp only at hSw); go_simp; try with_reducible rfl)
                    simp only [Act.put, List.setIfInBounds_toArray, List.set_cons_zero, List.set_cons_succ]
                    refine take_at (i := 6) 120 (v := ?_) rfl rfl (by kernel_rfl) (by kernel_rfl) (by kernel_rfl) (fun _ _ _ h => h) (by rfl) ?_ hHeld ?_
                    rotate_left
                    · (intro w hSw; (try dsimp only at hSw); go_simp; try with_reducible rfl)
                    simp only [Act.put, List.setIfInBounds_toArray, List.set_cons_zero, List.set_cons_succ]
                    refine take_at (i := 7) 121 (v := ?_) rfl rfl (by kernel_rfl) (by kernel_rfl) (by kernel_rfl) (fun _ _ _ h => h) (by rfl) ?_ hHeld ?_
                    rotate_left
                    · (intro w hSw; (try dsimp only at hSw); go_simp; try with_reducible rfl)
                    simp only [Act.put, List.setIfInBounds_toArray, List.set_cons_zero, List.set_cons_succ]
                    refine run_at (i := 3) rfl (by kernel_rfl) (by rfl) (fun K hK => ?_)
                    simp only [List.getElem_toArray, List.getElem_cons_zero, List.getElem_cons_succ]
                    go_simp
                    first | (go_at_call 35; refine Calls.mono (entries_nil _ _) ?_; rintro e w3 ⟨rfl, hb⟩; have hb3 : Below w1.heap.size w1 w3 := below_next hb2 hb; clear hb) | (go_at_call 33; refine Calls.mono (rup_nil s1 s2 _) ?_; rintro e w2 ⟨rfl, hb⟩; have hb2 : Below w1.heap.size w1 w2 := below_next (Below.refl _ _).drew hb; clear hb)
                    go_wp2_with fail
                    refine hK.out _ _ (by first | exact (Below.refl _ _).drew | assumption) ?_
                    clear hK K
                    intro hHeld2
                    clear hHeld
                    have hHeld := hHeld2
                    clear hHeld2
                    try simp only [Act.put, List.setIfInBounds_toArray, List.set_cons_zero, List.set_cons_succ]
                    refine run_at (i := 8) rfl (by kernel_rfl) (by rfl) (fun K hK => ?_)
                    simp only [List.getElem_toArray, List.getElem_cons_zero, List.getElem_cons_succ]
                    go_simp
                    first | (go_at_call 35; refine Calls.mono (entries_nil _ _) ?_; rintro e w3 ⟨rfl, hb⟩; have hb3 : Below w1.heap.size w1 w3 := below_next hb2 hb; clear hb) | (go_at_call 33; refine Calls.mono (rup_nil s1 s2 _) ?_; rintro e w2 ⟨rfl, hb⟩; have hb2 : Below w1.heap.size w1 w2 := below_next (Below.refl _ _).drew hb; clear hb)
                    go_wp2_with fail
                    refine hK.out _ _ (by first | exact (Below.refl _ _).drew | assumption) ?_
                    clear hK K
                    intro hHeld2
                    clear hHeld
                    have hHeld := hHeld2
                    clear hHeld2
                    try simp only [Act.put, List.setIfInBounds_toArray, List.set_cons_zero, List.set_cons_succ]
                    refine take_at (i := 9) 4 (v := ?_) rfl rfl (by kernel_rfl) (by kernel_rfl) (by kernel_rfl) (fun _ _ _ h => h) (by rfl) ?_ hHeld ?_
                    rotate_left
                    · (intro w hSw; (try dsimp only at hSw); go_simp; try with_reducible rfl)
                    simp only [Act.put, List.setIfInBounds_toArray, List.set_cons_zero, List.set_cons_succ]
                    refine wpAnyH_done (by kernel_rfl) ?_ _
                    have HB3 : Hid (Below w.heap.size w w3) := below_next HB1.out hb3
                    clear hb3 hb2 hl2 hl5
                    go_wp2
                    go_ret
                    exact ⟨_, rfl, OwnU.nil _ _, HB3.out⟩
                  · have g9 : (kd == 9) = false := by simpa using h9
                    by_cases h10 : kd = 10
                    · subst h10
                      go_upto_region 31 with fail
                      rw [← HW1.out]
                      have hl2 : ∀ u, Below w1.heap.size w1 u → (Instr.loadAt tSt (.pointer (some ⟨w.heap.size, 1, none⟩))).run Try.prog u = .ok (sv (s1, s2)) u := fun u hu => load_st u _ _ (s1, s2) (rangeAt_below (box_off HX1.out) hu)
                      have hl5 : ∀ u, Below w1.heap.size w1 u → u.cell? ⟨w.heap.size, 3, none⟩ = some (.int .u64 (n : Int)) := fun u hu => (hu.cell (p := ⟨w.heap.size, 3, none⟩) (Array.getElem?_eq_some_iff.1 HX1.out).1).trans (by rw [cell_of_row _ _ _ _ _ _ HX1.out]; rfl)
                      refine wp_region_held_drew (S := (fun u => Below w1.heap.size w1 u)) (by kernel_rfl) (by first | exact (Below.refl _ _).drew | assumption) (fun hHeld => ?_)
                      refine take_at (i := 0) 125 (v := ?_) rfl rfl (by kernel_rfl) (by kernel_rfl) (by kernel_rfl) (fun _ _ _ h => h) (by rfl) ?_ hHeld ?_
                      rotate_left
                      · (intro w hSw; (try dsimp only at hSw); go_simp; try with_reducible rfl)
                      simp only [Act.put, List.setIfInBounds_toArray, List.set_cons_zero, List.set_cons_succ]
                      refine take_at (i := 1) 126 (v := ?_) rfl rfl (by kernel_rfl) (by kernel_rfl) (by kernel_rfl) (fun _ _ _ h => h) (by rfl) ?_ hHeld ?_
                      rotate_left
                      · (intro w hSw; (try dsimp only at hSw); go_simp; try with_reducible rfl)
                      simp only [Act.put, List.setIfInBounds_toArray, List.set_cons_zero, List.set_cons_succ]
                      refine take_at (i := 2) 127 (v := sv (s1, s2)) rfl rfl (by kernel_rfl) (by kernel_rfl) (by kernel_rfl) (fun _ _ _ h => h) (by rfl) ?_ hHeld ?_
                      · (intro w hSw; refine exec_load (by rfl) ?_; exact hl2 w hSw)
                      simp only [Act.put, List.setIfInBounds_toArray, List.set_cons_zero, List.set_cons_succ]
                      refine take_at (i := 4) 129 (v := ?_) rfl rfl (by kernel_rfl) (by kernel_rfl) (by kernel_rfl) (fun _ _ _ h => h) (by rfl) ?_ hHeld ?_
                      rotate_left
                      · (intro w hSw; (try dsimp only at hSw); go_simp; try with_reducible rfl)
                      simp only [Act.put, List.setIfInBounds_toArray, List.set_cons_zero, List.set_cons_succ]
                      refine take_at (i := 5) 130 (v := ?_) rfl rfl (by kernel_rfl) (by kernel_rfl) (by kernel_rfl) (fun _ _ _ h => h) (by rfl) ?_ hHeld ?_
                      rotate_left
                      · (intro w hSw; (try dsimp only at hSw); go_simp; try with_reducible rfl)
                      simp only [Act.put, List.setIfInBounds_toArray, List.set_cons_zero, List.set_cons_succ]
                      refine take_at (i := 6) 131 (v := ?_) rfl rfl (by kernel_rfl) (by kernel_rfl) (by kernel_rfl) (fun _ _ _ h => h) (by rfl) ?_ hHeld ?_
                      rotate_left
                      · (intro w hSw; (try dsimp only at hSw); go_simp; try with_reducible rfl)
                      simp only [Act.put, List.setIfInBounds_toArray, List.set_cons_zero, List.set_cons_succ]
                      refine take_at (i := 7) 132 (v := ?_) rfl rfl (by kernel_rfl) (by kernel_rfl) (by kernel_rfl) (fun _ _ _ h => h) (by rfl) ?_ hHeld ?_
                      rotate_left
                      · (intro w hSw; (try dsimp only at hSw); go_simp; try with_reducible rfl)
                      simp only [Act.put, List.setIfInBounds_toArray, List.set_cons_zero, List.set_cons_succ]
                      refine run_at (i := 3) rfl (by kernel_rfl) (by rfl) (fun K hK => ?_)
                      simp only [List.getElem_toArray, List.getElem_cons_zero, List.getElem_cons_succ]
                      go_simp
                      first | (go_at_call 35; refine Calls.mono (entries_nil _ _) ?_; rintro e w3 ⟨rfl, hb⟩; have hb3 : Below w1.heap.size w1 w3 := below_next hb2 hb; clear hb) | (go_at_call 34; refine Calls.mono (rdown_nil s1 s2 _) ?_; rintro e w2 ⟨rfl, hb⟩; have hb2 : Below w1.heap.size w1 w2 := below_next (Below.refl _ _).drew hb; clear hb)
                      go_wp2_with fail
                      refine hK.out _ _ (by first | exact (Below.refl _ _).drew | assumption) ?_
                      clear hK K
                      intro hHeld2
                      clear hHeld
                      have hHeld := hHeld2
                      clear hHeld2
                      try simp only [Act.put, List.setIfInBounds_toArray, List.set_cons_zero, List.set_cons_succ]
                      refine run_at (i := 8) rfl (by kernel_rfl) (by rfl) (fun K hK => ?_)
                      simp only [List.getElem_toArray, List.getElem_cons_zero, List.getElem_cons_succ]
                      go_simp
                      first | (go_at_call 35; refine Calls.mono (entries_nil _ _) ?_; rintro e w3 ⟨rfl, hb⟩; have hb3 : Below w1.heap.size w1 w3 := below_next hb2 hb; clear hb) | (go_at_call 34; refine Calls.mono (rdown_nil s1 s2 _) ?_; rintro e w2 ⟨rfl, hb⟩; have hb2 : Below w1.heap.size w1 w2 := below_next (Below.refl _ _).drew hb; clear hb)
                      go_wp2_with fail
                      refine hK.out _ _ (by first | exact (Below.refl _ _).drew | assumption) ?_
                      clear hK K
                      intro hHeld2
                      clear hHeld
                      have hHeld := hHeld2
                      clear hHeld2
                      try simp only [Act.put, List.setIfInBounds_toArray, List.set_cons_zero, List.set_cons_succ]
                      refine take_at (i := 9) 4 (v := ?_) rfl rfl (by kernel_rfl) (by kernel_rfl) (by kernel_rfl) (fun _ _ _ h => h) (by rfl) ?_ hHeld ?_
                      rotate_left
                      · (intro w hSw; (try dsimp only at hSw); go_simp; try with_reducible rfl)
                      simp only [Act.put, List.setIfInBounds_toArray, List.set_cons_zero, List.set_cons_succ]
                      refine wpAnyH_done (by kernel_rfl) ?_ _
                      have HB3 : Hid (Below w.heap.size w w3) := below_next HB1.out hb3
                      clear hb3 hb2 hl2 hl5
                      go_wp2
                      go_ret
                      exact ⟨_, rfl, OwnU.nil _ _, HB3.out⟩
                    · have g10 : (kd == 10) = false := by simpa using h10
                      have HNL : Hid (nilL kd = []) := (show _ = _ by unfold nilL; rw [if_neg h1, if_neg h2, if_neg h3, if_neg h4, if_neg h5, if_neg h6, if_neg h7, if_neg h8])
                      go_wp2
                      go_ret
                      exact ⟨_, rfl, by rw [HNL.out]; exact OwnU.nil _ _, HAB.out _⟩
end
end Go.Proofs.Ytibolgpaolnheac
namespace Go.Proofs.Ytibolgpaolnheac
set_option linter.unusedVariables false
set_option linter.unusedSimpArgs false
open Go.RowKit Go.Shelf
attribute [local go_sem] Oper.semAt_some
theorem fold2 (p0 p1 : Tmp) (x : Ent) (t : Array Value) : ((#[p0, p1] : Array Tmp).zip (encU x)).foldl (fun t (p, v) => t.setIfInBounds p v) t = (t.setIfInBounds p0 (sv x.st)).setIfInBounds p1 x.v := by
  have e : (#[p0, p1] : Array Tmp).zip (encU x) = #[(p0, sv x.st), (p1, x.v)] := by simp [encU, Array.zip, ← Array.toList_inj]
  rw [e]
  simp
section
set_option maxRecDepth 100000
set_option maxHeartbeats 6400000
theorem along0_t {w : World} {x : Value} (h : Zero w x) (kd : Int) (s1 s2 n : Nat) : Calls Try.prog 26 #[x, opw kd s1 s2 n] w fun e w' => e = .returned (.slice none 0 0) ∧ Below w.heap.size w w' := by
  refine (callsIn_wide (n := 12)).1 ?_
  have HZ : Hid (Zero w x) := h
  obtain ⟨px, rfl⟩ : ∃ g, x = .pointer g := by rcases h with rfl | ⟨g, rfl, -⟩ <;> exact ⟨_, rfl⟩
  clear h
  have hefn := eql_func_nil
  obtain ⟨W1, hW1⟩ : ∃ X : World, X = ((w.alloc (.cells #[.int .i64 kd, .int .u64 (s1 : Int), .int .u64 (s2 : Int), .int .u64 (n : Int)] tOp)).alloc (.cells #[.slice none 0 0] tUs)).alloc (.cells #[.int .i64 ((n : Int) % 64)] 3) := ⟨_, rfl⟩
  have HBW : Hid (Below w.heap.size w W1) := (show Below w.heap.size w W1 by rw [hW1]; exact al (al (al (Below.refl _ _) _) _) _)
  obtain ⟨H, hH⟩ : ∃ H, H = w.heap.size := ⟨_, rfl⟩
  have HH : Hid (H = w.heap.size) := hH
  have HA : Hid (W1.heap[H]? = some (.cells #[.int .i64 kd, .int .u64 (s1 : Int), .int .u64 (s2 : Int), .int .u64 (n : Int)] tOp (0, 0)) ∧ W1.heap[H + 1]? = some (.cells #[.slice none 0 0] tUs (0, 0)) ∧ W1.heap[H + 1 + 1]? = some (.cells #[.int .i64 ((n : Int) % 64)] 3 (0, 0))) := (show _ ∧ _ ∧ _ by
    rw [hW1, hH]
    have h2 := two_new w (.cells #[.int .i64 kd, .int .u64 (s1 : Int), .int .u64 (s2 : Int), .int .u64 (n : Int)] tOp) (.cells #[.slice none 0 0] tUs)
    have h3 := heap_alloc_new ((w.alloc (.cells #[.int .i64 kd, .int .u64 (s1 : Int), .int .u64 (s2 : Int), .int .u64 (n : Int)] tOp)).alloc (.cells #[.slice none 0 0] tUs)) (.cells #[.int .i64 ((n : Int) % 64)] 3)
    rw [World.size_alloc, World.size_alloc] at h3
    exact ⟨(Below.heap_alloc _ _ _ (by simp; omega)).trans h2.1, (Below.heap_alloc _ _ _ (by simp)).trans h2.2, h3⟩)
  obtain ⟨m, hm⟩ : ∃ m : Int, m = (n : Int) % 64 := ⟨_, rfl⟩
  refine callsIn_of_wp_marks Try.func26 rfl trivial ?_ rfl
  simp only [Try.ntmps26, List.size_toArray, List.length_cons, List.length_nil, Nat.reduceAdd, Nat.reduceSub, Array.replicate_succ, Array.replicate_zero, List.push_toArray, List.append_toArray, List.nil_append, List.cons_append]
  refine wpIn_wide.2 ?_
  go_wp2_with fail
  rw [← hW1]
  simp only [← hm, ← hH]
  rw [← hm] at HA
  clear hW1 hm hH
  refine Calls.mono (up_t (.pointer px) rfl px rfl s1 s2 W1) ?_
  rintro e z ⟨rfl, hz⟩
  have HBZ : Hid (Below W1.heap.size W1 z) := (show Below _ _ _ by rw [hz]; exact al (al (Below.refl _ _) _) _)
  have ht := two_new W1 (.cells #[.pointer px] 27) (.cells #[.int .u64 (s1 : Int), .int .u64 (s2 : Int)] tSt)
  rw [← hz] at ht
  obtain ⟨gx, hgx⟩ : ∃ gx, gx = W1.heap.size := ⟨_, rfl⟩
  rw [← hgx] at ht ⊢
  have HT : Hid (z.heap[gx]? = some (.cells #[.pointer px] 27 (0, 0)) ∧ z.heap[gx + 1]? = some (.cells #[.int .u64 (s1 : Int), .int .u64 (s2 : Int)] tSt (0, 0))) := ht
  clear hz ht hgx
  have HK : Hid (∀ k o, W1.heap[k]? = some o → z.heap[k]? = some o) := fun k o h9 => (HBZ.out.block k (Array.getElem?_eq_some_iff.1 h9).1).trans h9
  have hck : z.cell? ⟨H, 0, none⟩ = some (.int .i64 kd) := by rw [cell_of_row _ _ _ _ _ _ (HK.out _ _ HA.out.1)]; rfl
  by_cases hkd : kd = 10
  · subst hkd
    go_wp2_with (first | (refine wpList_load_mid rfl tSt _ rfl H 1 rfl (sc (s1, s2)) _ (box_off (HK.out _ _ HA.out.1)) Try.underlying36 rfl info_st ?_))
    refine Calls.mono (down_t (.pointer px) rfl px rfl s1 s2 z) ?_
    rintro e y ⟨rfl, hy⟩
    have HBY : Hid (Below z.heap.size z y) := (show Below _ _ _ by rw [hy]; exact al (al (Below.refl _ _) _) _)
    have ht := two_new z (.cells #[.pointer px] 27) (.cells #[.int .u64 (s1 : Int), .int .u64 (s2 : Int)] tSt)
    rw [← hy] at ht
    obtain ⟨gy, hgy⟩ : ∃ gy, gy = z.heap.size := ⟨_, rfl⟩
    rw [← hgy] at ht ⊢
    have HT2 : Hid (y.heap[gy]? = some (.cells #[.pointer px] 27 (0, 0)) ∧ y.heap[gy + 1]? = some (.cells #[.int .u64 (s1 : Int), .int .u64 (s2 : Int)] tSt (0, 0))) := ht
    clear hy ht hgy
    have HKY : Hid (∀ k o, W1.heap[k]? = some o → y.heap[k]? = some o) := fun k o h9 => (HBY.out.block k (Array.getElem?_eq_some_iff.1 (HK.out k o h9)).1).trans (HK.out k o h9)
    have HBWY : Hid (Below w.heap.size w y) := below_next (below_next HBW.out HBZ.out) HBY.out
    have hcm : y.cell? ⟨H + 1 + 1, 0, none⟩ = some (.int .i64 m) := by rw [cell_of_row _ _ _ _ _ _ (HKY.out _ _ HA.out.2.2)]; rfl
    have hcl : y.cell? ⟨H + 1, 0, none⟩ = some (.slice none 0 0) := by rw [cell_of_row _ _ _ _ _ _ (HKY.out _ _ HA.out.2.1)]; rfl
    have HBN : Hid (Below w.heap.size w y) := HBWY.out
    by_cases hm0 : m = 0
    · subst hm0
      go_wp2_with fail
      exact ⟨_, results_tmp rfl _ _ _, rfl, HBN.out⟩
    · have hm0b : (m == 0) = false := by simpa using hm0
      obtain ⟨z2, hz2⟩ : ∃ Y : World, Y = y.alloc (.cells #[.int .i64 0] 3) := ⟨_, rfl⟩
      have HB2 : Hid (Below y.heap.size y z2) := (show Below _ _ _ by rw [hz2]; exact al (Below.refl _ _) _)
      have HN2 : Hid (Below w.heap.size w z2) := below_next HBN.out HB2.out
      have HL2 : Hid (z2.heap[H + 1]? = some (.cells #[.slice none 0 0] tUs (0, 0))) := (HB2.out.block _ (Array.getElem?_eq_some_iff.1 (HKY.out _ _ HA.out.2.1)).1).trans (HKY.out _ _ HA.out.2.1)
      have HSQ : Hid (SeqG Fence.wide 11 Try.prog 59 #[.pointer (some ⟨gy, 0, none⟩), .pointer (some ⟨gy + 1, 0, none⟩)] encU (EntB z2) (fun xs => xs = []) (fun pre => pre <+: ([] : List Ent)) 0 z2) := (down_G0 11 (by decide) gy (gy + 1) (.pointer px) none 0 (.inl ⟨rfl, rfl⟩) rfl px rfl s1 s2 z2 (by rw [cell_of_row _ _ _ _ _ _ ((HB2.out.block _ (Array.getElem?_eq_some_iff.1 HT2.out.1).1).trans HT2.out.1)]; rfl) (box_range ((HB2.out.block _ (Array.getElem?_eq_some_iff.1 HT2.out.2).1).trans HT2.out.2)) (HZ.out.below HN2.out).pg)
      go_wp2_with fail
      rw [← hz2]
      clear hz2
      refine (wpIn_wide (n := 12)).1 ?_
      refine wpIn_rangeFunc_G rfl (by decide) (gf := 59) (lb := #[.pointer (some ⟨gy, 0, none⟩), .pointer (some ⟨gy + 1, 0, none⟩)]) rfl trivial (enters_of Try.func59 (by kernel_rfl) rfl) HSQ.out (fun k hk => hk.1) (fun _ => rfl)
        (fun pre Z V => Below z2.heap.size z2 V ∧ (∀ k, Z k → k < V.heap.size))
        (fun c pre Z V => False)
        ⟨fun s Z V V' row hs hg hr => ⟨hs.1.grown hg hs.1.size (fun r e => (hr r e).1), (fun k hk => by
            rcases hk with hk | ⟨-, hk⟩
            · exact Nat.lt_of_lt_of_le (hs.2 k hk) hg.size
            · exact hk)⟩, fun s Z Z' V hs hz => ⟨hs.1, fun k hk => hs.2 k (hz k hk)⟩⟩
        (fun c => ⟨fun s Z V V' row hs _ _ => hs, fun s Z Z' V hs _ => hs⟩)
        ⟨Below.refl _ _, fun k hk => hk.1⟩
        (fun x a' V => True)
        (fun x a' s A B row hs hg hr => trivial)
        ?assign ?body ?done ?stop
      case assign =>
        rintro l pre Z ⟨⟨x1, x2⟩, xn⟩ V K ⟨hb, hzl⟩ hK
        simp only [fold2, List.setIfInBounds_toArray, List.set_cons_zero, List.set_cons_succ]
        gi_wp2
        exact hK _ _ ((KeepsOthers.alloc _ _).from _) (fun k hk => Below.heap_alloc V _ k (hzl k hk)) ⟨hb.alloc hb.size _, (fun k hk => by have := hzl k hk; simp; omega)⟩ trivial
      case body =>
        rintro l pre Z ⟨⟨x1, x2⟩, xn⟩ a' V hl hlr hI hA hlt
        exact absurd hlt (Nat.not_lt_zero _)
      case stop =>
        rintro D9 c pre Z V hD hpre hno hK
        exact hno.elim
      case done =>
        rintro D ys Z V hD rfl ⟨hb, -⟩ hK
        have HV : Hid (Below w.heap.size w V) := below_next HN2.out hb
        have hl9 : V.heap[H + 1]? = some (.cells #[.slice none 0 0] tUs (0, 0)) := (hb.block _ (Array.getElem?_eq_some_iff.1 HL2.out).1).trans HL2.out
        have hcl9 : V.cell? ⟨H + 1, 0, none⟩ = some (.slice none 0 0) := by rw [cell_of_row _ _ _ _ _ _ hl9]; rfl
        have HDV : Hid (V.heap[D]? = some (.deferred (some []))) := hK
        have HDD : Hid (w.heap.size ≤ D) := (show _ ≤ _ by have := HN2.out.size; omega)
        clear hl9 hb hK hD hcl hcm hck
        dsimp only
        go_wp2_with fail
        refine ⟨by simp, .inl ⟨_, _, rfl, run_takeDeferred HDV.out, ?_⟩⟩
        exact ⟨_, results_tmp rfl _ _ _, rfl, HV.out.trans (belowK_b (w := w) (Nat.le_refl _) _ D _ _ HDD.out HDV.out rfl rfl)⟩
  · have hkdb : (kd == 10) = false := by simpa using hkd
    have HBWZ : Hid (Below w.heap.size w z) := below_next HBW.out HBZ.out
    have hcm : z.cell? ⟨H + 1 + 1, 0, none⟩ = some (.int .i64 m) := by rw [cell_of_row _ _ _ _ _ _ (HK.out _ _ HA.out.2.2)]; rfl
    have hcl : z.cell? ⟨H + 1, 0, none⟩ = some (.slice none 0 0) := by rw [cell_of_row _ _ _ _ _ _ (HK.out _ _ HA.out.2.1)]; rfl
    have HBN : Hid (Below w.heap.size w z) := HBWZ.out
    by_cases hm0 : m = 0
    · subst hm0
      go_wp2_with fail
      exact ⟨_, results_tmp rfl _ _ _, rfl, HBN.out⟩
    · have hm0b : (m == 0) = false := by simpa using hm0
      obtain ⟨z2, hz2⟩ : ∃ Y : World, Y = z.alloc (.cells #[.int .i64 0] 3) := ⟨_, rfl⟩
      have HB2 : Hid (Below z.heap.size z z2) := (show Below _ _ _ by rw [hz2]; exact al (Below.refl _ _) _)
      have HN2 : Hid (Below w.heap.size w z2) := below_next HBN.out HB2.out
      have HL2 : Hid (z2.heap[H + 1]? = some (.cells #[.slice none 0 0] tUs (0, 0))) := (HB2.out.block _ (Array.getElem?_eq_some_iff.1 (HK.out _ _ HA.out.2.1)).1).trans (HK.out _ _ HA.out.2.1)
      have HSQ : Hid (SeqG Fence.wide 11 Try.prog 57 #[.pointer (some ⟨gx, 0, none⟩), .pointer (some ⟨gx + 1, 0, none⟩)] encU (EntB z2) (fun xs => xs = []) (fun pre => pre <+: ([] : List Ent)) 0 z2) := (up_stops0 11 (by decide) gx (gx + 1) (.pointer px) none 0 (.inl ⟨rfl, rfl⟩) rfl px rfl s1 s2 z2 (by rw [cell_of_row _ _ _ _ _ _ ((HB2.out.block _ (Array.getElem?_eq_some_iff.1 HT.out.1).1).trans HT.out.1)]; rfl) (box_range ((HB2.out.block _ (Array.getElem?_eq_some_iff.1 HT.out.2).1).trans HT.out.2)) (HZ.out.below HN2.out).pg)
      go_wp2_with fail
      rw [← hz2]
      clear hz2
      refine (wpIn_wide (n := 12)).1 ?_
      refine wpIn_rangeFunc_G rfl (by decide) (gf := 57) (lb := #[.pointer (some ⟨gx, 0, none⟩), .pointer (some ⟨gx + 1, 0, none⟩)]) rfl trivial (enters_of Try.func57 (by kernel_rfl) rfl) HSQ.out (fun k hk => hk.1) (fun _ => rfl)
        (fun pre Z V => Below z2.heap.size z2 V ∧ (∀ k, Z k → k < V.heap.size))
        (fun c pre Z V => False)
        ⟨fun s Z V V' row hs hg hr => ⟨hs.1.grown hg hs.1.size (fun r e => (hr r e).1), (fun k hk => by
            rcases hk with hk | ⟨-, hk⟩
            · exact Nat.lt_of_lt_of_le (hs.2 k hk) hg.size
            · exact hk)⟩, fun s Z Z' V hs hz => ⟨hs.1, fun k hk => hs.2 k (hz k hk)⟩⟩
        (fun c => ⟨fun s Z V V' row hs _ _ => hs, fun s Z Z' V hs _ => hs⟩)
        ⟨Below.refl _ _, fun k hk => hk.1⟩
        (fun x a' V => True)
        (fun x a' s A B row hs hg hr => trivial)
        ?assign ?body ?done ?stop
      case assign =>
        rintro l pre Z ⟨⟨x1, x2⟩, xn⟩ V K ⟨hb, hzl⟩ hK
        simp only [fold2, List.setIfInBounds_toArray, List.set_cons_zero, List.set_cons_succ]
        gi_wp2
        exact hK _ _ ((KeepsOthers.alloc _ _).from _) (fun k hk => Below.heap_alloc V _ k (hzl k hk)) ⟨hb.alloc hb.size _, (fun k hk => by have := hzl k hk; simp; omega)⟩ trivial
      case body =>
        rintro l pre Z ⟨⟨x1, x2⟩, xn⟩ a' V hl hlr hI hA hlt
        exact absurd hlt (Nat.not_lt_zero _)
      case stop =>
        rintro D9 c pre Z V hD hpre hno hK
        exact hno.elim
      case done =>
        rintro D ys Z V hD rfl ⟨hb, -⟩ hK
        have HV : Hid (Below w.heap.size w V) := below_next HN2.out hb
        have hl9 : V.heap[H + 1]? = some (.cells #[.slice none 0 0] tUs (0, 0)) := (hb.block _ (Array.getElem?_eq_some_iff.1 HL2.out).1).trans HL2.out
        have hcl9 : V.cell? ⟨H + 1, 0, none⟩ = some (.slice none 0 0) := by rw [cell_of_row _ _ _ _ _ _ hl9]; rfl
        have HDV : Hid (V.heap[D]? = some (.deferred (some []))) := hK
        have HDD : Hid (w.heap.size ≤ D) := (show _ ≤ _ by have := HN2.out.size; omega)
        clear hl9 hb hK hD hcl hcm hck
        dsimp only
        go_wp2_with fail
        refine ⟨by simp, .inl ⟨_, _, rfl, run_takeDeferred HDV.out, ?_⟩⟩
        exact ⟨_, results_tmp rfl _ _ _, rfl, HV.out.trans (belowK_b (w := w) (Nat.le_refl _) _ D _ _ HDD.out HDV.out rfl rfl)⟩
end
end Go.Proofs.Ytibolgpaolnheac
namespace Go.Proofs.Ytibolgpaolnheac
set_option linter.unusedVariables false
set_option linter.unusedSimpArgs false
open Go.RowKit Go.Maps
variable {w w' : World} {B : Nat} {v : Value} {xs : List Nat}
/-- append of numbers, and where the row lies then -/
theorem wp_appN2 {ops : Array Oper} {rest : List Oper} {o : Oper} {a : Act} {Q : Exit → Act → World → Prop} (hgd : o.guard = none) (s x : Operand)
    (ho : o.op = .call { callee := .builtin .append, args := #[s, x], argTypes := #[tUs, tUs] }) (B : Nat) (v : Value) (xs ys : List Nat)
    (hs : a.eval s = v) (hown : OwnU w B v xs) (N n : Nat) (hn : n = ys.length) (hx : a.eval x = .slice (some ⟨N, 0, none⟩) n n) (cs : Array Value) (hcs : cs = (ys.map uv).toArray) (hN : w.heap[N]? = some (.cells cs tU1 (0, 0)))
    (hb : xs.length + n ≤ 5000000000000) (hbase : B ≤ w.heap.size)
    (h : ∀ v' w', OwnU w' B v' (xs ++ ys) → w.grownBy w' v.ownBlock → (v'.ownBlock = v.ownBlock ∨ v'.ownBlock = some w.heap.size) → wpList Try.prog ops Q rest (a.put o.dst v') w') : wpList Try.prog ops Q (o :: rest) a w := by
  subst hn hcs
  obtain ⟨i0, hi, hz0, hz1, hz2⟩ := info_parts info_u1
  obtain ⟨v', w', hr, h2, h3, -, h5⟩ := run_append_own_at (P := Try.prog) w B tUs o.type tU1 i0 _ 1 8 Try.underlying32 hi hz0 hz1 hz2 rfl (by decide) v xs.length (xs.map uv) hown ⟨N, 0, none⟩ ys.length ys.length (ys.map uv) (by simp) (by
    intro j u hj
    rw [Go.WideShapes.add_plain, Nat.zero_add, cell_of_row _ _ _ _ _ _ hN]
    simpa using hj) (by intro u hu; obtain ⟨y, -, rfl⟩ := List.mem_map.1 hu; rfl) (by simp only [maxLen]; omega) (by omega) hbase
  refine Lib.wpList_append_run w hgd s x tUs tUs ho v _ hs hx v' w' hr (h v' w' ?_ h3 h5)
  unfold OwnU
  rw [List.length_append, List.map_append]
  exact h2
theorem grown_al {u : World} (o1 o2 : Obj) {row : Option Nat} (hg : ((w.alloc o1).alloc o2).grownBy u row) : w.grownBy u row :=
  ⟨hg.os, hg.tape, hg.output, by have := hg.size; simp at this; omega, fun k hk hn => (hg.block k (by simp; omega) hn).trans ((al (al (Below.refl w.heap.size w) o1) o2).block k hk)⟩
section
set_option maxRecDepth 20000
set_option maxHeartbeats 3200000
theorem two_k (v : Value) (xs : List Nat) (s1 s2 n : Nat) (w : World) (h : OwnU w B v xs) (hB : B ≤ w.heap.size) (hl : xs.length ≤ 4398046511104) :
    Calls Try.prog 24 #[v, sv (s1, s2), uv n] w fun e w' => ∃ v', e = .returned v' ∧ OwnU w' B v' (xs ++ [s1, s2, n]) ∧ w.grownBy w' v.ownBlock ∧ (∀ b, v'.ownBlock = some b → v.ownBlock = some b ∨ w.heap.size ≤ b) := by
  have HO : Hid (∀ ob, OwnU (w.alloc ob) B v xs) := fun ob => OwnU.below h (al (Below.refl _ _) _)
  have HL : Hid (xs.length ≤ 4398046511104) := hl
  have HBB : Hid (B ≤ w.heap.size) := hB
  obtain ⟨a9, c9, hv9, -⟩ := OwnU.val h
  obtain ⟨M, hM⟩ : ∃ M, M = xs.length := ⟨_, rfl⟩
  rw [← hM] at hv9
  subst hv9
  clear h hB hl hM
  go_enter Try.func24, Try.ntmps24
  go_wp2_with (first | (at_builtin; go_loud (refine wp_appN2 rfl _ _ rfl B _ xs [s1, s2, n] (by rfl) (OwnU.below (HO.out _) (al (Below.refl _ _) _)) _ 3 rfl (by rfl) _ rfl (two_new w _ _).2 (by have := HL.out; omega) (by have := HBB.out; simp; omega) ?_; intro v2 w2 hown hg hbk; have HOWN2 : Hid _ := hown; have HG2 : Hid _ := grown_al _ _ hg; have HBK : Hid _ := hbk; clear hown hg hbk)))
  go_ret
  refine ⟨_, rfl, HOWN2.out, HG2.out, fun b hb => ?_⟩
  have h9 := HBK.out
  rcases h9 with h9 | h9
  · left; rw [← h9]; exact hb
  · right; have h8 := h9.symm.trans hb; have h7 := Option.some.inj h8; simp at h7; omega
end
end Go.Proofs.Ytibolgpaolnheac
