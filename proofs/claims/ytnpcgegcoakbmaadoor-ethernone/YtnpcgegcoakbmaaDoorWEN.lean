import Derived.Test.YtnpcgegcoakbmaaDoorED
namespace Go.Proofs.YtnpcgegcoakbmaaDoor
set_option linter.unusedVariables false
set_option linter.unusedSimpArgs false
open Go.RowKit
theorem W0.below {w w' : World} {q : Option Addr} (h : W0 w q) (hb : Below w.heap.size w w') : W0 w' q := by
  rcases h with rfl | ⟨p, rfl, hc⟩
  · exact .inl rfl
  · exact .inr ⟨p, rfl, (hb.cell (World.block_lt_of_cell? w _ hc)).trans hc⟩
set_option maxRecDepth 20000 in
set_option maxHeartbeats 3200000 in
theorem etherNone_walk (w : World) : Calls Tryd.prog 3 #[] w fun e w' => e = .returned (.bool true) ∧ Below w.heap.size w w' := by
  have hz : W0 (w.alloc (.cells #[.int .i64 0, .slice none 0 0] 25)) (some ⟨w.heap.size, 0, none⟩) := .inr ⟨_, rfl, by rw [cell_of_row _ _ _ _ _ _ (heap_alloc_new w _)]; rfl⟩
  have HZ : Hid _ := hz
  have HB : Hid (Below w.heap.size w (w.alloc (.cells #[.int .i64 0, .slice none 0 0] 25))) := al (Below.refl _ _) _
  have HN : Hid (∀ u : World, W0 u none) := fun u => .inl rfl
  clear hz
  obtain ⟨w1, hw1⟩ : ∃ w1, w1 = w.alloc (.cells #[.int .i64 0, .slice none 0 0] 25) := ⟨_, rfl⟩
  go_enter Tryd.func3, Tryd.ntmps3
  go_wp2_with fail
  rw [← hw1] at HZ HB ⊢
  clear hw1
  refine Calls.mono (look_no HZ.out 0) ?_
  rintro e w2 ⟨rfl, hq⟩
  have hq := hq.symm
  subst hq
  go_wp2_with (first
    | (go_at_call 8; refine Calls.mono (take_no (by first | exact HZ.out | exact HN.out _) 0) ?_; rintro e w2 ⟨rfl, hq⟩; have hq := hq.symm; subst hq)
    | (go_at_call 9; refine Calls.mono (len_no (by first | exact HZ.out | exact HN.out _)) ?_; rintro e w2 ⟨rfl, hq⟩; have hq := hq.symm; subst hq)
    | (go_at_call 10; refine Calls.mono (put_no (by first | exact HZ.out | exact HN.out _) _) ?_; rintro e w2 ⟨rfl, hq⟩; have hq := hq.symm; subst hq)
    | (go_at_call 11; refine Calls.mono (drop_no (by first | exact HZ.out | exact HN.out _) _) ?_; rintro e w2 ⟨rfl, hq⟩; have hq := hq.symm; subst hq)
    | (go_at_call 12; refine Calls.mono (double_no (by first | exact HZ.out | exact HN.out _) _) ?_; rintro e w2 ⟨rfl, hq⟩; have hq := hq.symm; subst hq)
    | (go_at_call 13; refine Calls.mono (turn_no (by first | exact HZ.out | exact HN.out _) _ _ _) ?_; rintro e w2 ⟨rfl, hq⟩; have hq := hq.symm; subst hq))
  go_ret
  first
    | exact ⟨rfl, HB.out⟩
    | exact ⟨rfl, al HB.out _⟩
end Go.Proofs.YtnpcgegcoakbmaaDoor
