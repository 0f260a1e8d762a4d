import Derived.Test.YtnfikcegmicooaaDoorRfB
import Derived.Test.YtnfikcegmicooaaDoorWWNil
namespace Go.Proofs.YtnfikcegmicooaaDoor
set_option linter.unusedVariables false
set_option linter.unusedSimpArgs false
open Go.RowKit Go.Maps Go.Shelf
set_option maxRecDepth 20000 in
set_option maxHeartbeats 3200000 in
theorem wheelNames_walk (now : Int) (w : World) (hn : (Lit.int .u64 now).wf = true) (ht : TabZ w) : Calls Tryd.prog 7 #[.int .u64 now] w fun e w' => e = .returned (.bool true) ∧ Below w.heap.size w w' := by
  obtain ⟨now, rfl, hn6⟩ := u64_of hn
  have HT : Hid _ := ht
  clear ht hn
  go_enter Tryd.func7, Tryd.ntmps7
  go_wp2_with fail
  refine Calls.mono (new_t now w (World.block_lt_of_cell? w _ (HT.out 0 (by decide)))) ?_
  rintro e w1 ⟨p, m, V, rfl, h1, hb1, -⟩
  have H1 : Hid _ := h1
  have HB1 : Hid _ := hb1
  clear h1 hb1
  go_wp2_with fail
  refine Calls.mono (knows_t w1 (TabZ.below HT.out HB1.out)) ?_
  rintro e w2 ⟨rfl, hb2⟩
  have H2 : Hid _ := Wt.below H1.out hb2
  have HB2 : Hid (Below w.heap.size w w2) := below_next HB1.out hb2
  clear hb2
  go_wp2_with fail
  refine Calls.mono (rnew_t now w2) ?_
  rintro e w3 ⟨rfl, h3, hb3⟩
  have H3 : Hid _ := h3
  have HW3 : Hid _ := Wt.below H2.out hb3
  have HB3 : Hid (Below w.heap.size w w3) := below_next HB2.out hb3
  clear h3 hb3
  go_wp2_with fail
  refine Calls.mono (shows_t HW3.out H3.out (TabZ.below HT.out HB3.out)) ?_
  rintro e w4 ⟨rfl, hb4⟩
  have HB4 : Hid (Below w.heap.size w w4) := below_next HB3.out hb4
  clear hb4
  go_wp2
  go_ret
  exact ⟨rfl, HB4.out⟩
end Go.Proofs.YtnfikcegmicooaaDoor
