import Derived.Test.YtnfikcegmicooabDoorLwG
namespace Go.Proofs.YtnfikcegmicooabDoor
set_option linter.unusedVariables false
set_option linter.unusedSimpArgs false
open Go.RowKit Go.Maps Go.Shelf
set_option maxRecDepth 20000 in
set_option maxHeartbeats 3200000 in
theorem wheelRings_walk (n0 n1 : Int) (a : Option Addr) (len cap : Nat) (xs : List Wop) (w : World) (w0 : (Lit.int .u64 n0).wf = true) (w1 : (Lit.int .u64 n1).wf = true) (hx : len = xs.length) (hr : RdW w a xs) (hc : len ≤ 4398046511103) (ht : TabZ w) :
    Calls Tryd.prog 5 #[.int .u64 n0, .int .u64 n1, .slice a len cap] w fun e w' => e = .returned (.bool true) ∧ Below w.heap.size w w' := by
  obtain ⟨x0, rfl, -⟩ := u64_of w0
  obtain ⟨x1, rfl, -⟩ := u64_of w1
  have HT : Hid _ := ht
  have HX : Hid _ := hx
  have HRD : Hid _ := hr
  clear ht w0 w1 hx hr
  go_enter Tryd.func5, Tryd.ntmps5
  go_wp2_with fail
  have hb : Below w.heap.size w (w.alloc (Obj.cells #[.int .i64 3] 3)) := al (Below.refl _ _) _
  refine Calls.mono (holds_t x0 x1 a len cap w.heap.size 3 xs _ HX.out (RdW.below HRD.out hb) hc (by rw [cell_of_row _ _ _ _ _ _ (heap_alloc_new w _)]; rfl) (TabZ.below HT.out hb)) ?_
  rintro e w2 ⟨rfl, hb2⟩
  have HB2 : Hid (Below w.heap.size w w2) := below_next hb hb2
  clear hb hb2
  go_wp2
  go_ret
  exact ⟨rfl, HB2.out⟩
end Go.Proofs.YtnfikcegmicooabDoor
