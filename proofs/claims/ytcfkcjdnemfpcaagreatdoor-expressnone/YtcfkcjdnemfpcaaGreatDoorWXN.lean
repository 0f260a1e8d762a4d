import Derived.Test.YtcfkcjdnemfpcaaGreatDoorXNo
namespace Go.Proofs.YtcfkcjdnemfpcaaGreatDoor
set_option linter.unusedVariables false
set_option linter.unusedSimpArgs false
open Go.RowKit
set_option maxRecDepth 20000 in
set_option maxHeartbeats 3200000 in
theorem expressNone_walk (w : World) : Calls Tryz.prog 3 #[] w fun e w' => e = .returned (.bool true) ∧ Below w.heap.size w w' := by
  obtain ⟨w1, hw1⟩ : ∃ w1, w1 = w.alloc (.cells #[.int .i64 0, .int .u64 0, .int .u64 0, .int .u64 0, .int .u64 0, .map none, .map none, .pointer none] 28) := ⟨_, rfl⟩
  have h9 : w1.heap[w.heap.size]? = some (.cells #[.int .i64 0, .int .u64 0, .int .u64 0, .int .u64 0, .int .u64 0, .map none, .map none, .pointer none] 28 (0, 0)) := by rw [hw1]; exact heap_alloc_new _ _
  have hz : S0 w1 (some ⟨w.heap.size, 0, none⟩) := .inr ⟨_, rfl, by rw [cell_of_row _ _ _ _ _ _ h9]; rfl⟩
  have hb1 : Below w.heap.size w w1 := by rw [hw1]; exact alx (Below.refl _ _) (Nat.le_refl _) _
  have HZ : Hid (∀ u, Below w1.heap.size w1 u → S0 u (some ⟨w.heap.size, 0, none⟩)) := fun u hu => hz.below hu
  have HN : Hid (∀ u : World, S0 u none) := fun u => .inl rfl
  have HB1 : Hid _ := hb1
  have HW1 : Hid (w1 = _) := hw1
  obtain ⟨w2, hw2⟩ : ∃ w2, w2 = w1.alloc (.cells #[.int .u8 1] 5) := ⟨_, rfl⟩
  have hb2 : Below w1.heap.size w1 w2 := by rw [hw2]; exact alx (Below.refl _ _) (Nat.le_refl _) _
  have HC2 : Hid (Calls _ _ _ w2 _) := xbegin_no (HZ.out w2 hb2) 1 0 0 (some ⟨w.heap.size + 1, 0, none⟩) 1 1 0
  have HB2 : Hid _ := hb2
  have HW2 : Hid (w2 = _) := hw2
  clear h9 hz hb1 hw1 hb2 hw2
  go_enter Tryz.func3, Tryz.ntmps3
  go_wp2_with fail
  rw [← HW1.out, ← HW2.out]
  refine Calls.mono HC2.out ?_
  rintro e w3 ⟨rfl, hb3⟩
  have HB3 : Hid (Below w1.heap.size w1 w3) := HB2.out.trans (hb3.mono HB2.out.size)
  obtain ⟨w4, hw4⟩ : ∃ w4, w4 = w3.alloc (.cells #[.int .u8 1] 5) := ⟨_, rfl⟩
  have HC4 : Hid (Calls _ _ _ w4 _) := xbegin_no (HN.out w4) 1 0 0 (some ⟨w3.heap.size, 0, none⟩) 1 1 0
  have HB4 : Hid (Below w1.heap.size w1 w4) := by rw [hw4]; exact alx HB3.out HB3.out.size _
  have HW4 : Hid (w4 = _) := hw4
  clear hb3 hw4
  go_wp2_with fail
  rw [← HW4.out]
  refine Calls.mono HC4.out ?_
  rintro e w5 ⟨rfl, hb5⟩
  have HB5 : Hid (Below w1.heap.size w1 w5) := HB4.out.trans (hb5.mono HB4.out.size)
  have HC5 : Hid (Calls _ _ _ w5 _) := xhear_no (HZ.out w5 HB5.out) 2 1 1 1
  clear hb5
  go_wp2_with fail
  refine Calls.mono HC5.out ?_
  rintro e w6 ⟨rfl, hb6⟩
  have HB6 : Hid (Below w1.heap.size w1 w6) := HB5.out.trans (hb6.mono HB5.out.size)
  obtain ⟨w7, hw7⟩ : ∃ w7, w7 = w6.alloc (.cells #[.int .i64 0, .int .u64 0, .int .i64 0] 37) := ⟨_, rfl⟩
  have HB7 : Hid (Below w1.heap.size w1 w7) := by rw [hw7]; exact alx HB6.out HB6.out.size _
  have hd7 : w7.heap[w6.heap.size]? = some (.cells #[.int .i64 0, .int .u64 0, .int .i64 0] 37 (0, 0)) := by rw [hw7]; exact heap_alloc_new _ _
  have HC7 : Hid (Calls _ _ _ w7 _) := xstop_no (HN.out w7) 0 0
  have HW7 : Hid (w7 = _) := hw7
  have HD7 : Hid _ := hd7
  clear hb6 hw7 hd7
  go_wp2_with fail
  rw [← HW7.out]
  refine Calls.mono HC7.out ?_
  rintro e w8 ⟨rfl, hb8⟩
  have hd8 := (hb8.block _ (Array.getElem?_eq_some_iff.1 HD7.out).1).trans HD7.out
  have c0 : w8.cell? ⟨w6.heap.size, 0, none⟩ = some (.int .i64 0) := by rw [cell_of_row _ _ _ _ _ _ hd8]; rfl
  have c1 : w8.cell? ⟨w6.heap.size, 1, none⟩ = some (.int .u64 0) := by rw [cell_of_row _ _ _ _ _ _ hd8]; rfl
  have c2 : w8.cell? ⟨w6.heap.size, 2, none⟩ = some (.int .i64 0) := by rw [cell_of_row _ _ _ _ _ _ hd8]; rfl
  have HB8 : Hid (Below w1.heap.size w1 w8) := HB7.out.trans (hb8.mono HB7.out.size)
  have hZ8 := HZ.out w8 HB8.out
  have HZ8 : Hid _ := hZ8
  clear hb8 hd8 hZ8
  go_wp2_with (first
    | (go_at_call 9; refine Calls.mono (xtick_no (by first | exact HZ8.out | exact HN.out _) 5) ?_; rintro e u9 ⟨rfl, hq⟩; have hq := hq.symm; subst hq)
    | (go_at_call 10; refine Calls.mono (xbusy_no (by first | exact HZ8.out | exact HN.out _)) ?_; rintro e u9 ⟨rfl, hq⟩; have hq := hq.symm; subst hq))
  go_ret
  exact ⟨rfl, HB1.out.trans (HB8.out.mono HB1.out.size)⟩
end Go.Proofs.YtcfkcjdnemfpcaaGreatDoor
