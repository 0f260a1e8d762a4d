import Derived.Test.YtcpbecchkgcpdaaGreatDoorFNo
namespace Go.Proofs.YtcpbecchkgcpdaaGreatDoor
set_option linter.unusedVariables false
set_option linter.unusedSimpArgs false
open Go.RowKit
set_option maxRecDepth 20000 in
set_option maxHeartbeats 3200000 in
theorem freightNone_walk (w : World) : Calls Tryz.prog 4 #[] w fun e w' => e = .returned (.bool true) ∧ Below w.heap.size w w' := by
  obtain ⟨w1, hw1⟩ : ∃ w1, w1 = w.alloc (.cells #[.int .i64 0, .int .u64 0, .int .i64 0, .int .i64 0, .int .u64 0, .int .u64 0, .slice none 0 0, .map none, .pointer none] 55) := ⟨_, rfl⟩
  have h9 : w1.heap[w.heap.size]? = some (.cells #[.int .i64 0, .int .u64 0, .int .i64 0, .int .i64 0, .int .u64 0, .int .u64 0, .slice none 0 0, .map none, .pointer none] 55 (0, 0)) := by rw [hw1]; exact heap_alloc_new _ _
  have hz : S0 w1 (some ⟨w.heap.size, 0, none⟩) := .inr ⟨_, rfl, by rw [cell_of_row _ _ _ _ _ _ h9]; rfl⟩
  have hb1 : Below w.heap.size w w1 := by rw [hw1]; exact alx (Below.refl _ _) (Nat.le_refl _) _
  have HZ : Hid (∀ u, Below w1.heap.size w1 u → S0 u (some ⟨w.heap.size, 0, none⟩)) := fun u hu => hz.below hu
  have HN : Hid (∀ u : World, S0 u none) := fun u => .inl rfl
  have HB1 : Hid _ := hb1
  have HW1 : Hid (w1 = _) := hw1
  have HC5 : Hid (Calls _ _ _ w1 _) := xhear_no (HZ.out w1 (Below.refl _ _)) 2 1 1 1
  clear h9 hz hb1 hw1
  go_enter Tryz.func4, Tryz.ntmps4
  go_wp2_with fail
  rw [← HW1.out]
  refine Calls.mono HC5.out ?_
  rintro e w6 ⟨rfl, hb6⟩
  have HB6 : Hid (Below w1.heap.size w1 w6) := hb6
  obtain ⟨w7, hw7⟩ : ∃ w7, w7 = w6.alloc (.cells #[.int .i64 0, .int .u64 0, .int .i64 0] 57) := ⟨_, rfl⟩
  have HB7 : Hid (Below w1.heap.size w1 w7) := by rw [hw7]; exact alx HB6.out HB6.out.size _
  have hd7 : w7.heap[w6.heap.size]? = some (.cells #[.int .i64 0, .int .u64 0, .int .i64 0] 57 (0, 0)) := by rw [hw7]; exact heap_alloc_new _ _
  have HC7 : Hid (Calls _ _ _ w7 _) := xstop_no (HN.out w7) 0 0
  have HW7 : Hid (w7 = _) := hw7
  have HD7 : Hid _ := hd7
  clear hb6 hw7 hd7
  go_wp2_with fail
  rw [← HW7.out]
  refine Calls.mono HC7.out ?_
  rintro e w8 ⟨rfl, hb8⟩
  have hd8 := (hb8.block _ (Array.getElem?_eq_some_iff.1 HD7.out).1).trans HD7.out
  have c0 : w8.cell? ⟨w6.heap.size, 0, none⟩ = some (.int .i64 0) := by rw [cell_of_row _ _ _ _ _ _ hd8]; rfl
  have c1 : w8.cell? ⟨w6.heap.size, 1, none⟩ = some (.int .u64 0) := by rw [cell_of_row _ _ _ _ _ _ hd8]; rfl
  have c2 : w8.cell? ⟨w6.heap.size, 2, none⟩ = some (.int .i64 0) := by rw [cell_of_row _ _ _ _ _ _ hd8]; rfl
  have HB8 : Hid (Below w1.heap.size w1 w8) := HB7.out.trans (hb8.mono HB7.out.size)
  have hZ8 := HZ.out w8 HB8.out
  have HZ8 : Hid _ := hZ8
  obtain ⟨w9, hw9⟩ : ∃ w9, w9 = w8.alloc (.cells #[.int .u8 1] 5) := ⟨_, rfl⟩
  have HB9 : Hid (Below w1.heap.size w1 w9) := by rw [hw9]; exact alx HB8.out HB8.out.size _
  have HC9 : Hid (Calls _ _ _ w9 _) := xqueue_no (HZ.out w9 HB9.out) 0 0 (some ⟨w8.heap.size, 0, none⟩) 1 1
  have HW9 : Hid (w9 = _) := hw9
  clear hb8 hd8 hZ8 hw9
  go_wp2_with (first
    | (go_at_call 14; refine Calls.mono (xrun_no (by first | exact HZ8.out | exact HN.out _) 1 5) ?_; rintro e u9 ⟨rfl, hq⟩; have hq := hq.symm; subst hq)
    | (go_at_call 15; refine Calls.mono (xtick_no (by first | exact HZ8.out | exact HN.out _) 9) ?_; rintro e u9 ⟨rfl, hq⟩; have hq := hq.symm; subst hq))
  rw [← HW9.out]
  refine Calls.mono HC9.out ?_
  rintro e w10 ⟨rfl, hb10⟩
  have HB10 : Hid (Below w1.heap.size w1 w10) := HB9.out.trans (hb10.mono HB9.out.size)
  obtain ⟨w11, hw11⟩ : ∃ w11, w11 = w10.alloc (.cells #[.int .u8 1] 5) := ⟨_, rfl⟩
  have HB11 : Hid (Below w1.heap.size w1 w11) := by rw [hw11]; exact alx HB10.out HB10.out.size _
  have HC11 : Hid (Calls _ _ _ w11 _) := xqueue_no (HN.out w11) 0 0 (some ⟨w10.heap.size, 0, none⟩) 1 1
  have HW11 : Hid (w11 = _) := hw11
  clear hb10 hw11 c0 c1 c2
  go_wp2_with fail
  rw [← HW11.out]
  refine Calls.mono HC11.out ?_
  rintro e w12 ⟨rfl, hb12⟩
  have HB12 : Hid (Below w1.heap.size w1 w12) := HB11.out.trans (hb12.mono HB11.out.size)
  have HZ12 : Hid _ := HZ.out w12 HB12.out
  clear hb12
  go_wp2_with (first
    | (go_at_call 13; refine Calls.mono (xwait_no (by first | exact HZ12.out | exact HN.out _)) ?_; rintro e u9 ⟨rfl, hq⟩; have hq := hq.symm; subst hq)
    | (go_at_call 16; refine Calls.mono (xbusy_no (by first | exact HZ12.out | exact HN.out _)) ?_; rintro e u9 ⟨rfl, hq⟩; have hq := hq.symm; subst hq))
  go_ret
  exact ⟨rfl, HB1.out.trans (HB12.out.mono HB1.out.size)⟩
end Go.Proofs.YtcpbecchkgcpdaaGreatDoor
