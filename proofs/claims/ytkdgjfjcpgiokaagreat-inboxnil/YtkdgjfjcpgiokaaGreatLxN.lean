import Derived.Test.YtkdgjfjcpgiokaaGreatLxO
namespace Go.Proofs.YtkdgjfjcpgiokaaGreat
set_option linter.unusedVariables false
set_option linter.unusedSimpArgs false
open Go.RowKit Go.Maps
section
variable {w w' : World}
set_option maxRecDepth 20000
set_option maxHeartbeats 3200000
theorem nothing_t {q : Option Addr} (h : I0 w q) (x : UnM) : Calls Tryz.prog 10 #[.pointer q, .agg x.c] w fun e w' => e = .returned (.bool true) ∧ Below w.heap.size w w' := by
  obtain ⟨⟨k, e, se, pa, i, c, xs, cd, l⟩, da, dn, dc, ga, gn, gc⟩ := x
  have HT : Hid (∀ u, Below w.heap.size w u → Calls _ _ _ u _) := fun u hu => take_no (h.below hu) k e se pa i c da dn dc cd ga gn gc
  have HD : Hid (∀ (c : Int) u, Below w.heap.size w u → Calls _ _ _ u _) := fun c u hu => dec_no (h.below hu) (1, 1) c
  have HP : Hid (∀ u, Below w.heap.size w u → Calls _ _ _ u _) := fun u hu => drop_none (h.below hu) (1, 1)
  have HE : Hid (∀ u, Below w.heap.size w u → Calls _ _ _ u _) := fun u hu => iepoch_no (h.below hu)
  have HO : Hid (∀ u, Below w.heap.size w u → Calls _ _ _ u _) := fun u hu => iopen_no (h.below hu)
  have HS : Hid (∀ u, Below w.heap.size w u → Calls _ _ _ u _) := fun u hu => idecd_no (h.below hu)
  clear h
  go_enter Tryz.func10, Tryz.ntmps10
  go_wp2_with fail
  refine Calls.mono (HT.out _ (al (Below.refl _ _) _)) ?_
  rintro e1 w1 ⟨rfl, hb1⟩
  have HB1 : Hid (Below w.heap.size w w1) := below_next (al (Below.refl w.heap.size w) _) hb1
  clear hb1
  unfold ansV
  obtain ⟨w2, hw2⟩ : ∃ w2, w2 = (w1.alloc (.cells #[.int .i64 0, .int .i64 0, .slice none 0 0, .slice none 0 0] 59)).alloc (.cells #[.int .u64 1, .int .u64 1] tSs) := ⟨_, rfl⟩
  have hb2 : Below w1.heap.size w1 w2 := by rw [hw2]; exact al (al (Below.refl _ _) _) _
  have HB2 : Hid (Below w.heap.size w w2) := below_next HB1.out hb2
  obtain ⟨P, hP⟩ : ∃ P, P = w1.heap.size := ⟨_, rfl⟩
  have hA : w2.heap[P]? = some (.cells #[.int .i64 0, .int .i64 0, .slice none 0 0, .slice none 0 0] 59 (0, 0)) := by
    rw [hw2, hP]
    exact (Below.heap_alloc (w1.alloc _) _ _ (by simp)).trans (heap_alloc_new w1 _)
  have hK : w2.heap[P + 1]? = some (.cells #[.int .u64 1, .int .u64 1] tSs (0, 0)) := by
    rw [hw2, hP]
    have h9 := heap_alloc_new (w1.alloc (.cells #[.int .i64 0, .int .i64 0, .slice none 0 0, .slice none 0 0] 59)) (.cells #[.int .u64 1, .int .u64 1] tSs)
    rw [World.size_alloc] at h9
    exact h9
  have HKC : Hid (∀ u, Below w2.heap.size w2 u → u.cell? ⟨P + 1, 0, none⟩ = some (.int .u64 1) ∧ u.cell? ⟨P + 1, 1, none⟩ = some (.int .u64 1)) := fun u hu => by
    have h9 := (hu.block (P + 1) (Array.getElem?_eq_some_iff.1 hK).1).trans hK
    exact ⟨by rw [cell_of_row _ _ _ _ _ _ h9]; rfl, by rw [cell_of_row _ _ _ _ _ _ h9]; rfl⟩
  have hc2 := HKC.out w2 (Below.refl _ _)
  obtain ⟨a0, a1, a2, a3, -⟩ := ansCell hA
  have HW2 : Hid (w2 = _) := hw2
  have HPW : Hid (P = w1.heap.size) := hP
  clear hA hK hb2 hw2 hP
  go_wp2_with fail
  rw [← HW2.out, ← HPW.out]
  refine Calls.mono (HD.out 1 _ HB2.out) ?_
  rintro e3 w3 ⟨rfl, hb3⟩
  have HB23 : Hid (Below w2.heap.size w2 w3) := hb3
  have HB3 : Hid (Below w.heap.size w w3) := below_next HB2.out hb3
  have hc3 := HKC.out w3 hb3
  clear hb3 hc2
  go_wp2_with fail
  refine Calls.mono (HD.out 0 _ HB3.out) ?_
  rintro e4 w4 ⟨rfl, hb4⟩
  have HB24 : Hid (Below w2.heap.size w2 w4) := below_next HB23.out hb4
  have HB4 : Hid (Below w.heap.size w w4) := below_next HB3.out hb4
  have hc4 := HKC.out w4 HB24.out
  clear hb4 hc3
  go_wp2_with fail
  refine Calls.mono (HP.out _ HB4.out) ?_
  rintro e5 w5 ⟨rfl, hb5⟩
  have HB5 : Hid (Below w.heap.size w w5) := below_next HB4.out hb5
  clear hb5
  go_wp2_with (first | (go_at_call 23; refine Calls.mono (HE.out _ HB5.out) ?_; rintro e w' ⟨rfl, hq⟩; have hq := hq.symm; subst hq) | (go_at_call 20; refine Calls.mono (HO.out _ HB5.out) ?_; rintro e w' ⟨rfl, hq⟩; have hq := hq.symm; subst hq) | (go_at_call 22; refine Calls.mono (HS.out _ HB5.out) ?_; rintro e w' ⟨rfl, hq⟩; have hq := hq.symm; subst hq))
  go_ret
  exact ⟨rfl, HB5.out⟩
theorem inboxNil_walk (x : UnM) (w : World) : Calls Tryz.prog 4 #[.agg x.c] w fun e w' => e = .returned (.bool true) ∧ Below w.heap.size w w' := by
  obtain ⟨w1, hw1⟩ : ∃ w1, w1 = w.alloc (.cells x.c tUn) := ⟨_, rfl⟩
  have hb1 : Below w.heap.size w w1 := by rw [hw1]; exact al (Below.refl _ _) _
  obtain ⟨P, hP⟩ : ∃ P, P = w.heap.size := ⟨_, rfl⟩
  have hU : w1.heap[P]? = some (.cells x.c tUn (0, 0)) := by rw [hw1, hP]; exact heap_alloc_new w _
  have HK : Hid _ := knows_t w1
  have HU : Hid _ := hU
  have HB1 : Hid _ := hb1
  have HW1 : Hid (w1 = _) := hw1
  have HP : Hid (P = w.heap.size) := hP
  obtain ⟨⟨k, e, se, pa, i, c, xs, cd, l⟩, da, dn, dc, ga, gn, gc⟩ := x
  clear hU hb1 hw1 hP
  go_enter Tryz.func4, Tryz.ntmps4
  go_wp2_with fail
  rw [← HW1.out, ← HP.out]
  refine Calls.mono HK.out ?_
  rintro e2 w2 ⟨rfl, hb2⟩
  have HU2 : Hid (w2.heap[P]? = _) := (hb2.block P (Array.getElem?_eq_some_iff.1 HU.out).1).trans HU.out
  have HB2 : Hid (Below w.heap.size w w2) := below_next HB1.out hb2
  obtain ⟨a0, a1, a2, a3, a4, a5, a6, a7, a8⟩ := unCell HU2.out
  have HN2 : Hid (Calls _ _ _ w2 _) := nothing_t (q := none) (.inl rfl) ⟨⟨k, e, se, pa, i, c, xs, cd, l⟩, da, dn, dc, ga, gn, gc⟩
  clear hb2
  go_wp2_with fail
  refine Calls.mono HN2.out ?_
  rintro e3 w3 ⟨rfl, hb3⟩
  have HU3 : Hid (w3.heap[P]? = _) := (hb3.block P (Array.getElem?_eq_some_iff.1 HU2.out).1).trans HU2.out
  have HB3 : Hid (Below w.heap.size w w3) := below_next HB2.out hb3
  obtain ⟨b0, b1, b2, b3, b4, b5, b6, b7, b8⟩ := unCell HU3.out
  have hp3 : P < w3.heap.size := (Array.getElem?_eq_some_iff.1 HU3.out).1
  have HN3 : Hid (Calls _ _ _ (w3.alloc (.cells #[.int .u64 0, .int .i64 0, .int .u64 0, .map none, .int .i64 0, .int .u64 0, .map none] tIb)) _) := nothing_t (q := some ⟨w3.heap.size, 0, none⟩) (.inr ⟨_, rfl, by rw [cell_of_row _ _ _ _ _ _ (heap_alloc_new w3 _)]; rfl⟩) ⟨⟨k, e, se, pa, i, c, xs, cd, l⟩, da, dn, dc, ga, gn, gc⟩
  clear hb3 a0 a1 a2 a3 a4 a5 a6 a7 a8
  go_wp2_with fail
  refine Calls.mono HN3.out ?_
  rintro e4 w4 ⟨rfl, hb4⟩
  go_wp2
  go_ret
  exact ⟨rfl, below_next (al HB3.out _) hb4⟩
end
end Go.Proofs.YtkdgjfjcpgiokaaGreat
