import Derived.Test.YthpebfibpopinaaGreatDoorBNq
namespace Go.Proofs.YthpebfibpopinaaGreatDoor
set_option linter.unusedVariables false
set_option linter.unusedSimpArgs false
open Go.RowKit
section
set_option maxRecDepth 20000
set_option maxHeartbeats 6400000
theorem backlogNone_walk (w : World) : Calls Tryz.prog 3 #[] w fun e w' => e = .returned (.bool true) ∧ Below w.heap.size w w' := by
  go_enter Tryz.func3, Tryz.ntmps3
  go_wp2_with fail
  refine Calls.mono (open_z (.inl rfl)) ?_
  rintro e w1 ⟨rfl, hb1⟩
  have HB1 : Hid (Below w.heap.size w w1) := hb1
  clear hb1
  have HZT : Hid (∀ (x : Value) cs, ZT (w1.alloc (.cells #[x, .pointer none, .map none, .slice none 0 0, .int .i64 0, .int .i64 0, .int .i64 0, .int .i64 0] cs)) (.pointer (some ⟨w1.heap.size, 0, none⟩))) := (fun x cs => .inr ⟨_, rfl, by rw [cell_of_row _ _ _ _ _ _ (heap_alloc_new w1 _)]; rfl⟩)
  go_wp2_with fail
  refine Calls.mono (open_z (HZT.out _ _)) ?_
  rintro e w2 ⟨rfl, hb2⟩
  have HB2 : Hid (Below w.heap.size w w2) := below_next (al HB1.out _) hb2
  clear hb2 HZT
  obtain ⟨w3, hw3⟩ : ∃ X : World, X = w2.alloc (.cells #[.pointer none, .bool false, .int .u64 0, .int .u64 0, .int .u64 0, .bool false, .int .u64 0, .int .u64 0, .int .u64 0, .bool false, .int .u64 0, .int .u64 0, .int .u64 0, .bool false, .int .u64 0, .int .u64 0, .int .u64 0, .bool false, .int .u64 0, .int .u64 0, .int .u64 0, .bool false, .int .u64 0, .int .u64 0, .int .u64 0, .bool false, .int .u64 0, .int .u64 0, .int .u64 0, .bool false, .int .u64 0, .int .u64 0, .int .u64 0, .map none] 43) := ⟨_, rfl⟩
  obtain ⟨g, hg⟩ : ∃ g, g = w2.heap.size := ⟨_, rfl⟩
  have HC3 : Hid (w3.cell? ⟨g, 0, none⟩ = some (.pointer none)) := (show _ = _ by rw [hw3, hg, cell_of_row _ _ _ _ _ _ (heap_alloc_new w2 _)]; rfl)
  have HB3 : Hid (Below w.heap.size w w3) := (show Below _ _ _ by rw [hw3]; exact al HB2.out _)
  go_upto_region 6 with fail
  rw [← hw3]
  simp only [← hg]
  clear hw3 hg
  go_wp2_with fail
  refine Calls.mono (put_z HC3.out) ?_
  rintro e w4 ⟨rfl, hb4⟩
  obtain ⟨w5, hw5⟩ : ∃ X : World, X = w4.alloc (.cells #[.int .i64 0, .int .u64 0, .int .u64 0, .int .u64 0, .slice none 0 0] tFr) := ⟨_, rfl⟩
  obtain ⟨f, hf⟩ : ∃ f, f = w4.heap.size := ⟨_, rfl⟩
  have HX5 : Hid (w5.heap[f]? = some (.cells z1.toArray tFr (0, 0))) := (show _ = _ by rw [hw5, hf]; exact heap_alloc_new w4 _)
  have hb5 : Below w3.heap.size w3 w5 := by rw [hw5]; exact al hb4 _
  have HC5 : Hid (w5.cell? ⟨g, 0, none⟩ = some (.pointer none)) := below_cl hb5 HC3.out
  have HB5 : Hid (Below w.heap.size w w5) := below_next HB3.out hb5
  clear hb4 hb5
  go_upto_region 7 with fail
  rw [← hw5]
  simp only [← hf]
  clear hw5 hf
  go_wp2_with fail
  refine Calls.mono (get_z HC5.out) ?_
  rintro e w6 ⟨rfl, hb6⟩
  have HB6 : Hid (Below w5.heap.size w5 w6) := hb6
  have HC7 : Hid (∀ ob, Below w5.heap.size w5 (w6.alloc ob)) := (fun ob => al hb6 ob)
  clear hb6
  go_wp2_with fail
  refine Calls.mono (newest_z (below_cl (HC7.out _) HC5.out)) ?_
  rintro e w8 ⟨rfl, hb8⟩
  have HB8 : Hid (Below w5.heap.size w5 w8) := below_next (HC7.out _) hb8
  have HC9 : Hid (∀ ob, Below w5.heap.size w5 (w8.alloc ob)) := (fun ob => al HB8.out ob)
  clear hb8
  go_wp2_with fail
  refine Calls.mono (begin_z (below_cl (HC9.out _) HC5.out) 0) ?_
  rintro e w10 ⟨rfl, hw10⟩
  have HB10 : Hid (Below w5.heap.size w5 w10) := (show Below _ _ _ by rw [hw10]; exact HC9.out _)
  clear hw10
  go_wp2_with fail
  refine Calls.mono (cease_z (below_cl HB10.out HC5.out) 0) ?_
  rintro e w11 ⟨rfl, hw11⟩
  subst hw11
  go_wp2_with fail
  refine Calls.mono (done_z (below_cl HB10.out HC5.out)) ?_
  rintro e w12 ⟨rfl, hb12⟩
  have HB12 : Hid (Below w5.heap.size w5 w12) := below_next HB10.out hb12
  clear hb12
  have HX12 : Hid (w12.rangeAt f 0 z1) := box_range ((HB12.out.block _ (Array.getElem?_eq_some_iff.1 HX5.out).1).trans HX5.out)
  go_wp2_with (first | (refine wpList_load_mid rfl tFr _ rfl f 0 rfl z1 _ HX12.out Tryz.underlying46 rfl info_fr ?_))
  refine Calls.mono (frames_z w12) ?_
  rintro e w13 ⟨rfl, hb13⟩
  have HB13 : Hid (Below w5.heap.size w5 w13) := below_next HB12.out hb13
  clear hb13
  go_wp2_with fail
  refine Calls.mono (allKeys_z (below_cl HB13.out HC5.out)) ?_
  rintro e w14 ⟨rfl, hw14⟩
  subst hw14
  go_wp2_with fail
  refine Calls.mono (over_z (below_cl HB13.out HC5.out) 5) ?_
  rintro e w15 ⟨rfl, hb15⟩
  have HB15 : Hid (Below w5.heap.size w5 w15) := below_next HB13.out hb15
  clear hb15
  go_wp2_with fail
  refine Calls.mono (streams_z (below_cl HB15.out HC5.out)) ?_
  rintro e w16 ⟨rfl, hw16⟩
  subst hw16
  go_wp2_with fail
  refine Calls.mono (next_z (below_cl HB15.out HC5.out) 0) ?_
  rintro e w17 ⟨rfl, hw17⟩
  subst hw17
  go_wp2
  go_ret
  exact ⟨rfl, below_next HB5.out HB15.out⟩
end
end Go.Proofs.YthpebfibpopinaaGreatDoor
