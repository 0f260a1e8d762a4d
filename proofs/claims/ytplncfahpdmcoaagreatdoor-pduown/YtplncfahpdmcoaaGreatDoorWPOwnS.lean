import Derived.Test.YtplncfahpdmcoaaGreatDoorPdX
import Derived.Test.YtplncfahpdmcoaaGreatDoorPdB
import Derived.Test.YtplncfahpdmcoaaGreatDoorUBn
import Derived.Test.YtplncfahpdmcoaaGreatDoorUGo
namespace Go.Proofs.YtplncfahpdmcoaaGreatDoor
set_option linter.unusedVariables false
set_option linter.unusedSimpArgs false
open Go.RowKit
section
set_option maxRecDepth 20000
set_option maxHeartbeats 40000000
theorem txF_len {u v : Un} (h : validV u) (h2 : validV v) (i : Nat) : (txF (encT u ++ sealL (encT u)) u.data (encT v ++ sealL (encT v)) v.data i).length ≤ 1000000 := by
  have a := encT_le h
  have b := encT_le h2
  have c := valid_data h
  have d := valid_data h2
  have e : ∀ t, (sealL t).length = 4 := fun t => rfl
  unfold txF
  (repeat' split) <;> first | omega | (rw [List.length_append, e]; omega)
theorem txk1 {T1 D1 T2 D2 : List UInt8} {k : Nat} (h : ¬ k = 1) : txF T1 D1 T2 D2 (2 * k) = T1 ∧ txF T1 D1 T2 D2 (2 * k + 1) = D1 := by
  unfold txF
  rw [if_neg (by omega), if_neg (by omega), if_pos (by omega), if_neg (by omega), if_neg (by omega), if_neg (by omega)]
  exact ⟨rfl, rfl⟩
theorem txk2 {T1 D1 T2 D2 : List UInt8} {k : Nat} (h : k = 1) : txF T1 D1 T2 D2 (2 * k) = T2 ∧ txF T1 D1 T2 D2 (2 * k + 1) = D2 := by
  subst h
  exact ⟨rfl, rfl⟩
theorem txF_4 (T1 D1 T2 D2 : List UInt8) (k : Nat) (h : k < 2) : txF T1 D1 T2 D2 (4 + k) = txF T1 D1 T2 D2 k := by
  match k, h with
  | 0, _ => rfl
  | 1, _ => rfl
theorem pduOwn_walk (k1 e1 s1 p1 i1 c1 : Int) (da1 : Option Addr) (dc1 : Nat) (ds1 : List UInt8) (cd1 : Int) (ga1 : Option Addr) (gc1 : Nat) (l1 : List Rg) (k2 e2 s2 p2 i2 c2 : Int) (da2 : Option Addr) (dc2 : Nat) (ds2 : List UInt8) (cd2 : Int) (ga2 : Option Addr) (gc2 : Nat) (l2 : List Rg) (i0 : Int) (w : World)
    (hd1 : Rd w da1 ds1) (hdl1 : ds1.length ≤ dc1) (hdn1 : da1 = none → dc1 = 0) (hdc1 : dc1 ≤ 140737488351232) (hg1 : RdR w ga1 l1) (hgl1 : l1.length ≤ gc1) (hgn1 : ga1 = none → gc1 = 0) (hgc1 : gc1 ≤ 8796093021952)
    (hd2 : Rd w da2 ds2) (hdl2 : ds2.length ≤ dc2) (hdn2 : da2 = none → dc2 = 0) (hdc2 : dc2 ≤ 140737488351232) (hg2 : RdR w ga2 l2) (hgl2 : l2.length ≤ gc2) (hgn2 : ga2 = none → gc2 = 0) (hgc2 : gc2 ≤ 8796093021952)
    (hi0 : -9223372036854775808 ≤ i0 ∧ i0 ≤ 9223372036854775807) (ht : TabOk w) :
    Calls Tryz.prog 3 #[.agg #[.int .i64 k1, .int .u64 e1, .int .u64 s1, .int .i64 p1, .int .i64 i1, .int .i64 c1, .slice da1 ds1.length dc1, .int .i64 cd1, .slice ga1 l1.length gc1], .agg #[.int .i64 k2, .int .u64 e2, .int .u64 s2, .int .i64 p2, .int .i64 i2, .int .i64 c2, .slice da2 ds2.length dc2, .int .i64 cd2, .slice ga2 l2.length gc2], .int .i64 i0] w fun er w' => er = .returned (.bool true) ∧ Below w.heap.size w w' := by
  obtain ⟨dn1, hdn91⟩ : ∃ dn : Nat, dn = ds1.length := ⟨_, rfl⟩
  obtain ⟨gn1, hgn91⟩ : ∃ gn : Nat, gn = l1.length := ⟨_, rfl⟩
  rw [← hdn91, ← hgn91]
  obtain ⟨DC1, hDC1⟩ : ∃ DC : Nat, DC = dn1 + 4 := ⟨_, rfl⟩
  obtain ⟨GC1, hGC1⟩ : ∃ GC : Nat, GC = gn1 + 3 := ⟨_, rfl⟩
  have HGV1 : Hid _ := fun (u : World) (hu : Below w.heap.size w u) => given_o k1 e1 s1 p1 i1 c1 da1 dn1 dc1 cd1 ga1 gn1 gc1 ds1 l1 DC1 GC1 u hdn91 hgn91 hDC1 hGC1 (hd1.below hu) (hg1.below hu) (by omega) (by omega)
  have HRV1 : Hid _ := fun (v : Bool) (hv : v = true ↔ validV ⟨k1, e1, s1, p1, i1, c1, ds1, cd1, l1⟩) (u : World) (hu : Below w.heap.size w u) => rvalV k1 e1 s1 p1 i1 c1 da1 dn1 dc1 cd1 ga1 gn1 gc1 ds1 l1 hdn91 hgn91 v hv u (hg1.below hu) (by omega)
  have HRD1 : Hid (∀ u, Below w.heap.size w u → Rd u da1 ds1 ∧ RdR u ga1 l1) := fun u hu => ⟨hd1.below hu, hg1.below hu⟩
  have HN1 : Hid (dn1 = ds1.length ∧ gn1 = l1.length ∧ DC1 = dn1 + 4 ∧ GC1 = gn1 + 3 ∧ dn1 ≤ dc1 ∧ gn1 ≤ gc1 ∧ (da1 = none → dc1 = 0) ∧ (ga1 = none → gc1 = 0) ∧ gc1 ≤ 8796093021952 ∧ dc1 ≤ 140737488351232) := ⟨hdn91, hgn91, hDC1, hGC1, by omega, by omega, hdn1, hgn1, hgc1, hdc1⟩
  obtain ⟨dn2, hdn92⟩ : ∃ dn : Nat, dn = ds2.length := ⟨_, rfl⟩
  obtain ⟨gn2, hgn92⟩ : ∃ gn : Nat, gn = l2.length := ⟨_, rfl⟩
  rw [← hdn92, ← hgn92]
  obtain ⟨DC2, hDC2⟩ : ∃ DC : Nat, DC = dn2 + 4 := ⟨_, rfl⟩
  obtain ⟨GC2, hGC2⟩ : ∃ GC : Nat, GC = gn2 + 3 := ⟨_, rfl⟩
  have HGV2 : Hid _ := fun (u : World) (hu : Below w.heap.size w u) => given_o k2 e2 s2 p2 i2 c2 da2 dn2 dc2 cd2 ga2 gn2 gc2 ds2 l2 DC2 GC2 u hdn92 hgn92 hDC2 hGC2 (hd2.below hu) (hg2.below hu) (by omega) (by omega)
  have HRV2 : Hid _ := fun (v : Bool) (hv : v = true ↔ validV ⟨k2, e2, s2, p2, i2, c2, ds2, cd2, l2⟩) (u : World) (hu : Below w.heap.size w u) => rvalV k2 e2 s2 p2 i2 c2 da2 dn2 dc2 cd2 ga2 gn2 gc2 ds2 l2 hdn92 hgn92 v hv u (hg2.below hu) (by omega)
  have HRD2 : Hid (∀ u, Below w.heap.size w u → Rd u da2 ds2 ∧ RdR u ga2 l2) := fun u hu => ⟨hd2.below hu, hg2.below hu⟩
  have HN2 : Hid (dn2 = ds2.length ∧ gn2 = l2.length ∧ DC2 = dn2 + 4 ∧ GC2 = gn2 + 3 ∧ dn2 ≤ dc2 ∧ gn2 ≤ gc2 ∧ (da2 = none → dc2 = 0) ∧ (ga2 = none → gc2 = 0) ∧ gc2 ≤ 8796093021952 ∧ dc2 ≤ 140737488351232) := ⟨hdn92, hgn92, hDC2, hGC2, by omega, by omega, hdn2, hgn2, hgc2, hdc2⟩
  have HTB : Hid (∀ u, Below w.heap.size w u → TabOk u) := fun u hu => ht.below hu
  have HI0 : Hid _ := hi0
  clear hd1 hdl1 hdn1 hdc1 hg1 hgl1 hgn1 hgc1 hdn91 hgn91 hDC1 hGC1 hd2 hdl2 hdn2 hdc2 hg2 hgl2 hgn2 hgc2 hdn92 hgn92 hDC2 hGC2 hi0 ht
  obtain ⟨b1, hb1⟩ : ∃ b : Bool, b = true ↔ validV ⟨k1, e1, s1, p1, i1, c1, ds1, cd1, l1⟩ := ⟨@decide _ (Classical.propDecidable _), @decide_eq_true_iff _ (Classical.propDecidable _)⟩
  obtain ⟨b2, hb2⟩ : ∃ b : Bool, b = true ↔ validV ⟨k2, e2, s2, p2, i2, c2, ds2, cd2, l2⟩ := ⟨@decide _ (Classical.propDecidable _), @decide_eq_true_iff _ (Classical.propDecidable _)⟩
  obtain ⟨W0, hW0⟩ : ∃ W0 : World, W0 = (w.alloc (.cells #[.int .i64 k1, .int .u64 e1, .int .u64 s1, .int .i64 p1, .int .i64 i1, .int .i64 c1, .slice da1 dn1 dc1, .int .i64 cd1, .slice ga1 gn1 gc1] 26)).alloc (.cells #[.int .i64 k2, .int .u64 e2, .int .u64 s2, .int .i64 p2, .int .i64 i2, .int .i64 c2, .slice da2 dn2 dc2, .int .i64 cd2, .slice ga2 gn2 gc2] 26) := ⟨_, rfl⟩
  have hb0 : Below w.heap.size w W0 := by rw [hW0]; exact al (al (Below.refl _ _) _) _
  have hz0 : W0.heap.size = w.heap.size + 2 := by rw [hW0]; simp
  have HU0 : Hid (W0.rangeAt w.heap.size 0 [.int .i64 k1, .int .u64 e1, .int .u64 s1, .int .i64 p1, .int .i64 i1, .int .i64 c1, .slice da1 dn1 dc1, .int .i64 cd1, .slice ga1 gn1 gc1]) := by rw [hW0]; exact range_below (range_box w [.int .i64 k1, .int .u64 e1, .int .u64 s1, .int .i64 p1, .int .i64 i1, .int .i64 c1, .slice da1 dn1 dc1, .int .i64 cd1, .slice ga1 gn1 gc1] _) (al (Below.refl _ _) _)
  have HV0 : Hid (W0.rangeAt (w.heap.size + 1) 0 [.int .i64 k2, .int .u64 e2, .int .u64 s2, .int .i64 p2, .int .i64 i2, .int .i64 c2, .slice da2 dn2 dc2, .int .i64 cd2, .slice ga2 gn2 gc2]) := by rw [hW0]; have h9 := range_box (w.alloc (.cells #[.int .i64 k1, .int .u64 e1, .int .u64 s1, .int .i64 p1, .int .i64 i1, .int .i64 c1, .slice da1 dn1 dc1, .int .i64 cd1, .slice ga1 gn1 gc1] 26)) [.int .i64 k2, .int .u64 e2, .int .u64 s2, .int .i64 p2, .int .i64 i2, .int .i64 c2, .slice da2 dn2 dc2, .int .i64 cd2, .slice ga2 gn2 gc2] 26; rw [heap_alloc_size1'] at h9; exact h9
  have HC1 : Hid _ := HRV1.out b1 hb1 W0 hb0
  have HB1 : Hid _ := hb1
  have HB2 : Hid _ := hb2
  have HW0 : Hid _ := hb0
  have HZ0 : Hid _ := hz0
  clear hb0 hz0 hb1 hb2 HRV1
  go_enter Tryz.func3, Tryz.ntmps3
  go_wp2_with fail
  rw [← hW0]
  clear hW0
  refine Calls.mono HC1.out ?_
  rintro er w1 ⟨rfl, hb1⟩
  have HW1 : Hid _ := below_next HW0.out hb1
  have HU1 : Hid _ := range_below HU0.out hb1
  have HV1 : Hid _ := range_below HV0.out hb1
  have HZ1 : Hid (w.heap.size + 2 ≤ w1.heap.size) := by have := HZ0.out; have := hb1.size; exact (by omega : w.heap.size + 2 ≤ w1.heap.size)
  clear hb1 HU0 HV0 HC1 HW0 HZ0
  cases b1
  case false =>
    simp only [Bool.false_eq_true, if_false]
    go_wp2
    go_ret
    exact ⟨rfl, HW1.out⟩
  case true =>
  have HV9 : Hid (validV ⟨k1, e1, s1, p1, i1, c1, ds1, cd1, l1⟩) := HB1.out.1 rfl
  simp only [if_true]
  have HC2 : Hid _ := HRV2.out b2 HB2.out w1 HW1.out
  clear HB1 HRV2
  go_wp2_with (first | (refine wpList_load_g (by rfl) 26 _ rfl (w.heap.size + 1) 0 (by rfl) [.int .i64 k2, .int .u64 e2, .int .u64 s2, .int .i64 p2, .int .i64 i2, .int .i64 c2, .slice da2 dn2 dc2, .int .i64 cd2, .slice ga2 gn2 gc2] _ (HV1.out) Tryz.underlying26 rfl info_un ?_))
  refine Calls.mono HC2.out ?_
  rintro er w2 ⟨rfl, hb2⟩
  have HW2 : Hid _ := below_next HW1.out hb2
  have HU2 : Hid _ := range_below HU1.out hb2
  have HV2 : Hid _ := range_below HV1.out hb2
  have HZ2 : Hid (w.heap.size + 2 ≤ w2.heap.size) := by have := HZ1.out; have := hb2.size; exact (by omega : w.heap.size + 2 ≤ w2.heap.size)
  clear hb2 HU1 HV1 HC2 HW1 HZ1
  cases b2
  case false =>
    simp only [Bool.false_eq_true, if_false]
    go_wp2
    go_ret
    exact ⟨rfl, HW2.out⟩
  case true =>
  have HV8 : Hid (validV ⟨k2, e2, s2, p2, i2, c2, ds2, cd2, l2⟩) := HB2.out.1 rfl
  simp only [if_true]
  clear HB2
  have HC3 : Hid _ := HGV1.out w2 HW2.out
  go_wp2_with (first | (refine wpList_load_g (by rfl) 26 _ rfl w.heap.size 0 (by rfl) [.int .i64 k1, .int .u64 e1, .int .u64 s1, .int .i64 p1, .int .i64 i1, .int .i64 c1, .slice da1 dn1 dc1, .int .i64 cd1, .slice ga1 gn1 gc1] _ (HU2.out) Tryz.underlying26 rfl info_un ?_))
  refine Calls.mono HC3.out ?_
  rintro er w3 ⟨gd1, gg1, rfl, hr1, hl1, hk1, hw1, hb3⟩
  have HU3 : Hid _ := range_below HU2.out hb3
  have HW3 : Hid _ := below_next HW2.out hb3
  have HZ3 : Hid (w.heap.size + 2 ≤ w3.heap.size) := by have := HZ2.out; have := hb3.size; exact (by omega : w.heap.size + 2 ≤ w3.heap.size)
  have HVX : Hid _ := range_below (range_below HV2.out hb3) (al (Below.refl _ w3) (.cells #[.int .i64 k1, .int .u64 e1, .int .u64 s1, .int .i64 p1, .int .i64 i1, .int .i64 c1, .slice (some ⟨gd1, 0, none⟩) dn1 DC1, .int .i64 cd1, .slice (some ⟨gg1, 0, none⟩) gn1 GC1] 26))
  obtain ⟨X3, hX3⟩ : ∃ X : World, X = w3.alloc (.cells #[.int .i64 k1, .int .u64 e1, .int .u64 s1, .int .i64 p1, .int .i64 i1, .int .i64 c1, .slice (some ⟨gd1, 0, none⟩) dn1 DC1, .int .i64 cd1, .slice (some ⟨gg1, 0, none⟩) gn1 GC1] 26) := ⟨_, rfl⟩
  have hbX : Below w3.heap.size w3 X3 := by rw [hX3]; exact al (Below.refl _ _) _
  have HX3 : Hid (X3.rangeAt w3.heap.size 0 [.int .i64 k1, .int .u64 e1, .int .u64 s1, .int .i64 p1, .int .i64 i1, .int .i64 c1, .slice (some ⟨gd1, 0, none⟩) dn1 DC1, .int .i64 cd1, .slice (some ⟨gg1, 0, none⟩) gn1 GC1]) := by rw [hX3]; exact range_box w3 [.int .i64 k1, .int .u64 e1, .int .u64 s1, .int .i64 p1, .int .i64 i1, .int .i64 c1, .slice (some ⟨gd1, 0, none⟩) dn1 DC1, .int .i64 cd1, .slice (some ⟨gg1, 0, none⟩) gn1 GC1] _
  have HUX : Hid _ := range_below HU3.out hbX
  have HWX : Hid _ := below_next HW3.out hbX
  have HRX : Hid (Rd X3 (some ⟨gd1, 0, none⟩) (ds1 ++ m4) ∧ RdR X3 (some ⟨gg1, 0, none⟩) (l1 ++ m3)) := ⟨hr1.below hbX, hl1.below hbX⟩
  have HC4 : Hid _ := HGV2.out X3 HWX.out
  have HGW : Hid (gd1 ≠ 0) := by have := (HTB.out w (Below.refl _ _)).pos; have := HW2.out.size; exact (by omega : gd1 ≠ 0)
  have HGV9 : Hid (w.heap.size ≤ gd1) := by have := HW2.out.size; exact (by omega : w.heap.size ≤ gd1)
  have HKX : Hid (Blk5 X3 gd1 ∧ gd1 < w3.heap.size) := ⟨hk1.below hbX, by obtain ⟨cur, h9⟩ := hk1; exact (Array.getElem?_eq_some_iff.1 h9).1⟩
  have HHX : Hid (X3.heap[w3.heap.size]? = some (.cells #[.int .i64 k1, .int .u64 e1, .int .u64 s1, .int .i64 p1, .int .i64 i1, .int .i64 c1, .slice (some ⟨gd1, 0, none⟩) dn1 DC1, .int .i64 cd1, .slice (some ⟨gg1, 0, none⟩) gn1 GC1] 26 (0, 0))) := (show X3.heap[w3.heap.size]? = some (.cells #[.int .i64 k1, .int .u64 e1, .int .u64 s1, .int .i64 p1, .int .i64 i1, .int .i64 c1, .slice (some ⟨gd1, 0, none⟩) dn1 DC1, .int .i64 cd1, .slice (some ⟨gg1, 0, none⟩) gn1 GC1] 26 (0, 0)) by rw [hX3]; exact heap_alloc_new w3 _)
  have HZX : Hid (w3.heap.size < X3.heap.size) := (show w3.heap.size < X3.heap.size by rw [hX3]; simp)
  clear hr1 hl1 hb3 hbX hk1 hw1 HU2 HV2 HC3 HW2 HZ2 HGV1 HGV2 HU3 HW3
  obtain ⟨bx, hbx⟩ : ∃ b : Nat, b = w3.heap.size := ⟨_, rfl⟩
  go_wp2_with (first | (refine wpList_load_g (by rfl) 26 _ rfl (w.heap.size + 1) 0 (by rfl) [.int .i64 k2, .int .u64 e2, .int .u64 s2, .int .i64 p2, .int .i64 i2, .int .i64 c2, .slice da2 dn2 dc2, .int .i64 cd2, .slice ga2 gn2 gc2] _ (HVX.out) Tryz.underlying26 rfl info_un ?_))
  rw [← hX3] at HVX ⊢
  rw [← hbx] at HX3 HZ3 HZX HKX HHX ⊢
  clear hX3 hbx
  refine Calls.mono HC4.out ?_
  rintro er w4 ⟨gd2, gg2, rfl, hr2, hl2, -, -, hb4⟩
  obtain ⟨B, hB⟩ : ∃ X : World, X = w4.alloc (.cells #[.int .i64 k2, .int .u64 e2, .int .u64 s2, .int .i64 p2, .int .i64 i2, .int .i64 c2, .slice (some ⟨gd2, 0, none⟩) dn2 DC2, .int .i64 cd2, .slice (some ⟨gg2, 0, none⟩) gn2 GC2] 26) := ⟨_, rfl⟩
  have hbB : Below w4.heap.size w4 B := by rw [hB]; exact al (Below.refl _ _) _
  have hXB : Below X3.heap.size X3 B := below_next hb4 hbB
  have HBY : Hid (∀ z, Below B.heap.size B z → z.rangeAt w4.heap.size 0 [.int .i64 k2, .int .u64 e2, .int .u64 s2, .int .i64 p2, .int .i64 i2, .int .i64 c2, .slice (some ⟨gd2, 0, none⟩) dn2 DC2, .int .i64 cd2, .slice (some ⟨gg2, 0, none⟩) gn2 GC2]) := by have h9 : B.rangeAt w4.heap.size 0 [.int .i64 k2, .int .u64 e2, .int .u64 s2, .int .i64 p2, .int .i64 i2, .int .i64 c2, .slice (some ⟨gd2, 0, none⟩) dn2 DC2, .int .i64 cd2, .slice (some ⟨gg2, 0, none⟩) gn2 GC2] := (by rw [hB]; exact range_box w4 [.int .i64 k2, .int .u64 e2, .int .u64 s2, .int .i64 p2, .int .i64 i2, .int .i64 c2, .slice (some ⟨gd2, 0, none⟩) dn2 DC2, .int .i64 cd2, .slice (some ⟨gg2, 0, none⟩) gn2 GC2] _); exact fun z hz => range_below h9 hz
  have HBX : Hid (∀ z, Below B.heap.size B z → z.rangeAt bx 0 [.int .i64 k1, .int .u64 e1, .int .u64 s1, .int .i64 p1, .int .i64 i1, .int .i64 c1, .slice (some ⟨gd1, 0, none⟩) dn1 DC1, .int .i64 cd1, .slice (some ⟨gg1, 0, none⟩) gn1 GC1]) := by have h9 := range_below HX3.out hXB; exact fun z hz => range_below h9 hz
  have HBU : Hid (∀ z, Below B.heap.size B z → z.rangeAt w.heap.size 0 [.int .i64 k1, .int .u64 e1, .int .u64 s1, .int .i64 p1, .int .i64 i1, .int .i64 c1, .slice da1 dn1 dc1, .int .i64 cd1, .slice ga1 gn1 gc1]) := by have h9 := range_below HUX.out hXB; exact fun z hz => range_below h9 hz
  have HBV : Hid (∀ z, Below B.heap.size B z → z.rangeAt (w.heap.size + 1) 0 [.int .i64 k2, .int .u64 e2, .int .u64 s2, .int .i64 p2, .int .i64 i2, .int .i64 c2, .slice da2 dn2 dc2, .int .i64 cd2, .slice ga2 gn2 gc2]) := by have h9 := range_below HVX.out hXB; exact fun z hz => range_below h9 hz
  have HBW : Hid (∀ z, Below B.heap.size B z → Below w.heap.size w z) := by have h9 := below_next HWX.out hXB; exact fun z hz => below_next h9 hz
  have HG1 : Hid (∀ z, Below B.heap.size B z → Rd z (some ⟨gd1, 0, none⟩) (ds1 ++ m4) ∧ RdR z (some ⟨gg1, 0, none⟩) (l1 ++ m3)) := by have h9 := HRX.out.1.below hXB; have h8 := HRX.out.2.below hXB; exact fun z hz => ⟨h9.below hz, h8.below hz⟩
  have HG2 : Hid (∀ z, Below B.heap.size B z → Rd z (some ⟨gd2, 0, none⟩) (ds2 ++ m4) ∧ RdR z (some ⟨gg2, 0, none⟩) (l2 ++ m3)) := by have h9 := hr2.below hbB; have h8 := hl2.below hbB; exact fun z hz => ⟨h9.below hz, h8.below hz⟩
  have HKB : Hid (∀ z, Below B.heap.size B z → Blk5 z gd1 ∧ gd1 < bx ∧ z.heap[bx]? = some (.cells #[.int .i64 k1, .int .u64 e1, .int .u64 s1, .int .i64 p1, .int .i64 i1, .int .i64 c1, .slice (some ⟨gd1, 0, none⟩) dn1 DC1, .int .i64 cd1, .slice (some ⟨gg1, 0, none⟩) gn1 GC1] 26 (0, 0))) := by
    have h9 := HKX.out.1.below hXB
    have h8 := HKX.out.2
    have h7 := (hXB.block bx (Array.getElem?_eq_some_iff.1 HHX.out).1).trans HHX.out
    exact fun z hz => ⟨h9.below hz, h8, (hz.block bx (Array.getElem?_eq_some_iff.1 h7).1).trans h7⟩
  have HZB : Hid (w.heap.size + 2 ≤ bx ∧ bx < w4.heap.size ∧ w4.heap.size < B.heap.size) := ⟨HZ3.out, by have := HZX.out; have := hb4.size; omega, by rw [hB]; simp⟩
  clear hr2 hl2 hb4 hbB hXB HX3 HUX HVX HWX HRX HZ3 HZX HC4 HKX HHX
  obtain ⟨by0, hby⟩ : ∃ b : Nat, b = w4.heap.size := ⟨_, rfl⟩
  go_wp2_with fail
  rw [← hB]
  rw [← hby] at HBY HZB ⊢
  clear hB hby
  obtain ⟨TX, hTX⟩ : ∃ TX, TX = txF (encT ⟨k1, e1, s1, p1, i1, c1, ds1, cd1, l1⟩ ++ sealL (encT ⟨k1, e1, s1, p1, i1, c1, ds1, cd1, l1⟩)) ds1 (encT ⟨k2, e2, s2, p2, i2, c2, ds2, cd2, l2⟩ ++ sealL (encT ⟨k2, e2, s2, p2, i2, c2, ds2, cd2, l2⟩)) ds2 := ⟨_, rfl⟩
  obtain ⟨LP, hLP⟩ : ∃ LP, LP = LPF l1 l2 i0 := ⟨_, rfl⟩
  have HTX : Hid _ := hTX
  have HLP : Hid _ := hLP
  clear hTX hLP
  go_loopw [9, 10, 11, 12, 13, 14, 15, 16, 17] (fun tv lv kk _ _ _ _ _ _ wq => ∃ (t l : Value) (k : Nat) (F : KeyS → RowS), t = tv ∧ l = lv ∧ k ≤ 3 ∧ kk = .int .i64 (k : Int) ∧ Pw B wq F (2 * k) (5 * k) t l TX LP) (fun _ _ kk _ _ _ _ _ _ _ => 3 - (intOf kk).toNat)
  case atStart => exact ⟨_, _, 0, FP0, rfl, rfl, Nat.zero_le _, rfl, pw_start B TX LP⟩
  case round =>
    obtain ⟨tv, lv, k, F, rfl, rfl, hk, rfl, hpw⟩ := hrel
    have HPW : Hid _ := hpw
    clear hpw
    by_cases hlt : k < 3
    · by_cases hk1 : k = 1
      · have HENC : Hid (∀ z, Below B.heap.size B z → Calls Tryz.prog 6 #[.agg #[.int .i64 k2, .int .u64 e2, .int .u64 s2, .int .i64 p2, .int .i64 i2, .int .i64 c2, .slice (some ⟨gd2, 0, none⟩) dn2 DC2, .int .i64 cd2, .slice (some ⟨gg2, 0, none⟩) gn2 GC2]] z fun er z' => EncOwn (encT ⟨k2, e2, s2, p2, i2, c2, ds2, cd2, l2⟩) z er z') := fun z hz => encV k2 e2 s2 p2 i2 c2 (some ⟨gd2, 0, none⟩) dn2 DC2 cd2 (some ⟨gg2, 0, none⟩) gn2 GC2 ds2 l2 HN2.out.1 HN2.out.2.1 HV8.out z (rd_left (HG2.out z hz).1) (fun h => by cases h) (RdR.left (HG2.out z hz).2) (by have := HN2.out; omega) (by have := HN2.out; omega) (HTB.out z (HBW.out z hz))
        have HBB : Hid (Below B.heap.size B wr) := HPW.out.d.bel
        obtain ⟨N0, hN0⟩ : ∃ N0 : Nat, N0 = wr.heap.size := ⟨_, rfl⟩
        have HN0 : Hid (N0 = wr.heap.size) := hN0
        obtain ⟨Z, hZ⟩ : ∃ Z : World, Z = (wr.alloc (.cells #[.int .i64 k2, .int .u64 e2, .int .u64 s2, .int .i64 p2, .int .i64 i2, .int .i64 c2, .slice (some ⟨gd2, 0, none⟩) dn2 DC2, .int .i64 cd2, .slice (some ⟨gg2, 0, none⟩) gn2 GC2] 26)).alloc (.cells #[.int .i64 k2, .int .u64 e2, .int .u64 s2, .int .i64 p2, .int .i64 i2, .int .i64 c2, .slice da2 dn2 dc2, .int .i64 cd2, .slice ga2 gn2 gc2] 26) := ⟨_, rfl⟩
        have HZ : Hid (Below wr.heap.size wr Z ∧ Z.heap[N0]? = some (.cells #[.int .i64 k2, .int .u64 e2, .int .u64 s2, .int .i64 p2, .int .i64 i2, .int .i64 c2, .slice (some ⟨gd2, 0, none⟩) dn2 DC2, .int .i64 cd2, .slice (some ⟨gg2, 0, none⟩) gn2 GC2] 26 (0, 0)) ∧ Z.heap[N0 + 1]? = some (.cells #[.int .i64 k2, .int .u64 e2, .int .u64 s2, .int .i64 p2, .int .i64 i2, .int .i64 c2, .slice da2 dn2 dc2, .int .i64 cd2, .slice ga2 gn2 gc2] 26 (0, 0))) := (show Below wr.heap.size wr Z ∧ Z.heap[N0]? = some (.cells #[.int .i64 k2, .int .u64 e2, .int .u64 s2, .int .i64 p2, .int .i64 i2, .int .i64 c2, .slice (some ⟨gd2, 0, none⟩) dn2 DC2, .int .i64 cd2, .slice (some ⟨gg2, 0, none⟩) gn2 GC2] 26 (0, 0)) ∧ Z.heap[N0 + 1]? = some (.cells #[.int .i64 k2, .int .u64 e2, .int .u64 s2, .int .i64 p2, .int .i64 i2, .int .i64 c2, .slice da2 dn2 dc2, .int .i64 cd2, .slice ga2 gn2 gc2] 26 (0, 0)) by rw [hZ, hN0]; exact ⟨al (al (Below.refl _ _) _) _, (two_newU wr _ _).1, (two_newU wr _ _).2⟩)
        have HK1 : Hid (k = 1) := hk1
        have hk1b : ((k : Int) == 1) = true := by simp [hk1]
        clear hk1
        go_wp2_with (first | (refine wpList_load_g (by rfl) 26 _ rfl bx 0 (by rfl) [.int .i64 k1, .int .u64 e1, .int .u64 s1, .int .i64 p1, .int .i64 i1, .int .i64 c1, .slice (some ⟨gd1, 0, none⟩) dn1 DC1, .int .i64 cd1, .slice (some ⟨gg1, 0, none⟩) gn1 GC1] _ (HBX.out _ HBB.out) Tryz.underlying26 rfl info_un ?_) | (refine wpList_load_g (by rfl) 26 _ rfl w.heap.size 0 (by rfl) [.int .i64 k1, .int .u64 e1, .int .u64 s1, .int .i64 p1, .int .i64 i1, .int .i64 c1, .slice da1 dn1 dc1, .int .i64 cd1, .slice ga1 gn1 gc1] _ (HBU.out _ (al HBB.out _)) Tryz.underlying26 rfl info_un ?_) | (refine wpList_load_g (by rfl) 26 _ rfl by0 0 (by rfl) [.int .i64 k2, .int .u64 e2, .int .u64 s2, .int .i64 p2, .int .i64 i2, .int .i64 c2, .slice (some ⟨gd2, 0, none⟩) dn2 DC2, .int .i64 cd2, .slice (some ⟨gg2, 0, none⟩) gn2 GC2] _ (HBY.out _ (al (al HBB.out _) _)) Tryz.underlying26 rfl info_un ?_) | (refine wpList_load_g (by rfl) 26 _ rfl (w.heap.size + 1) 0 (by rfl) [.int .i64 k2, .int .u64 e2, .int .u64 s2, .int .i64 p2, .int .i64 i2, .int .i64 c2, .slice da2 dn2 dc2, .int .i64 cd2, .slice ga2 gn2 gc2] _ (HBV.out _ (al (al HBB.out _) _)) Tryz.underlying26 rfl info_un ?_))
        (try rw [← hZ])
        rw [← hN0]
        clear hN0 hZ
        have HE1 : Hid _ := HENC.out Z (below_next HBB.out HZ.out.1)
        refine Calls.mono HE1.out ?_
        rintro er z1 ⟨a8, L8, c8, rfl, hL8, ho8, hb8⟩
        have HP1 : Hid (Pw B z1 (updR F (0, 2 * k) (bRowS (.slice a8 L8 c8) (encT ⟨k2, e2, s2, p2, i2, c2, ds2, cd2, l2⟩ ++ sealL (encT ⟨k2, e2, s2, p2, i2, c2, ds2, cd2, l2⟩)))) (2 * k) (5 * k) tv lv TX LP) := (HPW.out.below HZ.out.1).newT hb8 (2 * k) (Nat.le_refl _) _ _ ho8
        have HZ1 : Hid (Below wr.heap.size wr z1) := below_next HZ.out.1 hb8
        have HC1 : Hid (z1.heap[N0]? = some (.cells #[.int .i64 k2, .int .u64 e2, .int .u64 s2, .int .i64 p2, .int .i64 i2, .int .i64 c2, .slice (some ⟨gd2, 0, none⟩) dn2 DC2, .int .i64 cd2, .slice (some ⟨gg2, 0, none⟩) gn2 GC2] 26 (0, 0)) ∧ z1.heap[N0 + 1]? = some (.cells #[.int .i64 k2, .int .u64 e2, .int .u64 s2, .int .i64 p2, .int .i64 i2, .int .i64 c2, .slice da2 dn2 dc2, .int .i64 cd2, .slice ga2 gn2 gc2] 26 (0, 0))) := ⟨(hb8.block N0 (Array.getElem?_eq_some_iff.1 HZ.out.2.1).1).trans HZ.out.2.1, (hb8.block (N0 + 1) (Array.getElem?_eq_some_iff.1 HZ.out.2.2).1).trans HZ.out.2.2⟩
        have HDC : Hid _ := decV a8 L8 c8 _ hL8 z1 (Own.four ho8).2.2.2.2 (Own.four ho8).2.1 (Own.four ho8).2.2.1 (by rw [hL8]; exact encT_len HV8.out) (HTB.out z1 (HBW.out z1 (below_next HBB.out HZ1.out))) k2 e2 s2 p2 i2 c2 ds2 cd2 l2 0 dn2 gn2 HN2.out.1 HN2.out.2.1 (decU_enc _ HV8.out)
        clear hL8 ho8 hb8 HE1 HENC HZ
        go_wp2_with fail
        refine Calls.mono HDC.out ?_
        rintro er z2 ⟨da9, dc9, ga9, gc9, rfl, hod, hog, hb9⟩
        obtain ⟨F2, hF2⟩ : ∃ F2, F2 = updR (updR (updR F (0, 2 * k) (bRowS (.slice a8 L8 c8) (encT ⟨k2, e2, s2, p2, i2, c2, ds2, cd2, l2⟩ ++ sealL (encT ⟨k2, e2, s2, p2, i2, c2, ds2, cd2, l2⟩)))) (0, 2 * k + 1) (bRowS (.slice da9 dn2 dc9) ds2)) (1, 5 * k) (rRowS (.slice ga9 gn2 gc9) l2) := ⟨_, rfl⟩
        have HP2 : Hid (Pw B z2 F2 (2 * k) (5 * k) tv lv TX LP) := by have h9 := HP1.out.newTL hb9 (2 * k + 1) (Nat.le_succ _) _ _ hod (5 * k) (Nat.le_refl _) _ _ hog; rw [← hF2] at h9; exact h9
        have HF2 : Hid (F2 (0, 2 * k) = bRowS (.slice a8 L8 c8) (encT ⟨k2, e2, s2, p2, i2, c2, ds2, cd2, l2⟩ ++ sealL (encT ⟨k2, e2, s2, p2, i2, c2, ds2, cd2, l2⟩)) ∧ F2 (0, 2 * k + 1) = bRowS (.slice da9 dn2 dc9) ds2 ∧ F2 (1, 5 * k) = rRowS (.slice ga9 gn2 gc9) l2) := by rw [hF2]; exact ⟨by rw [updR_other _ (by simp), updR_other _ (by simp), updR_same], by rw [updR_other _ (by simp), updR_same], by rw [updR_same]⟩
        clear hF2
        have HZ2 : Hid (Below wr.heap.size wr z2) := below_next HZ1.out hb9
        have HRD9 : Hid (Rd z2 da9 ds2 ∧ RdR z2 ga9 l2) := by
          have h8 := hog
          rw [HN2.out.2.1] at h8
          obtain ⟨a5, c5, e5, -, -, -, r5, -⟩ := OwnR.val h8
          cases e5
          exact ⟨(Own.four hod).2.2.2.2, r5⟩
        obtain ⟨N1, hN1⟩ : ∃ N1 : Nat, N1 = z2.heap.size := ⟨_, rfl⟩
        obtain ⟨z3, hz3⟩ : ∃ z3 : World, z3 = z2.alloc (.cells #[.int .i64 k2, .int .u64 e2, .int .u64 s2, .int .i64 p2, .int .i64 i2, .int .i64 c2, .slice da9 dn2 dc9, .int .i64 cd2, .slice ga9 gn2 gc9] 26) := ⟨_, rfl⟩
        have hb3 : Below z2.heap.size z2 z3 := by rw [hz3]; exact al (Below.refl _ _) _
        have HC3 : Hid (z3.heap[N1]? = some (.cells #[.int .i64 k2, .int .u64 e2, .int .u64 s2, .int .i64 p2, .int .i64 i2, .int .i64 c2, .slice da9 dn2 dc9, .int .i64 cd2, .slice ga9 gn2 gc9] 26 (0, 0))) := (show z3.heap[N1]? = some (.cells #[.int .i64 k2, .int .u64 e2, .int .u64 s2, .int .i64 p2, .int .i64 i2, .int .i64 c2, .slice da9 dn2 dc9, .int .i64 cd2, .slice ga9 gn2 gc9] 26 (0, 0)) by rw [hz3, hN1]; exact heap_alloc_new z2 _)
        have HC2 : Hid (z3.heap[N0]? = some (.cells #[.int .i64 k2, .int .u64 e2, .int .u64 s2, .int .i64 p2, .int .i64 i2, .int .i64 c2, .slice (some ⟨gd2, 0, none⟩) dn2 DC2, .int .i64 cd2, .slice (some ⟨gg2, 0, none⟩) gn2 GC2] 26 (0, 0)) ∧ z3.heap[N0 + 1]? = some (.cells #[.int .i64 k2, .int .u64 e2, .int .u64 s2, .int .i64 p2, .int .i64 i2, .int .i64 c2, .slice da2 dn2 dc2, .int .i64 cd2, .slice ga2 gn2 gc2] 26 (0, 0))) := by
          have h9 := below_next hb9 hb3
          exact ⟨(h9.block N0 (Array.getElem?_eq_some_iff.1 HC1.out.1).1).trans HC1.out.1, (h9.block (N0 + 1) (Array.getElem?_eq_some_iff.1 HC1.out.2).1).trans HC1.out.2⟩
        have HP3 : Hid (Pw B z3 F2 (2 * k) (5 * k) tv lv TX LP) := HP2.out.below hb3
        have HZ3 : Hid (Below wr.heap.size wr z3) := below_next HZ2.out hb3
        have HNN1 : Hid (wr.heap.size ≤ N1) := (show wr.heap.size ≤ N1 by rw [hN1]; exact HZ2.out.size)
        have HSU : Hid _ := sameUnit_t k2 e2 s2 p2 i2 c2 da9 dn2 dc9 cd2 ga9 gn2 gc9 da2 dc2 ga2 gc2 ds2 l2 z3 HN2.out.1 HN2.out.2.1 (HRD9.out.1.below hb3) (HRD2.out z3 (HBW.out z3 (below_next HBB.out HZ3.out))).1 (HRD9.out.2.below hb3) (HRD2.out z3 (HBW.out z3 (below_next HBB.out HZ3.out))).2 (by have := HN2.out; omega) (by have := HN2.out; omega)
        clear hod hog hb9 hb3 HP1 HC1 HDC HZ1 HP2 HZ2 HRD9
        go_wp2_with (rw [← hz3]; (refine wpList_load_g (by rfl) 26 _ rfl (N0 + 1) 0 (by rfl) [.int .i64 k2, .int .u64 e2, .int .u64 s2, .int .i64 p2, .int .i64 i2, .int .i64 c2, .slice da2 dn2 dc2, .int .i64 cd2, .slice ga2 gn2 gc2] _ (box_range HC2.out.2) Tryz.underlying26 rfl info_un ?_))
        (try rw [← hz3])
        rw [← hN1]
        clear hz3 hN1
        refine Calls.mono HSU.out ?_
        rintro er z4 ⟨rfl, hb4⟩
        have hc6 : z4.cell? ⟨N1, 6, none⟩ = some (.slice da9 dn2 dc9) := by rw [cell_of_row _ _ _ _ _ _ ((hb4.block N1 (Array.getElem?_eq_some_iff.1 HC3.out).1).trans HC3.out)]; rfl
        have HS4 : Hid (S3 N0 N1 by0 (.slice (some ⟨gg2, 0, none⟩) gn2 GC2) (.slice ga9 gn2 gc9) (.slice (some ⟨gg2, 0, none⟩) gn2 GC2) z4) := by
          refine S3.below ⟨?_, ?_, ?_⟩ hb4
          · rw [cell_of_row _ _ _ _ _ _ HC2.out.1]; rfl
          · rw [cell_of_row _ _ _ _ _ _ HC3.out]; rfl
          · have h9 := HBY.out z3 (below_next HBB.out HZ3.out) 8 _ rfl
            rwa [Nat.zero_add] at h9
        obtain ⟨z5, hz5⟩ : ∃ z5 : World, z5 = z4.alloc (.cells #[.slice a8 L8 c8, .slice da9 dn2 dc9] 23) := ⟨_, rfl⟩
        have hb5 : Below z4.heap.size z4 z5 := by rw [hz5]; exact al (Below.refl _ _) _
        have HU5 : Hid (z5.heap[z4.heap.size]? = some (.cells #[.slice a8 L8 c8, .slice da9 dn2 dc9] tB1 (0, 0))) := (show z5.heap[z4.heap.size]? = some (.cells #[.slice a8 L8 c8, .slice da9 dn2 dc9] tB1 (0, 0)) by rw [hz5]; exact heap_alloc_new z4 _)
        have HP5 : Hid (Pw B z5 F2 (2 * k) (5 * k) tv lv TX LP) := HP3.out.below (below_next hb4 hb5)
        have HS5 : Hid (S3 N0 N1 by0 (.slice (some ⟨gg2, 0, none⟩) gn2 GC2) (.slice ga9 gn2 gc9) (.slice (some ⟨gg2, 0, none⟩) gn2 GC2) z5) := HS4.out.below hb5
        have HTXk : Hid (TX (2 * k) = encT ⟨k2, e2, s2, p2, i2, c2, ds2, cd2, l2⟩ ++ sealL (encT ⟨k2, e2, s2, p2, i2, c2, ds2, cd2, l2⟩) ∧ TX (2 * k + 1) = ds2) := by rw [HTX.out]; exact txk2 HK1.out
        have HTV : Hid (∀ g, tv.ownBlock = some g → B.heap.size ≤ g ∧ g < wr.heap.size) := fun g hg => HPW.out.d.fam.lt (4, 0) g (by rw [HPW.out.rt]; exact hg)
        have HLV : Hid (∀ g, lv.ownBlock = some g → B.heap.size ≤ g ∧ g < wr.heap.size) := fun g hg => HPW.out.d.fam.lt (4, 1) g (by rw [HPW.out.rl]; exact hg)
        clear hb4 hb5 HSU HP3 HZ3 HC2 HC3 HS4
        go_wp2_with (at_builtin; rw [← hz5]; refine wp_appT rfl _ _ rfl HP5.out rfl z4.heap.size 2 _ _ rfl HU5.out (by rw [HTXk.out.1]; exact HF2.out.1) (by rw [HTXk.out.2]; exact HF2.out.2.1) (by omega) ?_; intro Gt ct y0 F3 hp6 hf3 hg6)
        obtain ⟨K2, hK2⟩ : ∃ K2 : Nat, K2 = 2 * k + 2 := ⟨_, rfl⟩
        rw [← hK2] at hp6 ⊢
        have HK2 : Hid (K2 = 2 * (k + 1)) := (show K2 = 2 * (k + 1) by omega)
        clear hK2
        have HP6 : Hid (Pw B y0 F3 K2 (5 * k) (.slice (some ⟨Gt, 0, none⟩) K2 ct) lv TX LP) := hp6
        have HF3 : Hid (F3 (1, 5 * k) = rRowS (.slice ga9 gn2 gc9) l2) := (hf3 _).trans HF2.out.2.2
        have hs6 : S3 N0 N1 by0 (.slice (some ⟨gg2, 0, none⟩) gn2 GC2) (.slice ga9 gn2 gc9) (.slice (some ⟨gg2, 0, none⟩) gn2 GC2) y0 := HS5.out.grown hg6 (fun e => by have := HTV.out _ e.symm; have := HN0.out; omega) (fun e => by have := HTV.out _ e.symm; have := HNN1.out; omega) (fun e => by have := HTV.out _ e.symm; have := HZB.out; omega)
        have HY0 : Hid (Below B.heap.size B y0) := hp6.d.bel
        have HNA : Hid (lv.ownBlock ≠ some N0 ∧ lv.ownBlock ≠ some N1 ∧ lv.ownBlock ≠ some by0) := ⟨fun e => by have := HLV.out _ e; have := HN0.out; omega, fun e => by have := HLV.out _ e; have := HNN1.out; omega, fun e => by have := HLV.out _ e; have := HZB.out; omega⟩
        clear hp6 hf3 hg6 hc6 hz5 HU5 HP5 HS5 HTV HLV HF2
        have HGG : Hid (gn2 ≤ 33 ∧ gn2 ≤ 33) := ⟨by have h9 := valid_got HV8.out; have := HN2.out; simp only at h9; omega, by have h9 := valid_got HV8.out; have := HN2.out; simp only at h9; omega⟩
        have HLE : Hid (∀ u, Below B.heap.size B u → Calls Tryz.prog 9 #[.slice (some ⟨gg2, 0, none⟩) gn2 GC2] u fun e u' => LeastOut l2 u e u') := fun u hu => least_t (some ⟨gg2, 0, none⟩) gn2 GC2 l2 u HN2.out.2.1 (RdR.left (HG2.out u hu).2) (fun h => by cases h) (by have := HGG.out; omega)
        have HUN : Hid (∀ u, Below B.heap.size B u → Calls Tryz.prog 10 #[.slice (some ⟨gg2, 0, none⟩) gn2 GC2, .slice (some ⟨gg2, 0, none⟩) gn2 GC2] u fun e u' => LeastOut (l2 ++ l2) u e u') := fun u hu => union_t (some ⟨gg2, 0, none⟩) (some ⟨gg2, 0, none⟩) gn2 gn2 GC2 GC2 l2 l2 u HN2.out.2.1 HN2.out.2.1 (RdR.left (HG2.out u hu).2) (RdR.left (HG2.out u hu).2) (by have := HGG.out; omega) (fun h => by cases h) (fun h => by cases h)
        have HAD : Hid (∀ u, Below B.heap.size B u → Calls Tryz.prog 11 #[.slice (some ⟨gg2, 0, none⟩) gn2 GC2, .int .i64 i0] u fun e u' => LeastOut (addL l2 i0) u e u') := fun u hu => add_t (some ⟨gg2, 0, none⟩) gn2 GC2 l2 i0 u HN2.out.2.1 (RdR.left (HG2.out u hu).2) (by have := HGG.out; omega) HI0.out (fun h => by cases h)
        have HMS : Hid (∀ u, Below B.heap.size B u → Calls Tryz.prog 12 #[.slice (some ⟨gg2, 0, none⟩) gn2 GC2, .int .i64 64] u fun e u' => MissOut l2 64 u e u') := fun u hu => missing_t (some ⟨gg2, 0, none⟩) gn2 GC2 l2 64 u HN2.out.2.1 (RdR.left (HG2.out u hu).2) (fun h => by cases h) (by have := HGG.out; omega)
        have HLL : Hid (l2.length ≤ 33 ∧ l2.length ≤ 33) := (show l2.length ≤ 33 ∧ l2.length ≤ 33 by have := HGG.out; have := HN2.out; have := HN2.out; exact ⟨by omega, by omega⟩)
        have HLQ : Hid (∀ (j : Nat) (out : List Rg), j < 5 → out.length ≤ 1000000 → LPk l2 l2 i0 j out → LP (5 * k + j) out) := fun j out hj hn h => by rw [HLP.out]; exact lpf hj hn (by rw [if_pos HK1.out]; exact h)
        go_wp2_with fail
        refine wp_region_noPanic ?_
        refine wp_region_held_drew (S := (fun u => S3 N0 N1 by0 (.slice (some ⟨gg2, 0, none⟩) gn2 GC2) (.slice ga9 gn2 gc9) (.slice (some ⟨gg2, 0, none⟩) gn2 GC2) u)) (by kernel_rfl) (by with_reducible first | assumption | exact hs6.below (Below.refl _ _).drew | exact hs10.below (al (Below.refl _ u4) _)) (fun hHeld => ?_)
        refine take_at (i := 0) 91 (v := ?_) rfl rfl (by kernel_rfl) (by kernel_rfl) (by kernel_rfl) (fun _ _ _ h => h) (by rfl) ?_ hHeld ?_
        rotate_left
        · (intro w hSw; (try dsimp only at hSw); go_simp; try with_reducible rfl)
        simp only [Act.put, List.setIfInBounds_toArray, List.set_cons_zero, List.set_cons_succ]
        refine take_at (i := 1) 92 (v := ?_) rfl rfl (by kernel_rfl) (by kernel_rfl) (by kernel_rfl) (fun _ _ _ h => h) (by rfl) ?_ hHeld ?_
        rotate_left
        · (intro w hSw; (try dsimp only at hSw); go_simp; try with_reducible rfl)
        simp only [Act.put, List.setIfInBounds_toArray, List.set_cons_zero, List.set_cons_succ]
        refine take_at (i := 2) 93 (v := ?_) rfl rfl (by kernel_rfl) (by kernel_rfl) (by kernel_rfl) (fun _ _ _ h => h) (by rfl) ?_ hHeld ?_
        rotate_left
        · (intro w hSw; have h7 := hSw.b; (try dsimp only at hSw); go_simp; try with_reducible rfl)
        simp only [Act.put, List.setIfInBounds_toArray, List.set_cons_zero, List.set_cons_succ]
        refine take_at (i := 3) 94 (v := ?_) rfl rfl (by kernel_rfl) (by kernel_rfl) (by kernel_rfl) (fun _ _ _ h => h) (by rfl) ?_ hHeld ?_
        rotate_left
        · (intro w hSw; (try dsimp only at hSw); go_simp; try with_reducible rfl)
        simp only [Act.put, List.setIfInBounds_toArray, List.set_cons_zero, List.set_cons_succ]
        refine take_at (i := 4) 95 (v := ?_) rfl rfl (by kernel_rfl) (by kernel_rfl) (by kernel_rfl) (fun _ _ _ h => h) (by rfl) ?_ hHeld ?_
        rotate_left
        · (intro w hSw; have h7 := hSw.a; (try dsimp only at hSw); go_simp; try with_reducible rfl)
        simp only [Act.put, List.setIfInBounds_toArray, List.set_cons_zero, List.set_cons_succ]
        refine take_at (i := 6) 97 (v := ?_) rfl rfl (by kernel_rfl) (by kernel_rfl) (by kernel_rfl) (fun _ _ _ h => h) (by rfl) ?_ hHeld ?_
        rotate_left
        · (intro w hSw; (try dsimp only at hSw); go_simp; try with_reducible rfl)
        simp only [Act.put, List.setIfInBounds_toArray, List.set_cons_zero, List.set_cons_succ]
        refine take_at (i := 7) 98 (v := ?_) rfl rfl (by kernel_rfl) (by kernel_rfl) (by kernel_rfl) (fun _ _ _ h => h) (by rfl) ?_ hHeld ?_
        rotate_left
        · (intro w hSw; have h7 := hSw.a; (try dsimp only at hSw); go_simp; try with_reducible rfl)
        simp only [Act.put, List.setIfInBounds_toArray, List.set_cons_zero, List.set_cons_succ]
        refine take_at (i := 8) 99 (v := ?_) rfl rfl (by kernel_rfl) (by kernel_rfl) (by kernel_rfl) (fun _ _ _ h => h) (by rfl) ?_ hHeld ?_
        rotate_left
        · (intro w hSw; (try dsimp only at hSw); go_simp; try with_reducible rfl)
        simp only [Act.put, List.setIfInBounds_toArray, List.set_cons_zero, List.set_cons_succ]
        refine take_at (i := 9) 100 (v := ?_) rfl rfl (by kernel_rfl) (by kernel_rfl) (by kernel_rfl) (fun _ _ _ h => h) (by rfl) ?_ hHeld ?_
        rotate_left
        · (intro w hSw; have h7 := hSw.c; (try dsimp only at hSw); go_simp; try with_reducible rfl)
        simp only [Act.put, List.setIfInBounds_toArray, List.set_cons_zero, List.set_cons_succ]
        refine take_at (i := 11) 102 (v := ?_) rfl rfl (by kernel_rfl) (by kernel_rfl) (by kernel_rfl) (fun _ _ _ h => h) (by rfl) ?_ hHeld ?_
        rotate_left
        · (intro w hSw; (try dsimp only at hSw); go_simp; try with_reducible rfl)
        simp only [Act.put, List.setIfInBounds_toArray, List.set_cons_zero, List.set_cons_succ]
        refine take_at (i := 12) 103 (v := ?_) rfl rfl (by kernel_rfl) (by kernel_rfl) (by kernel_rfl) (fun _ _ _ h => h) (by rfl) ?_ hHeld ?_
        rotate_left
        · (intro w hSw; have h7 := hSw.a; (try dsimp only at hSw); go_simp; try with_reducible rfl)
        simp only [Act.put, List.setIfInBounds_toArray, List.set_cons_zero, List.set_cons_succ]
        refine take_at (i := 13) 104 (v := ?_) rfl rfl (by kernel_rfl) (by kernel_rfl) (by kernel_rfl) (fun _ _ _ h => h) (by rfl) ?_ hHeld ?_
        rotate_left
        · (intro w hSw; (try dsimp only at hSw); go_simp; try with_reducible rfl)
        simp only [Act.put, List.setIfInBounds_toArray, List.set_cons_zero, List.set_cons_succ]
        refine take_at (i := 15) 106 (v := ?_) rfl rfl (by kernel_rfl) (by kernel_rfl) (by kernel_rfl) (fun _ _ _ h => h) (by rfl) ?_ hHeld ?_
        rotate_left
        · (intro w hSw; (try dsimp only at hSw); go_simp; try with_reducible rfl)
        simp only [Act.put, List.setIfInBounds_toArray, List.set_cons_zero, List.set_cons_succ]
        refine take_at (i := 16) 107 (v := ?_) rfl rfl (by kernel_rfl) (by kernel_rfl) (by kernel_rfl) (fun _ _ _ h => h) (by rfl) ?_ hHeld ?_
        rotate_left
        · (intro w hSw; have h7 := hSw.a; (try dsimp only at hSw); go_simp; try with_reducible rfl)
        simp only [Act.put, List.setIfInBounds_toArray, List.set_cons_zero, List.set_cons_succ]
        refine run_at (i := 5) rfl (by kernel_rfl) (by rfl) (fun K hK => ?_)
        simp only [List.getElem_toArray, List.getElem_cons_zero, List.getElem_cons_succ]
        go_simp
        first | (go_at_call 9; refine Calls.mono (HLE.out _ (below_next HY0.out ((Below.refl _ _).drew))) ?_; rintro e u1 ⟨v1, o1, rfl, hw1, hL1, hh1, hl1, hb1⟩; obtain ⟨a1, c1, e1, -⟩ := OwnR.val hw1; subst e1; have hq1 : Below y0.heap.size y0 u1 := below_next (Below.refl _ _).drew hb1; have HQ1 : Hid (Pw B u1 (updR F3 (1, 5 * k + 1) (rRowS (.slice a1 o1.length c1) o1)) K2 (5 * k) (.slice (some ⟨Gt, 0, none⟩) K2 ct) lv TX LP) := HP6.out.newL hq1 (5 * k + 1) (Nat.le_succ _) _ _ hw1; have HY1 : Hid (Below y0.heap.size y0 u1) := hq1; have hs7 := hs6.below hq1; clear hw1 hb1 hq1; have HM1 : Hid (LP (5 * k + 1) o1) := HLQ.out 1 o1 (by decide) (by have := HLL.out; omega) ⟨hL1, hh1⟩; clear hL1 hh1 hl1) | (go_at_call 10; refine Calls.mono (HUN.out _ (below_next HY0.out (HY1.out))) ?_; rintro e u2 ⟨v2, o2, rfl, hw2, hL2, hh2, hl2, hb2⟩; obtain ⟨a2, c2, e2, -⟩ := OwnR.val hw2; subst e2; have HQ2 : Hid (Pw B u2 (updR (updR F3 (1, 5 * k + 1) (rRowS (.slice a1 o1.length c1) o1)) (1, 5 * k + 2) (rRowS (.slice a2 o2.length c2) o2)) K2 (5 * k) (.slice (some ⟨Gt, 0, none⟩) K2 ct) lv TX LP) := HQ1.out.newL hb2 (5 * k + 2) (by omega) _ _ hw2; have HY2 : Hid (Below y0.heap.size y0 u2) := below_next HY1.out hb2; have hs8 := hs7.below hb2; clear hw2 hb2; have HM2 : Hid (LP (5 * k + 2) o2) := HLQ.out 2 o2 (by decide) (by have := HLL.out; rw [List.length_append] at hl2; omega) ⟨hL2, hh2⟩; clear hL2 hh2 hl2) | (go_at_call 11; refine Calls.mono (HAD.out _ (below_next HY0.out (HY2.out))) ?_; rintro e u3 ⟨v3, o3, rfl, hw3, hL3, hh3, hl3, hb3⟩; obtain ⟨a3, c3, e3, -⟩ := OwnR.val hw3; subst e3; have HQ3 : Hid (Pw B u3 (updR (updR (updR F3 (1, 5 * k + 1) (rRowS (.slice a1 o1.length c1) o1)) (1, 5 * k + 2) (rRowS (.slice a2 o2.length c2) o2)) (1, 5 * k + 3) (rRowS (.slice a3 o3.length c3) o3)) K2 (5 * k) (.slice (some ⟨Gt, 0, none⟩) K2 ct) lv TX LP) := HQ2.out.newL hb3 (5 * k + 3) (by omega) _ _ hw3; have HY3 : Hid (Below y0.heap.size y0 u3) := below_next HY2.out hb3; have hs9 := hs8.below hb3; clear hw3 hb3; have HM3 : Hid (LP (5 * k + 3) o3) := HLQ.out 3 o3 (by decide) (by have := HLL.out; have := addL_len l2 i0; omega) ⟨hL3, hh3⟩; clear hL3 hh3 hl3) | (go_at_call 12; refine Calls.mono (HMS.out _ (below_next HY0.out (HY3.out))) ?_; rintro e u4 ⟨v4, o4, rfl, hw4, hh4, hl4, hb4⟩; obtain ⟨a4, c4, e4, -⟩ := OwnR.val hw4; subst e4; have HQ4 : Hid (Pw B u4 (updR (updR (updR (updR F3 (1, 5 * k + 1) (rRowS (.slice a1 o1.length c1) o1)) (1, 5 * k + 2) (rRowS (.slice a2 o2.length c2) o2)) (1, 5 * k + 3) (rRowS (.slice a3 o3.length c3) o3)) (1, 5 * k + 4) (rRowS (.slice a4 o4.length c4) o4)) K2 (5 * k) (.slice (some ⟨Gt, 0, none⟩) K2 ct) lv TX LP) := HQ3.out.newL hb4 (5 * k + 4) (by omega) _ _ hw4; have HY4 : Hid (Below y0.heap.size y0 u4) := below_next HY3.out hb4; have hs10 := hs9.below hb4; clear hw4 hb4; have HM4 : Hid (LP (5 * k + 4) o4) := HLQ.out 4 o4 (by decide) (by have := HLL.out; omega) hh4; clear hh4 hl4) | (refine wpo_appL _ _ rfl (HQ4.out.below (al (Below.refl _ _) (.cells #[.slice ga9 gn2 gc9, .slice a1 o1.length c1, .slice a2 o2.length c2, .slice a3 o3.length c3, .slice a4 o4.length c4] 24))) rfl u4.heap.size 5 [.slice ga9 gn2 gc9, .slice a1 o1.length c1, .slice a2 o2.length c2, .slice a3 o3.length c3, .slice a4 o4.length c4] rfl rfl (heap_alloc_new u4 _) (five_lp (five_up _ _ _ _ HF3.out) (HLQ.out 0 l2 (by decide) (by have := HLL.out; omega) rfl) HM1.out HM2.out HM3.out HM4.out).1 (five_lp (five_up _ _ _ _ HF3.out) (HLQ.out 0 l2 (by decide) (by have := HLL.out; omega) rfl) HM1.out HM2.out HM3.out HM4.out).2 (by omega) ?_; intro Gl cl u6 F9 hpl hg9; have HPL : Hid (Pw B u6 F9 K2 (5 * k + 5) (.slice (some ⟨Gt, 0, none⟩) K2 ct) (.slice (some ⟨Gl, 0, none⟩) (5 * k + 5) cl) TX LP) := hpl; have hs11 := (hs10.below (al (Below.refl _ u4) (.cells #[.slice ga9 gn2 gc9, .slice a1 o1.length c1, .slice a2 o2.length c2, .slice a3 o3.length c3, .slice a4 o4.length c4] 24))).grown hg9 (fun e => HNA.out.1 e.symm) (fun e => HNA.out.2.1 e.symm) (fun e => HNA.out.2.2 e.symm); clear hpl hg9)
        go_wp2_with fail
        refine hK.out _ _ (by with_reducible first | assumption | exact hs6.below (Below.refl _ _).drew | exact hs10.below (al (Below.refl _ u4) _)) ?_
        clear hK K
        intro hHeld2
        clear hHeld
        have hHeld := hHeld2
        clear hHeld2
        try simp only [Act.put, List.setIfInBounds_toArray, List.set_cons_zero, List.set_cons_succ]
        refine run_at (i := 10) rfl (by kernel_rfl) (by rfl) (fun K hK => ?_)
        simp only [List.getElem_toArray, List.getElem_cons_zero, List.getElem_cons_succ]
        go_simp
        first | (go_at_call 9; refine Calls.mono (HLE.out _ (below_next HY0.out ((Below.refl _ _).drew))) ?_; rintro e u1 ⟨v1, o1, rfl, hw1, hL1, hh1, hl1, hb1⟩; obtain ⟨a1, c1, e1, -⟩ := OwnR.val hw1; subst e1; have hq1 : Below y0.heap.size y0 u1 := below_next (Below.refl _ _).drew hb1; have HQ1 : Hid (Pw B u1 (updR F3 (1, 5 * k + 1) (rRowS (.slice a1 o1.length c1) o1)) K2 (5 * k) (.slice (some ⟨Gt, 0, none⟩) K2 ct) lv TX LP) := HP6.out.newL hq1 (5 * k + 1) (Nat.le_succ _) _ _ hw1; have HY1 : Hid (Below y0.heap.size y0 u1) := hq1; have hs7 := hs6.below hq1; clear hw1 hb1 hq1; have HM1 : Hid (LP (5 * k + 1) o1) := HLQ.out 1 o1 (by decide) (by have := HLL.out; omega) ⟨hL1, hh1⟩; clear hL1 hh1 hl1) | (go_at_call 10; refine Calls.mono (HUN.out _ (below_next HY0.out (HY1.out))) ?_; rintro e u2 ⟨v2, o2, rfl, hw2, hL2, hh2, hl2, hb2⟩; obtain ⟨a2, c2, e2, -⟩ := OwnR.val hw2; subst e2; have HQ2 : Hid (Pw B u2 (updR (updR F3 (1, 5 * k + 1) (rRowS (.slice a1 o1.length c1) o1)) (1, 5 * k + 2) (rRowS (.slice a2 o2.length c2) o2)) K2 (5 * k) (.slice (some ⟨Gt, 0, none⟩) K2 ct) lv TX LP) := HQ1.out.newL hb2 (5 * k + 2) (by omega) _ _ hw2; have HY2 : Hid (Below y0.heap.size y0 u2) := below_next HY1.out hb2; have hs8 := hs7.below hb2; clear hw2 hb2; have HM2 : Hid (LP (5 * k + 2) o2) := HLQ.out 2 o2 (by decide) (by have := HLL.out; rw [List.length_append] at hl2; omega) ⟨hL2, hh2⟩; clear hL2 hh2 hl2) | (go_at_call 11; refine Calls.mono (HAD.out _ (below_next HY0.out (HY2.out))) ?_; rintro e u3 ⟨v3, o3, rfl, hw3, hL3, hh3, hl3, hb3⟩; obtain ⟨a3, c3, e3, -⟩ := OwnR.val hw3; subst e3; have HQ3 : Hid (Pw B u3 (updR (updR (updR F3 (1, 5 * k + 1) (rRowS (.slice a1 o1.length c1) o1)) (1, 5 * k + 2) (rRowS (.slice a2 o2.length c2) o2)) (1, 5 * k + 3) (rRowS (.slice a3 o3.length c3) o3)) K2 (5 * k) (.slice (some ⟨Gt, 0, none⟩) K2 ct) lv TX LP) := HQ2.out.newL hb3 (5 * k + 3) (by omega) _ _ hw3; have HY3 : Hid (Below y0.heap.size y0 u3) := below_next HY2.out hb3; have hs9 := hs8.below hb3; clear hw3 hb3; have HM3 : Hid (LP (5 * k + 3) o3) := HLQ.out 3 o3 (by decide) (by have := HLL.out; have := addL_len l2 i0; omega) ⟨hL3, hh3⟩; clear hL3 hh3 hl3) | (go_at_call 12; refine Calls.mono (HMS.out _ (below_next HY0.out (HY3.out))) ?_; rintro e u4 ⟨v4, o4, rfl, hw4, hh4, hl4, hb4⟩; obtain ⟨a4, c4, e4, -⟩ := OwnR.val hw4; subst e4; have HQ4 : Hid (Pw B u4 (updR (updR (updR (updR F3 (1, 5 * k + 1) (rRowS (.slice a1 o1.length c1) o1)) (1, 5 * k + 2) (rRowS (.slice a2 o2.length c2) o2)) (1, 5 * k + 3) (rRowS (.slice a3 o3.length c3) o3)) (1, 5 * k + 4) (rRowS (.slice a4 o4.length c4) o4)) K2 (5 * k) (.slice (some ⟨Gt, 0, none⟩) K2 ct) lv TX LP) := HQ3.out.newL hb4 (5 * k + 4) (by omega) _ _ hw4; have HY4 : Hid (Below y0.heap.size y0 u4) := below_next HY3.out hb4; have hs10 := hs9.below hb4; clear hw4 hb4; have HM4 : Hid (LP (5 * k + 4) o4) := HLQ.out 4 o4 (by decide) (by have := HLL.out; omega) hh4; clear hh4 hl4) | (refine wpo_appL _ _ rfl (HQ4.out.below (al (Below.refl _ _) (.cells #[.slice ga9 gn2 gc9, .slice a1 o1.length c1, .slice a2 o2.length c2, .slice a3 o3.length c3, .slice a4 o4.length c4] 24))) rfl u4.heap.size 5 [.slice ga9 gn2 gc9, .slice a1 o1.length c1, .slice a2 o2.length c2, .slice a3 o3.length c3, .slice a4 o4.length c4] rfl rfl (heap_alloc_new u4 _) (five_lp (five_up _ _ _ _ HF3.out) (HLQ.out 0 l2 (by decide) (by have := HLL.out; omega) rfl) HM1.out HM2.out HM3.out HM4.out).1 (five_lp (five_up _ _ _ _ HF3.out) (HLQ.out 0 l2 (by decide) (by have := HLL.out; omega) rfl) HM1.out HM2.out HM3.out HM4.out).2 (by omega) ?_; intro Gl cl u6 F9 hpl hg9; have HPL : Hid (Pw B u6 F9 K2 (5 * k + 5) (.slice (some ⟨Gt, 0, none⟩) K2 ct) (.slice (some ⟨Gl, 0, none⟩) (5 * k + 5) cl) TX LP) := hpl; have hs11 := (hs10.below (al (Below.refl _ u4) (.cells #[.slice ga9 gn2 gc9, .slice a1 o1.length c1, .slice a2 o2.length c2, .slice a3 o3.length c3, .slice a4 o4.length c4] 24))).grown hg9 (fun e => HNA.out.1 e.symm) (fun e => HNA.out.2.1 e.symm) (fun e => HNA.out.2.2 e.symm); clear hpl hg9)
        go_wp2_with fail
        refine hK.out _ _ (by with_reducible first | assumption | exact hs6.below (Below.refl _ _).drew | exact hs10.below (al (Below.refl _ u4) _)) ?_
        clear hK K
        intro hHeld2
        clear hHeld
        have hHeld := hHeld2
        clear hHeld2
        try simp only [Act.put, List.setIfInBounds_toArray, List.set_cons_zero, List.set_cons_succ]
        refine run_at (i := 14) rfl (by kernel_rfl) (by rfl) (fun K hK => ?_)
        simp only [List.getElem_toArray, List.getElem_cons_zero, List.getElem_cons_succ]
        go_simp
        first | (go_at_call 9; refine Calls.mono (HLE.out _ (below_next HY0.out ((Below.refl _ _).drew))) ?_; rintro e u1 ⟨v1, o1, rfl, hw1, hL1, hh1, hl1, hb1⟩; obtain ⟨a1, c1, e1, -⟩ := OwnR.val hw1; subst e1; have hq1 : Below y0.heap.size y0 u1 := below_next (Below.refl _ _).drew hb1; have HQ1 : Hid (Pw B u1 (updR F3 (1, 5 * k + 1) (rRowS (.slice a1 o1.length c1) o1)) K2 (5 * k) (.slice (some ⟨Gt, 0, none⟩) K2 ct) lv TX LP) := HP6.out.newL hq1 (5 * k + 1) (Nat.le_succ _) _ _ hw1; have HY1 : Hid (Below y0.heap.size y0 u1) := hq1; have hs7 := hs6.below hq1; clear hw1 hb1 hq1; have HM1 : Hid (LP (5 * k + 1) o1) := HLQ.out 1 o1 (by decide) (by have := HLL.out; omega) ⟨hL1, hh1⟩; clear hL1 hh1 hl1) | (go_at_call 10; refine Calls.mono (HUN.out _ (below_next HY0.out (HY1.out))) ?_; rintro e u2 ⟨v2, o2, rfl, hw2, hL2, hh2, hl2, hb2⟩; obtain ⟨a2, c2, e2, -⟩ := OwnR.val hw2; subst e2; have HQ2 : Hid (Pw B u2 (updR (updR F3 (1, 5 * k + 1) (rRowS (.slice a1 o1.length c1) o1)) (1, 5 * k + 2) (rRowS (.slice a2 o2.length c2) o2)) K2 (5 * k) (.slice (some ⟨Gt, 0, none⟩) K2 ct) lv TX LP) := HQ1.out.newL hb2 (5 * k + 2) (by omega) _ _ hw2; have HY2 : Hid (Below y0.heap.size y0 u2) := below_next HY1.out hb2; have hs8 := hs7.below hb2; clear hw2 hb2; have HM2 : Hid (LP (5 * k + 2) o2) := HLQ.out 2 o2 (by decide) (by have := HLL.out; rw [List.length_append] at hl2; omega) ⟨hL2, hh2⟩; clear hL2 hh2 hl2) | (go_at_call 11; refine Calls.mono (HAD.out _ (below_next HY0.out (HY2.out))) ?_; rintro e u3 ⟨v3, o3, rfl, hw3, hL3, hh3, hl3, hb3⟩; obtain ⟨a3, c3, e3, -⟩ := OwnR.val hw3; subst e3; have HQ3 : Hid (Pw B u3 (updR (updR (updR F3 (1, 5 * k + 1) (rRowS (.slice a1 o1.length c1) o1)) (1, 5 * k + 2) (rRowS (.slice a2 o2.length c2) o2)) (1, 5 * k + 3) (rRowS (.slice a3 o3.length c3) o3)) K2 (5 * k) (.slice (some ⟨Gt, 0, none⟩) K2 ct) lv TX LP) := HQ2.out.newL hb3 (5 * k + 3) (by omega) _ _ hw3; have HY3 : Hid (Below y0.heap.size y0 u3) := below_next HY2.out hb3; have hs9 := hs8.below hb3; clear hw3 hb3; have HM3 : Hid (LP (5 * k + 3) o3) := HLQ.out 3 o3 (by decide) (by have := HLL.out; have := addL_len l2 i0; omega) ⟨hL3, hh3⟩; clear hL3 hh3 hl3) | (go_at_call 12; refine Calls.mono (HMS.out _ (below_next HY0.out (HY3.out))) ?_; rintro e u4 ⟨v4, o4, rfl, hw4, hh4, hl4, hb4⟩; obtain ⟨a4, c4, e4, -⟩ := OwnR.val hw4; subst e4; have HQ4 : Hid (Pw B u4 (updR (updR (updR (updR F3 (1, 5 * k + 1) (rRowS (.slice a1 o1.length c1) o1)) (1, 5 * k + 2) (rRowS (.slice a2 o2.length c2) o2)) (1, 5 * k + 3) (rRowS (.slice a3 o3.length c3) o3)) (1, 5 * k + 4) (rRowS (.slice a4 o4.length c4) o4)) K2 (5 * k) (.slice (some ⟨Gt, 0, none⟩) K2 ct) lv TX LP) := HQ3.out.newL hb4 (5 * k + 4) (by omega) _ _ hw4; have HY4 : Hid (Below y0.heap.size y0 u4) := below_next HY3.out hb4; have hs10 := hs9.below hb4; clear hw4 hb4; have HM4 : Hid (LP (5 * k + 4) o4) := HLQ.out 4 o4 (by decide) (by have := HLL.out; omega) hh4; clear hh4 hl4) | (refine wpo_appL _ _ rfl (HQ4.out.below (al (Below.refl _ _) (.cells #[.slice ga9 gn2 gc9, .slice a1 o1.length c1, .slice a2 o2.length c2, .slice a3 o3.length c3, .slice a4 o4.length c4] 24))) rfl u4.heap.size 5 [.slice ga9 gn2 gc9, .slice a1 o1.length c1, .slice a2 o2.length c2, .slice a3 o3.length c3, .slice a4 o4.length c4] rfl rfl (heap_alloc_new u4 _) (five_lp (five_up _ _ _ _ HF3.out) (HLQ.out 0 l2 (by decide) (by have := HLL.out; omega) rfl) HM1.out HM2.out HM3.out HM4.out).1 (five_lp (five_up _ _ _ _ HF3.out) (HLQ.out 0 l2 (by decide) (by have := HLL.out; omega) rfl) HM1.out HM2.out HM3.out HM4.out).2 (by omega) ?_; intro Gl cl u6 F9 hpl hg9; have HPL : Hid (Pw B u6 F9 K2 (5 * k + 5) (.slice (some ⟨Gt, 0, none⟩) K2 ct) (.slice (some ⟨Gl, 0, none⟩) (5 * k + 5) cl) TX LP) := hpl; have hs11 := (hs10.below (al (Below.refl _ u4) (.cells #[.slice ga9 gn2 gc9, .slice a1 o1.length c1, .slice a2 o2.length c2, .slice a3 o3.length c3, .slice a4 o4.length c4] 24))).grown hg9 (fun e => HNA.out.1 e.symm) (fun e => HNA.out.2.1 e.symm) (fun e => HNA.out.2.2 e.symm); clear hpl hg9)
        go_wp2_with fail
        refine hK.out _ _ (by with_reducible first | assumption | exact hs6.below (Below.refl _ _).drew | exact hs10.below (al (Below.refl _ u4) _)) ?_
        clear hK K
        intro hHeld2
        clear hHeld
        have hHeld := hHeld2
        clear hHeld2
        try simp only [Act.put, List.setIfInBounds_toArray, List.set_cons_zero, List.set_cons_succ]
        refine run_at (i := 17) rfl (by kernel_rfl) (by rfl) (fun K hK => ?_)
        simp only [List.getElem_toArray, List.getElem_cons_zero, List.getElem_cons_succ]
        go_simp
        first | (go_at_call 9; refine Calls.mono (HLE.out _ (below_next HY0.out ((Below.refl _ _).drew))) ?_; rintro e u1 ⟨v1, o1, rfl, hw1, hL1, hh1, hl1, hb1⟩; obtain ⟨a1, c1, e1, -⟩ := OwnR.val hw1; subst e1; have hq1 : Below y0.heap.size y0 u1 := below_next (Below.refl _ _).drew hb1; have HQ1 : Hid (Pw B u1 (updR F3 (1, 5 * k + 1) (rRowS (.slice a1 o1.length c1) o1)) K2 (5 * k) (.slice (some ⟨Gt, 0, none⟩) K2 ct) lv TX LP) := HP6.out.newL hq1 (5 * k + 1) (Nat.le_succ _) _ _ hw1; have HY1 : Hid (Below y0.heap.size y0 u1) := hq1; have hs7 := hs6.below hq1; clear hw1 hb1 hq1; have HM1 : Hid (LP (5 * k + 1) o1) := HLQ.out 1 o1 (by decide) (by have := HLL.out; omega) ⟨hL1, hh1⟩; clear hL1 hh1 hl1) | (go_at_call 10; refine Calls.mono (HUN.out _ (below_next HY0.out (HY1.out))) ?_; rintro e u2 ⟨v2, o2, rfl, hw2, hL2, hh2, hl2, hb2⟩; obtain ⟨a2, c2, e2, -⟩ := OwnR.val hw2; subst e2; have HQ2 : Hid (Pw B u2 (updR (updR F3 (1, 5 * k + 1) (rRowS (.slice a1 o1.length c1) o1)) (1, 5 * k + 2) (rRowS (.slice a2 o2.length c2) o2)) K2 (5 * k) (.slice (some ⟨Gt, 0, none⟩) K2 ct) lv TX LP) := HQ1.out.newL hb2 (5 * k + 2) (by omega) _ _ hw2; have HY2 : Hid (Below y0.heap.size y0 u2) := below_next HY1.out hb2; have hs8 := hs7.below hb2; clear hw2 hb2; have HM2 : Hid (LP (5 * k + 2) o2) := HLQ.out 2 o2 (by decide) (by have := HLL.out; rw [List.length_append] at hl2; omega) ⟨hL2, hh2⟩; clear hL2 hh2 hl2) | (go_at_call 11; refine Calls.mono (HAD.out _ (below_next HY0.out (HY2.out))) ?_; rintro e u3 ⟨v3, o3, rfl, hw3, hL3, hh3, hl3, hb3⟩; obtain ⟨a3, c3, e3, -⟩ := OwnR.val hw3; subst e3; have HQ3 : Hid (Pw B u3 (updR (updR (updR F3 (1, 5 * k + 1) (rRowS (.slice a1 o1.length c1) o1)) (1, 5 * k + 2) (rRowS (.slice a2 o2.length c2) o2)) (1, 5 * k + 3) (rRowS (.slice a3 o3.length c3) o3)) K2 (5 * k) (.slice (some ⟨Gt, 0, none⟩) K2 ct) lv TX LP) := HQ2.out.newL hb3 (5 * k + 3) (by omega) _ _ hw3; have HY3 : Hid (Below y0.heap.size y0 u3) := below_next HY2.out hb3; have hs9 := hs8.below hb3; clear hw3 hb3; have HM3 : Hid (LP (5 * k + 3) o3) := HLQ.out 3 o3 (by decide) (by have := HLL.out; have := addL_len l2 i0; omega) ⟨hL3, hh3⟩; clear hL3 hh3 hl3) | (go_at_call 12; refine Calls.mono (HMS.out _ (below_next HY0.out (HY3.out))) ?_; rintro e u4 ⟨v4, o4, rfl, hw4, hh4, hl4, hb4⟩; obtain ⟨a4, c4, e4, -⟩ := OwnR.val hw4; subst e4; have HQ4 : Hid (Pw B u4 (updR (updR (updR (updR F3 (1, 5 * k + 1) (rRowS (.slice a1 o1.length c1) o1)) (1, 5 * k + 2) (rRowS (.slice a2 o2.length c2) o2)) (1, 5 * k + 3) (rRowS (.slice a3 o3.length c3) o3)) (1, 5 * k + 4) (rRowS (.slice a4 o4.length c4) o4)) K2 (5 * k) (.slice (some ⟨Gt, 0, none⟩) K2 ct) lv TX LP) := HQ3.out.newL hb4 (5 * k + 4) (by omega) _ _ hw4; have HY4 : Hid (Below y0.heap.size y0 u4) := below_next HY3.out hb4; have hs10 := hs9.below hb4; clear hw4 hb4; have HM4 : Hid (LP (5 * k + 4) o4) := HLQ.out 4 o4 (by decide) (by have := HLL.out; omega) hh4; clear hh4 hl4) | (refine wpo_appL _ _ rfl (HQ4.out.below (al (Below.refl _ _) (.cells #[.slice ga9 gn2 gc9, .slice a1 o1.length c1, .slice a2 o2.length c2, .slice a3 o3.length c3, .slice a4 o4.length c4] 24))) rfl u4.heap.size 5 [.slice ga9 gn2 gc9, .slice a1 o1.length c1, .slice a2 o2.length c2, .slice a3 o3.length c3, .slice a4 o4.length c4] rfl rfl (heap_alloc_new u4 _) (five_lp (five_up _ _ _ _ HF3.out) (HLQ.out 0 l2 (by decide) (by have := HLL.out; omega) rfl) HM1.out HM2.out HM3.out HM4.out).1 (five_lp (five_up _ _ _ _ HF3.out) (HLQ.out 0 l2 (by decide) (by have := HLL.out; omega) rfl) HM1.out HM2.out HM3.out HM4.out).2 (by omega) ?_; intro Gl cl u6 F9 hpl hg9; have HPL : Hid (Pw B u6 F9 K2 (5 * k + 5) (.slice (some ⟨Gt, 0, none⟩) K2 ct) (.slice (some ⟨Gl, 0, none⟩) (5 * k + 5) cl) TX LP) := hpl; have hs11 := (hs10.below (al (Below.refl _ u4) (.cells #[.slice ga9 gn2 gc9, .slice a1 o1.length c1, .slice a2 o2.length c2, .slice a3 o3.length c3, .slice a4 o4.length c4] 24))).grown hg9 (fun e => HNA.out.1 e.symm) (fun e => HNA.out.2.1 e.symm) (fun e => HNA.out.2.2 e.symm); clear hpl hg9)
        go_wp2_with fail
        refine hK.out _ _ (by with_reducible first | assumption | exact hs6.below (Below.refl _ _).drew | exact hs10.below (al (Below.refl _ u4) _)) ?_
        clear hK K
        intro hHeld2
        clear hHeld
        have hHeld := hHeld2
        clear hHeld2
        try simp only [Act.put, List.setIfInBounds_toArray, List.set_cons_zero, List.set_cons_succ]
        refine run_at (i := 18) rfl (by kernel_rfl) (by rfl) (fun K hK => ?_)
        simp only [List.getElem_toArray, List.getElem_cons_zero, List.getElem_cons_succ]
        go_simp
        go_wp2_with fail
        refine hK.out _ _ (by with_reducible first | assumption | exact hs6.below (Below.refl _ _).drew | exact hs10.below (al (Below.refl _ u4) _)) ?_
        clear hK K
        intro hHeld2
        clear hHeld
        have hHeld := hHeld2
        clear hHeld2
        try simp only [Act.put, List.setIfInBounds_toArray, List.set_cons_zero, List.set_cons_succ]
        refine run_at (i := 19) rfl (by kernel_rfl) (by rfl) (fun K hK => ?_)
        simp only [List.getElem_toArray, List.getElem_cons_zero, List.getElem_cons_succ]
        first | (go_at_call 9; refine Calls.mono (HLE.out _ (below_next HY0.out ((Below.refl _ _).drew))) ?_; rintro e u1 ⟨v1, o1, rfl, hw1, hL1, hh1, hl1, hb1⟩; obtain ⟨a1, c1, e1, -⟩ := OwnR.val hw1; subst e1; have hq1 : Below y0.heap.size y0 u1 := below_next (Below.refl _ _).drew hb1; have HQ1 : Hid (Pw B u1 (updR F3 (1, 5 * k + 1) (rRowS (.slice a1 o1.length c1) o1)) K2 (5 * k) (.slice (some ⟨Gt, 0, none⟩) K2 ct) lv TX LP) := HP6.out.newL hq1 (5 * k + 1) (Nat.le_succ _) _ _ hw1; have HY1 : Hid (Below y0.heap.size y0 u1) := hq1; have hs7 := hs6.below hq1; clear hw1 hb1 hq1; have HM1 : Hid (LP (5 * k + 1) o1) := HLQ.out 1 o1 (by decide) (by have := HLL.out; omega) ⟨hL1, hh1⟩; clear hL1 hh1 hl1) | (go_at_call 10; refine Calls.mono (HUN.out _ (below_next HY0.out (HY1.out))) ?_; rintro e u2 ⟨v2, o2, rfl, hw2, hL2, hh2, hl2, hb2⟩; obtain ⟨a2, c2, e2, -⟩ := OwnR.val hw2; subst e2; have HQ2 : Hid (Pw B u2 (updR (updR F3 (1, 5 * k + 1) (rRowS (.slice a1 o1.length c1) o1)) (1, 5 * k + 2) (rRowS (.slice a2 o2.length c2) o2)) K2 (5 * k) (.slice (some ⟨Gt, 0, none⟩) K2 ct) lv TX LP) := HQ1.out.newL hb2 (5 * k + 2) (by omega) _ _ hw2; have HY2 : Hid (Below y0.heap.size y0 u2) := below_next HY1.out hb2; have hs8 := hs7.below hb2; clear hw2 hb2; have HM2 : Hid (LP (5 * k + 2) o2) := HLQ.out 2 o2 (by decide) (by have := HLL.out; rw [List.length_append] at hl2; omega) ⟨hL2, hh2⟩; clear hL2 hh2 hl2) | (go_at_call 11; refine Calls.mono (HAD.out _ (below_next HY0.out (HY2.out))) ?_; rintro e u3 ⟨v3, o3, rfl, hw3, hL3, hh3, hl3, hb3⟩; obtain ⟨a3, c3, e3, -⟩ := OwnR.val hw3; subst e3; have HQ3 : Hid (Pw B u3 (updR (updR (updR F3 (1, 5 * k + 1) (rRowS (.slice a1 o1.length c1) o1)) (1, 5 * k + 2) (rRowS (.slice a2 o2.length c2) o2)) (1, 5 * k + 3) (rRowS (.slice a3 o3.length c3) o3)) K2 (5 * k) (.slice (some ⟨Gt, 0, none⟩) K2 ct) lv TX LP) := HQ2.out.newL hb3 (5 * k + 3) (by omega) _ _ hw3; have HY3 : Hid (Below y0.heap.size y0 u3) := below_next HY2.out hb3; have hs9 := hs8.below hb3; clear hw3 hb3; have HM3 : Hid (LP (5 * k + 3) o3) := HLQ.out 3 o3 (by decide) (by have := HLL.out; have := addL_len l2 i0; omega) ⟨hL3, hh3⟩; clear hL3 hh3 hl3) | (go_at_call 12; refine Calls.mono (HMS.out _ (below_next HY0.out (HY3.out))) ?_; rintro e u4 ⟨v4, o4, rfl, hw4, hh4, hl4, hb4⟩; obtain ⟨a4, c4, e4, -⟩ := OwnR.val hw4; subst e4; have HQ4 : Hid (Pw B u4 (updR (updR (updR (updR F3 (1, 5 * k + 1) (rRowS (.slice a1 o1.length c1) o1)) (1, 5 * k + 2) (rRowS (.slice a2 o2.length c2) o2)) (1, 5 * k + 3) (rRowS (.slice a3 o3.length c3) o3)) (1, 5 * k + 4) (rRowS (.slice a4 o4.length c4) o4)) K2 (5 * k) (.slice (some ⟨Gt, 0, none⟩) K2 ct) lv TX LP) := HQ3.out.newL hb4 (5 * k + 4) (by omega) _ _ hw4; have HY4 : Hid (Below y0.heap.size y0 u4) := below_next HY3.out hb4; have hs10 := hs9.below hb4; clear hw4 hb4; have HM4 : Hid (LP (5 * k + 4) o4) := HLQ.out 4 o4 (by decide) (by have := HLL.out; omega) hh4; clear hh4 hl4) | (refine wpo_appL _ _ rfl (HQ4.out.below (al (Below.refl _ _) (.cells #[.slice ga9 gn2 gc9, .slice a1 o1.length c1, .slice a2 o2.length c2, .slice a3 o3.length c3, .slice a4 o4.length c4] 24))) rfl u4.heap.size 5 [.slice ga9 gn2 gc9, .slice a1 o1.length c1, .slice a2 o2.length c2, .slice a3 o3.length c3, .slice a4 o4.length c4] rfl rfl (heap_alloc_new u4 _) (five_lp (five_up _ _ _ _ HF3.out) (HLQ.out 0 l2 (by decide) (by have := HLL.out; omega) rfl) HM1.out HM2.out HM3.out HM4.out).1 (five_lp (five_up _ _ _ _ HF3.out) (HLQ.out 0 l2 (by decide) (by have := HLL.out; omega) rfl) HM1.out HM2.out HM3.out HM4.out).2 (by omega) ?_; intro Gl cl u6 F9 hpl hg9; have HPL : Hid (Pw B u6 F9 K2 (5 * k + 5) (.slice (some ⟨Gt, 0, none⟩) K2 ct) (.slice (some ⟨Gl, 0, none⟩) (5 * k + 5) cl) TX LP) := hpl; have hs11 := (hs10.below (al (Below.refl _ u4) (.cells #[.slice ga9 gn2 gc9, .slice a1 o1.length c1, .slice a2 o2.length c2, .slice a3 o3.length c3, .slice a4 o4.length c4] 24))).grown hg9 (fun e => HNA.out.1 e.symm) (fun e => HNA.out.2.1 e.symm) (fun e => HNA.out.2.2 e.symm); clear hpl hg9)
        refine hK.out _ _ (by with_reducible first | assumption | exact hs6.below (Below.refl _ _).drew | exact hs10.below (al (Below.refl _ u4) _)) ?_
        clear hK K
        intro hHeld2
        clear hHeld
        have hHeld := hHeld2
        clear hHeld2
        try simp only [Act.put, List.setIfInBounds_toArray, List.set_cons_zero, List.set_cons_succ]
        refine take_at (i := 20) 10 (v := ?_) rfl rfl (by kernel_rfl) (by kernel_rfl) (by kernel_rfl) (fun _ _ _ h => h) (by rfl) ?_ hHeld ?_
        rotate_left
        · (intro w hSw; (try dsimp only at hSw); go_simp; try with_reducible rfl)
        simp only [Act.put, List.setIfInBounds_toArray, List.set_cons_zero, List.set_cons_succ]
        refine wpAnyH_done (by kernel_rfl) ?_ _
        refine NoPanic.normal ?_
        obtain ⟨K5, hK5⟩ : ∃ K5 : Nat, K5 = 5 * k + 5 := ⟨_, rfl⟩
        (try rw [← hK5])
        have HP9 : Hid (Pw B u6 F9 K2 K5 (.slice (some ⟨Gt, 0, none⟩) K2 ct) (.slice (some ⟨Gl, 0, none⟩) K5 cl) TX LP) := by rw [hK5]; exact HPL.out
        have HK5 : Hid (K5 = 5 * (k + 1)) := (show K5 = 5 * (k + 1) by omega)
        clear hK5 HPL
        go_wp2
        go_roundw
        case rel => exact ⟨_, _, k + 1, F9, rfl, rfl, by omega, by go_num, by rw [← HK2.out, ← HK5.out]; exact HP9.out⟩
        case measure => simp [intOf]; omega
      · have HENC : Hid (∀ z, Below B.heap.size B z → Calls Tryz.prog 6 #[.agg #[.int .i64 k1, .int .u64 e1, .int .u64 s1, .int .i64 p1, .int .i64 i1, .int .i64 c1, .slice (some ⟨gd1, 0, none⟩) dn1 DC1, .int .i64 cd1, .slice (some ⟨gg1, 0, none⟩) gn1 GC1]] z fun er z' => EncOwn (encT ⟨k1, e1, s1, p1, i1, c1, ds1, cd1, l1⟩) z er z') := fun z hz => encV k1 e1 s1 p1 i1 c1 (some ⟨gd1, 0, none⟩) dn1 DC1 cd1 (some ⟨gg1, 0, none⟩) gn1 GC1 ds1 l1 HN1.out.1 HN1.out.2.1 HV9.out z (rd_left (HG1.out z hz).1) (fun h => by cases h) (RdR.left (HG1.out z hz).2) (by have := HN1.out; omega) (by have := HN1.out; omega) (HTB.out z (HBW.out z hz))
        have HBB : Hid (Below B.heap.size B wr) := HPW.out.d.bel
        obtain ⟨N0, hN0⟩ : ∃ N0 : Nat, N0 = wr.heap.size := ⟨_, rfl⟩
        have HN0 : Hid (N0 = wr.heap.size) := hN0
        obtain ⟨Z, hZ⟩ : ∃ Z : World, Z = (wr.alloc (.cells #[.int .i64 k1, .int .u64 e1, .int .u64 s1, .int .i64 p1, .int .i64 i1, .int .i64 c1, .slice (some ⟨gd1, 0, none⟩) dn1 DC1, .int .i64 cd1, .slice (some ⟨gg1, 0, none⟩) gn1 GC1] 26)).alloc (.cells #[.int .i64 k1, .int .u64 e1, .int .u64 s1, .int .i64 p1, .int .i64 i1, .int .i64 c1, .slice da1 dn1 dc1, .int .i64 cd1, .slice ga1 gn1 gc1] 26) := ⟨_, rfl⟩
        have HZ : Hid (Below wr.heap.size wr Z ∧ Z.heap[N0]? = some (.cells #[.int .i64 k1, .int .u64 e1, .int .u64 s1, .int .i64 p1, .int .i64 i1, .int .i64 c1, .slice (some ⟨gd1, 0, none⟩) dn1 DC1, .int .i64 cd1, .slice (some ⟨gg1, 0, none⟩) gn1 GC1] 26 (0, 0)) ∧ Z.heap[N0 + 1]? = some (.cells #[.int .i64 k1, .int .u64 e1, .int .u64 s1, .int .i64 p1, .int .i64 i1, .int .i64 c1, .slice da1 dn1 dc1, .int .i64 cd1, .slice ga1 gn1 gc1] 26 (0, 0))) := (show Below wr.heap.size wr Z ∧ Z.heap[N0]? = some (.cells #[.int .i64 k1, .int .u64 e1, .int .u64 s1, .int .i64 p1, .int .i64 i1, .int .i64 c1, .slice (some ⟨gd1, 0, none⟩) dn1 DC1, .int .i64 cd1, .slice (some ⟨gg1, 0, none⟩) gn1 GC1] 26 (0, 0)) ∧ Z.heap[N0 + 1]? = some (.cells #[.int .i64 k1, .int .u64 e1, .int .u64 s1, .int .i64 p1, .int .i64 i1, .int .i64 c1, .slice da1 dn1 dc1, .int .i64 cd1, .slice ga1 gn1 gc1] 26 (0, 0)) by rw [hZ, hN0]; exact ⟨al (al (Below.refl _ _) _) _, (two_newU wr _ _).1, (two_newU wr _ _).2⟩)
        have hk1i : ¬ (k : Int) = 1 := by omega
        have hk1b : ((k : Int) == 1) = false := by simpa using hk1i
        go_wp2_with (first | (rw [← hZ]; (try rw [← hN0]); (refine wpList_load_g (by rfl) 26 _ rfl N0 0 (by rfl) [.int .i64 k1, .int .u64 e1, .int .u64 s1, .int .i64 p1, .int .i64 i1, .int .i64 c1, .slice (some ⟨gd1, 0, none⟩) dn1 DC1, .int .i64 cd1, .slice (some ⟨gg1, 0, none⟩) gn1 GC1] _ (box_range HZ.out.2.1) Tryz.underlying26 rfl info_un ?_)) | (refine wpList_load_g (by rfl) 26 _ rfl bx 0 (by rfl) [.int .i64 k1, .int .u64 e1, .int .u64 s1, .int .i64 p1, .int .i64 i1, .int .i64 c1, .slice (some ⟨gd1, 0, none⟩) dn1 DC1, .int .i64 cd1, .slice (some ⟨gg1, 0, none⟩) gn1 GC1] _ (HBX.out _ HBB.out) Tryz.underlying26 rfl info_un ?_) | (refine wpList_load_g (by rfl) 26 _ rfl w.heap.size 0 (by rfl) [.int .i64 k1, .int .u64 e1, .int .u64 s1, .int .i64 p1, .int .i64 i1, .int .i64 c1, .slice da1 dn1 dc1, .int .i64 cd1, .slice ga1 gn1 gc1] _ (HBU.out _ (al HBB.out _)) Tryz.underlying26 rfl info_un ?_))
        (try rw [← hZ])
        rw [← hN0]
        clear hN0 hZ
        have HE1 : Hid _ := HENC.out Z (below_next HBB.out HZ.out.1)
        refine Calls.mono HE1.out ?_
        rintro er z1 ⟨a8, L8, c8, rfl, hL8, ho8, hb8⟩
        have HP1 : Hid (Pw B z1 (updR F (0, 2 * k) (bRowS (.slice a8 L8 c8) (encT ⟨k1, e1, s1, p1, i1, c1, ds1, cd1, l1⟩ ++ sealL (encT ⟨k1, e1, s1, p1, i1, c1, ds1, cd1, l1⟩)))) (2 * k) (5 * k) tv lv TX LP) := (HPW.out.below HZ.out.1).newT hb8 (2 * k) (Nat.le_refl _) _ _ ho8
        have HZ1 : Hid (Below wr.heap.size wr z1) := below_next HZ.out.1 hb8
        have HC1 : Hid (z1.heap[N0]? = some (.cells #[.int .i64 k1, .int .u64 e1, .int .u64 s1, .int .i64 p1, .int .i64 i1, .int .i64 c1, .slice (some ⟨gd1, 0, none⟩) dn1 DC1, .int .i64 cd1, .slice (some ⟨gg1, 0, none⟩) gn1 GC1] 26 (0, 0)) ∧ z1.heap[N0 + 1]? = some (.cells #[.int .i64 k1, .int .u64 e1, .int .u64 s1, .int .i64 p1, .int .i64 i1, .int .i64 c1, .slice da1 dn1 dc1, .int .i64 cd1, .slice ga1 gn1 gc1] 26 (0, 0))) := ⟨(hb8.block N0 (Array.getElem?_eq_some_iff.1 HZ.out.2.1).1).trans HZ.out.2.1, (hb8.block (N0 + 1) (Array.getElem?_eq_some_iff.1 HZ.out.2.2).1).trans HZ.out.2.2⟩
        have HDC : Hid _ := decV a8 L8 c8 _ hL8 z1 (Own.four ho8).2.2.2.2 (Own.four ho8).2.1 (Own.four ho8).2.2.1 (by rw [hL8]; exact encT_len HV9.out) (HTB.out z1 (HBW.out z1 (below_next HBB.out HZ1.out))) k1 e1 s1 p1 i1 c1 ds1 cd1 l1 0 dn1 gn1 HN1.out.1 HN1.out.2.1 (decU_enc _ HV9.out)
        clear hL8 ho8 hb8 HE1 HENC HZ
        go_wp2_with fail
        refine Calls.mono HDC.out ?_
        rintro er z2 ⟨da9, dc9, ga9, gc9, rfl, hod, hog, hb9⟩
        obtain ⟨F2, hF2⟩ : ∃ F2, F2 = updR (updR (updR F (0, 2 * k) (bRowS (.slice a8 L8 c8) (encT ⟨k1, e1, s1, p1, i1, c1, ds1, cd1, l1⟩ ++ sealL (encT ⟨k1, e1, s1, p1, i1, c1, ds1, cd1, l1⟩)))) (0, 2 * k + 1) (bRowS (.slice da9 dn1 dc9) ds1)) (1, 5 * k) (rRowS (.slice ga9 gn1 gc9) l1) := ⟨_, rfl⟩
        have HP2 : Hid (Pw B z2 F2 (2 * k) (5 * k) tv lv TX LP) := by have h9 := HP1.out.newTL hb9 (2 * k + 1) (Nat.le_succ _) _ _ hod (5 * k) (Nat.le_refl _) _ _ hog; rw [← hF2] at h9; exact h9
        have HF2 : Hid (F2 (0, 2 * k) = bRowS (.slice a8 L8 c8) (encT ⟨k1, e1, s1, p1, i1, c1, ds1, cd1, l1⟩ ++ sealL (encT ⟨k1, e1, s1, p1, i1, c1, ds1, cd1, l1⟩)) ∧ F2 (0, 2 * k + 1) = bRowS (.slice da9 dn1 dc9) ds1 ∧ F2 (1, 5 * k) = rRowS (.slice ga9 gn1 gc9) l1) := by rw [hF2]; exact ⟨by rw [updR_other _ (by simp), updR_other _ (by simp), updR_same], by rw [updR_other _ (by simp), updR_same], by rw [updR_same]⟩
        clear hF2
        have HZ2 : Hid (Below wr.heap.size wr z2) := below_next HZ1.out hb9
        have HRD9 : Hid (Rd z2 da9 ds1 ∧ RdR z2 ga9 l1) := by
          have h8 := hog
          rw [HN1.out.2.1] at h8
          obtain ⟨a5, c5, e5, -, -, -, r5, -⟩ := OwnR.val h8
          cases e5
          exact ⟨(Own.four hod).2.2.2.2, r5⟩
        obtain ⟨N1, hN1⟩ : ∃ N1 : Nat, N1 = z2.heap.size := ⟨_, rfl⟩
        obtain ⟨z3, hz3⟩ : ∃ z3 : World, z3 = z2.alloc (.cells #[.int .i64 k1, .int .u64 e1, .int .u64 s1, .int .i64 p1, .int .i64 i1, .int .i64 c1, .slice da9 dn1 dc9, .int .i64 cd1, .slice ga9 gn1 gc9] 26) := ⟨_, rfl⟩
        have hb3 : Below z2.heap.size z2 z3 := by rw [hz3]; exact al (Below.refl _ _) _
        have HC3 : Hid (z3.heap[N1]? = some (.cells #[.int .i64 k1, .int .u64 e1, .int .u64 s1, .int .i64 p1, .int .i64 i1, .int .i64 c1, .slice da9 dn1 dc9, .int .i64 cd1, .slice ga9 gn1 gc9] 26 (0, 0))) := (show z3.heap[N1]? = some (.cells #[.int .i64 k1, .int .u64 e1, .int .u64 s1, .int .i64 p1, .int .i64 i1, .int .i64 c1, .slice da9 dn1 dc9, .int .i64 cd1, .slice ga9 gn1 gc9] 26 (0, 0)) by rw [hz3, hN1]; exact heap_alloc_new z2 _)
        have HC2 : Hid (z3.heap[N0]? = some (.cells #[.int .i64 k1, .int .u64 e1, .int .u64 s1, .int .i64 p1, .int .i64 i1, .int .i64 c1, .slice (some ⟨gd1, 0, none⟩) dn1 DC1, .int .i64 cd1, .slice (some ⟨gg1, 0, none⟩) gn1 GC1] 26 (0, 0)) ∧ z3.heap[N0 + 1]? = some (.cells #[.int .i64 k1, .int .u64 e1, .int .u64 s1, .int .i64 p1, .int .i64 i1, .int .i64 c1, .slice da1 dn1 dc1, .int .i64 cd1, .slice ga1 gn1 gc1] 26 (0, 0))) := by
          have h9 := below_next hb9 hb3
          exact ⟨(h9.block N0 (Array.getElem?_eq_some_iff.1 HC1.out.1).1).trans HC1.out.1, (h9.block (N0 + 1) (Array.getElem?_eq_some_iff.1 HC1.out.2).1).trans HC1.out.2⟩
        have HP3 : Hid (Pw B z3 F2 (2 * k) (5 * k) tv lv TX LP) := HP2.out.below hb3
        have HZ3 : Hid (Below wr.heap.size wr z3) := below_next HZ2.out hb3
        have HNN1 : Hid (wr.heap.size ≤ N1) := (show wr.heap.size ≤ N1 by rw [hN1]; exact HZ2.out.size)
        have HSU : Hid _ := sameUnit_t k1 e1 s1 p1 i1 c1 da9 dn1 dc9 cd1 ga9 gn1 gc9 da1 dc1 ga1 gc1 ds1 l1 z3 HN1.out.1 HN1.out.2.1 (HRD9.out.1.below hb3) (HRD1.out z3 (HBW.out z3 (below_next HBB.out HZ3.out))).1 (HRD9.out.2.below hb3) (HRD1.out z3 (HBW.out z3 (below_next HBB.out HZ3.out))).2 (by have := HN1.out; omega) (by have := HN1.out; omega)
        clear hod hog hb9 hb3 HP1 HC1 HDC HZ1 HP2 HZ2 HRD9
        go_wp2_with (rw [← hz3]; (refine wpList_load_g (by rfl) 26 _ rfl (N0 + 1) 0 (by rfl) [.int .i64 k1, .int .u64 e1, .int .u64 s1, .int .i64 p1, .int .i64 i1, .int .i64 c1, .slice da1 dn1 dc1, .int .i64 cd1, .slice ga1 gn1 gc1] _ (box_range HC2.out.2) Tryz.underlying26 rfl info_un ?_))
        (try rw [← hz3])
        rw [← hN1]
        clear hz3 hN1
        refine Calls.mono HSU.out ?_
        rintro er z4 ⟨rfl, hb4⟩
        have hc6 : z4.cell? ⟨N1, 6, none⟩ = some (.slice da9 dn1 dc9) := by rw [cell_of_row _ _ _ _ _ _ ((hb4.block N1 (Array.getElem?_eq_some_iff.1 HC3.out).1).trans HC3.out)]; rfl
        have HS4 : Hid (S3 N0 N1 by0 (.slice (some ⟨gg1, 0, none⟩) gn1 GC1) (.slice ga9 gn1 gc9) (.slice (some ⟨gg2, 0, none⟩) gn2 GC2) z4) := by
          refine S3.below ⟨?_, ?_, ?_⟩ hb4
          · rw [cell_of_row _ _ _ _ _ _ HC2.out.1]; rfl
          · rw [cell_of_row _ _ _ _ _ _ HC3.out]; rfl
          · have h9 := HBY.out z3 (below_next HBB.out HZ3.out) 8 _ rfl
            rwa [Nat.zero_add] at h9
        obtain ⟨z5, hz5⟩ : ∃ z5 : World, z5 = z4.alloc (.cells #[.slice a8 L8 c8, .slice da9 dn1 dc9] 23) := ⟨_, rfl⟩
        have hb5 : Below z4.heap.size z4 z5 := by rw [hz5]; exact al (Below.refl _ _) _
        have HU5 : Hid (z5.heap[z4.heap.size]? = some (.cells #[.slice a8 L8 c8, .slice da9 dn1 dc9] tB1 (0, 0))) := (show z5.heap[z4.heap.size]? = some (.cells #[.slice a8 L8 c8, .slice da9 dn1 dc9] tB1 (0, 0)) by rw [hz5]; exact heap_alloc_new z4 _)
        have HP5 : Hid (Pw B z5 F2 (2 * k) (5 * k) tv lv TX LP) := HP3.out.below (below_next hb4 hb5)
        have HS5 : Hid (S3 N0 N1 by0 (.slice (some ⟨gg1, 0, none⟩) gn1 GC1) (.slice ga9 gn1 gc9) (.slice (some ⟨gg2, 0, none⟩) gn2 GC2) z5) := HS4.out.below hb5
        have HTXk : Hid (TX (2 * k) = encT ⟨k1, e1, s1, p1, i1, c1, ds1, cd1, l1⟩ ++ sealL (encT ⟨k1, e1, s1, p1, i1, c1, ds1, cd1, l1⟩) ∧ TX (2 * k + 1) = ds1) := by rw [HTX.out]; exact txk1 hk1
        have HTV : Hid (∀ g, tv.ownBlock = some g → B.heap.size ≤ g ∧ g < wr.heap.size) := fun g hg => HPW.out.d.fam.lt (4, 0) g (by rw [HPW.out.rt]; exact hg)
        have HLV : Hid (∀ g, lv.ownBlock = some g → B.heap.size ≤ g ∧ g < wr.heap.size) := fun g hg => HPW.out.d.fam.lt (4, 1) g (by rw [HPW.out.rl]; exact hg)
        clear hb4 hb5 HSU HP3 HZ3 HC2 HC3 HS4
        go_wp2_with (at_builtin; rw [← hz5]; refine wp_appT rfl _ _ rfl HP5.out rfl z4.heap.size 2 _ _ rfl HU5.out (by rw [HTXk.out.1]; exact HF2.out.1) (by rw [HTXk.out.2]; exact HF2.out.2.1) (by omega) ?_; intro Gt ct y0 F3 hp6 hf3 hg6)
        obtain ⟨K2, hK2⟩ : ∃ K2 : Nat, K2 = 2 * k + 2 := ⟨_, rfl⟩
        rw [← hK2] at hp6 ⊢
        have HK2 : Hid (K2 = 2 * (k + 1)) := (show K2 = 2 * (k + 1) by omega)
        clear hK2
        have HP6 : Hid (Pw B y0 F3 K2 (5 * k) (.slice (some ⟨Gt, 0, none⟩) K2 ct) lv TX LP) := hp6
        have HF3 : Hid (F3 (1, 5 * k) = rRowS (.slice ga9 gn1 gc9) l1) := (hf3 _).trans HF2.out.2.2
        have hs6 : S3 N0 N1 by0 (.slice (some ⟨gg1, 0, none⟩) gn1 GC1) (.slice ga9 gn1 gc9) (.slice (some ⟨gg2, 0, none⟩) gn2 GC2) y0 := HS5.out.grown hg6 (fun e => by have := HTV.out _ e.symm; have := HN0.out; omega) (fun e => by have := HTV.out _ e.symm; have := HNN1.out; omega) (fun e => by have := HTV.out _ e.symm; have := HZB.out; omega)
        have HY0 : Hid (Below B.heap.size B y0) := hp6.d.bel
        have HNA : Hid (lv.ownBlock ≠ some N0 ∧ lv.ownBlock ≠ some N1 ∧ lv.ownBlock ≠ some by0) := ⟨fun e => by have := HLV.out _ e; have := HN0.out; omega, fun e => by have := HLV.out _ e; have := HNN1.out; omega, fun e => by have := HLV.out _ e; have := HZB.out; omega⟩
        clear hp6 hf3 hg6 hc6 hz5 HU5 HP5 HS5 HTV HLV HF2
        have HGG : Hid (gn1 ≤ 33 ∧ gn2 ≤ 33) := ⟨by have h9 := valid_got HV9.out; have := HN1.out; simp only at h9; omega, by have h9 := valid_got HV8.out; have := HN2.out; simp only at h9; omega⟩
        have HLE : Hid (∀ u, Below B.heap.size B u → Calls Tryz.prog 9 #[.slice (some ⟨gg1, 0, none⟩) gn1 GC1] u fun e u' => LeastOut l1 u e u') := fun u hu => least_t (some ⟨gg1, 0, none⟩) gn1 GC1 l1 u HN1.out.2.1 (RdR.left (HG1.out u hu).2) (fun h => by cases h) (by have := HGG.out; omega)
        have HUN : Hid (∀ u, Below B.heap.size B u → Calls Tryz.prog 10 #[.slice (some ⟨gg1, 0, none⟩) gn1 GC1, .slice (some ⟨gg2, 0, none⟩) gn2 GC2] u fun e u' => LeastOut (l1 ++ l2) u e u') := fun u hu => union_t (some ⟨gg1, 0, none⟩) (some ⟨gg2, 0, none⟩) gn1 gn2 GC1 GC2 l1 l2 u HN1.out.2.1 HN2.out.2.1 (RdR.left (HG1.out u hu).2) (RdR.left (HG2.out u hu).2) (by have := HGG.out; omega) (fun h => by cases h) (fun h => by cases h)
        have HAD : Hid (∀ u, Below B.heap.size B u → Calls Tryz.prog 11 #[.slice (some ⟨gg1, 0, none⟩) gn1 GC1, .int .i64 i0] u fun e u' => LeastOut (addL l1 i0) u e u') := fun u hu => add_t (some ⟨gg1, 0, none⟩) gn1 GC1 l1 i0 u HN1.out.2.1 (RdR.left (HG1.out u hu).2) (by have := HGG.out; omega) HI0.out (fun h => by cases h)
        have HMS : Hid (∀ u, Below B.heap.size B u → Calls Tryz.prog 12 #[.slice (some ⟨gg1, 0, none⟩) gn1 GC1, .int .i64 64] u fun e u' => MissOut l1 64 u e u') := fun u hu => missing_t (some ⟨gg1, 0, none⟩) gn1 GC1 l1 64 u HN1.out.2.1 (RdR.left (HG1.out u hu).2) (fun h => by cases h) (by have := HGG.out; omega)
        have HLL : Hid (l1.length ≤ 33 ∧ l2.length ≤ 33) := (show l1.length ≤ 33 ∧ l2.length ≤ 33 by have := HGG.out; have := HN1.out; have := HN2.out; exact ⟨by omega, by omega⟩)
        have HLQ : Hid (∀ (j : Nat) (out : List Rg), j < 5 → out.length ≤ 1000000 → LPk l1 l2 i0 j out → LP (5 * k + j) out) := fun j out hj hn h => by rw [HLP.out]; exact lpf hj hn (by rw [if_neg hk1]; exact h)
        go_wp2_with fail
        refine wp_region_noPanic ?_
        refine wp_region_held_drew (S := (fun u => S3 N0 N1 by0 (.slice (some ⟨gg1, 0, none⟩) gn1 GC1) (.slice ga9 gn1 gc9) (.slice (some ⟨gg2, 0, none⟩) gn2 GC2) u)) (by kernel_rfl) (by with_reducible first | assumption | exact hs6.below (Below.refl _ _).drew | exact hs10.below (al (Below.refl _ u4) _)) (fun hHeld => ?_)
        refine take_at (i := 0) 91 (v := ?_) rfl rfl (by kernel_rfl) (by kernel_rfl) (by kernel_rfl) (fun _ _ _ h => h) (by rfl) ?_ hHeld ?_
        rotate_left
        · (intro w hSw; (try dsimp only at hSw); go_simp; try with_reducible rfl)
        simp only [Act.put, List.setIfInBounds_toArray, List.set_cons_zero, List.set_cons_succ]
        refine take_at (i := 1) 92 (v := ?_) rfl rfl (by kernel_rfl) (by kernel_rfl) (by kernel_rfl) (fun _ _ _ h => h) (by rfl) ?_ hHeld ?_
        rotate_left
        · (intro w hSw; (try dsimp only at hSw); go_simp; try with_reducible rfl)
        simp only [Act.put, List.setIfInBounds_toArray, List.set_cons_zero, List.set_cons_succ]
        refine take_at (i := 2) 93 (v := ?_) rfl rfl (by kernel_rfl) (by kernel_rfl) (by kernel_rfl) (fun _ _ _ h => h) (by rfl) ?_ hHeld ?_
        rotate_left
        · (intro w hSw; have h7 := hSw.b; (try dsimp only at hSw); go_simp; try with_reducible rfl)
        simp only [Act.put, List.setIfInBounds_toArray, List.set_cons_zero, List.set_cons_succ]
        refine take_at (i := 3) 94 (v := ?_) rfl rfl (by kernel_rfl) (by kernel_rfl) (by kernel_rfl) (fun _ _ _ h => h) (by rfl) ?_ hHeld ?_
        rotate_left
        · (intro w hSw; (try dsimp only at hSw); go_simp; try with_reducible rfl)
        simp only [Act.put, List.setIfInBounds_toArray, List.set_cons_zero, List.set_cons_succ]
        refine take_at (i := 4) 95 (v := ?_) rfl rfl (by kernel_rfl) (by kernel_rfl) (by kernel_rfl) (fun _ _ _ h => h) (by rfl) ?_ hHeld ?_
        rotate_left
        · (intro w hSw; have h7 := hSw.a; (try dsimp only at hSw); go_simp; try with_reducible rfl)
        simp only [Act.put, List.setIfInBounds_toArray, List.set_cons_zero, List.set_cons_succ]
        refine take_at (i := 6) 97 (v := ?_) rfl rfl (by kernel_rfl) (by kernel_rfl) (by kernel_rfl) (fun _ _ _ h => h) (by rfl) ?_ hHeld ?_
        rotate_left
        · (intro w hSw; (try dsimp only at hSw); go_simp; try with_reducible rfl)
        simp only [Act.put, List.setIfInBounds_toArray, List.set_cons_zero, List.set_cons_succ]
        refine take_at (i := 7) 98 (v := ?_) rfl rfl (by kernel_rfl) (by kernel_rfl) (by kernel_rfl) (fun _ _ _ h => h) (by rfl) ?_ hHeld ?_
        rotate_left
        · (intro w hSw; have h7 := hSw.a; (try dsimp only at hSw); go_simp; try with_reducible rfl)
        simp only [Act.put, List.setIfInBounds_toArray, List.set_cons_zero, List.set_cons_succ]
        refine take_at (i := 8) 99 (v := ?_) rfl rfl (by kernel_rfl) (by kernel_rfl) (by kernel_rfl) (fun _ _ _ h => h) (by rfl) ?_ hHeld ?_
        rotate_left
        · (intro w hSw; (try dsimp only at hSw); go_simp; try with_reducible rfl)
        simp only [Act.put, List.setIfInBounds_toArray, List.set_cons_zero, List.set_cons_succ]
        refine take_at (i := 9) 100 (v := ?_) rfl rfl (by kernel_rfl) (by kernel_rfl) (by kernel_rfl) (fun _ _ _ h => h) (by rfl) ?_ hHeld ?_
        rotate_left
        · (intro w hSw; have h7 := hSw.c; (try dsimp only at hSw); go_simp; try with_reducible rfl)
        simp only [Act.put, List.setIfInBounds_toArray, List.set_cons_zero, List.set_cons_succ]
        refine take_at (i := 11) 102 (v := ?_) rfl rfl (by kernel_rfl) (by kernel_rfl) (by kernel_rfl) (fun _ _ _ h => h) (by rfl) ?_ hHeld ?_
        rotate_left
        · (intro w hSw; (try dsimp only at hSw); go_simp; try with_reducible rfl)
        simp only [Act.put, List.setIfInBounds_toArray, List.set_cons_zero, List.set_cons_succ]
        refine take_at (i := 12) 103 (v := ?_) rfl rfl (by kernel_rfl) (by kernel_rfl) (by kernel_rfl) (fun _ _ _ h => h) (by rfl) ?_ hHeld ?_
        rotate_left
        · (intro w hSw; have h7 := hSw.a; (try dsimp only at hSw); go_simp; try with_reducible rfl)
        simp only [Act.put, List.setIfInBounds_toArray, List.set_cons_zero, List.set_cons_succ]
        refine take_at (i := 13) 104 (v := ?_) rfl rfl (by kernel_rfl) (by kernel_rfl) (by kernel_rfl) (fun _ _ _ h => h) (by rfl) ?_ hHeld ?_
        rotate_left
        · (intro w hSw; (try dsimp only at hSw); go_simp; try with_reducible rfl)
        simp only [Act.put, List.setIfInBounds_toArray, List.set_cons_zero, List.set_cons_succ]
        refine take_at (i := 15) 106 (v := ?_) rfl rfl (by kernel_rfl) (by kernel_rfl) (by kernel_rfl) (fun _ _ _ h => h) (by rfl) ?_ hHeld ?_
        rotate_left
        · (intro w hSw; (try dsimp only at hSw); go_simp; try with_reducible rfl)
        simp only [Act.put, List.setIfInBounds_toArray, List.set_cons_zero, List.set_cons_succ]
        refine take_at (i := 16) 107 (v := ?_) rfl rfl (by kernel_rfl) (by kernel_rfl) (by kernel_rfl) (fun _ _ _ h => h) (by rfl) ?_ hHeld ?_
        rotate_left
        · (intro w hSw; have h7 := hSw.a; (try dsimp only at hSw); go_simp; try with_reducible rfl)
        simp only [Act.put, List.setIfInBounds_toArray, List.set_cons_zero, List.set_cons_succ]
        refine run_at (i := 5) rfl (by kernel_rfl) (by rfl) (fun K hK => ?_)
        simp only [List.getElem_toArray, List.getElem_cons_zero, List.getElem_cons_succ]
        go_simp
        first | (go_at_call 9; refine Calls.mono (HLE.out _ (below_next HY0.out ((Below.refl _ _).drew))) ?_; rintro e u1 ⟨v1, o1, rfl, hw1, hL1, hh1, hl1, hb1⟩; obtain ⟨a1, c1, e1, -⟩ := OwnR.val hw1; subst e1; have hq1 : Below y0.heap.size y0 u1 := below_next (Below.refl _ _).drew hb1; have HQ1 : Hid (Pw B u1 (updR F3 (1, 5 * k + 1) (rRowS (.slice a1 o1.length c1) o1)) K2 (5 * k) (.slice (some ⟨Gt, 0, none⟩) K2 ct) lv TX LP) := HP6.out.newL hq1 (5 * k + 1) (Nat.le_succ _) _ _ hw1; have HY1 : Hid (Below y0.heap.size y0 u1) := hq1; have hs7 := hs6.below hq1; clear hw1 hb1 hq1; have HM1 : Hid (LP (5 * k + 1) o1) := HLQ.out 1 o1 (by decide) (by have := HLL.out; omega) ⟨hL1, hh1⟩; clear hL1 hh1 hl1) | (go_at_call 10; refine Calls.mono (HUN.out _ (below_next HY0.out (HY1.out))) ?_; rintro e u2 ⟨v2, o2, rfl, hw2, hL2, hh2, hl2, hb2⟩; obtain ⟨a2, c2, e2, -⟩ := OwnR.val hw2; subst e2; have HQ2 : Hid (Pw B u2 (updR (updR F3 (1, 5 * k + 1) (rRowS (.slice a1 o1.length c1) o1)) (1, 5 * k + 2) (rRowS (.slice a2 o2.length c2) o2)) K2 (5 * k) (.slice (some ⟨Gt, 0, none⟩) K2 ct) lv TX LP) := HQ1.out.newL hb2 (5 * k + 2) (by omega) _ _ hw2; have HY2 : Hid (Below y0.heap.size y0 u2) := below_next HY1.out hb2; have hs8 := hs7.below hb2; clear hw2 hb2; have HM2 : Hid (LP (5 * k + 2) o2) := HLQ.out 2 o2 (by decide) (by have := HLL.out; rw [List.length_append] at hl2; omega) ⟨hL2, hh2⟩; clear hL2 hh2 hl2) | (go_at_call 11; refine Calls.mono (HAD.out _ (below_next HY0.out (HY2.out))) ?_; rintro e u3 ⟨v3, o3, rfl, hw3, hL3, hh3, hl3, hb3⟩; obtain ⟨a3, c3, e3, -⟩ := OwnR.val hw3; subst e3; have HQ3 : Hid (Pw B u3 (updR (updR (updR F3 (1, 5 * k + 1) (rRowS (.slice a1 o1.length c1) o1)) (1, 5 * k + 2) (rRowS (.slice a2 o2.length c2) o2)) (1, 5 * k + 3) (rRowS (.slice a3 o3.length c3) o3)) K2 (5 * k) (.slice (some ⟨Gt, 0, none⟩) K2 ct) lv TX LP) := HQ2.out.newL hb3 (5 * k + 3) (by omega) _ _ hw3; have HY3 : Hid (Below y0.heap.size y0 u3) := below_next HY2.out hb3; have hs9 := hs8.below hb3; clear hw3 hb3; have HM3 : Hid (LP (5 * k + 3) o3) := HLQ.out 3 o3 (by decide) (by have := HLL.out; have := addL_len l1 i0; omega) ⟨hL3, hh3⟩; clear hL3 hh3 hl3) | (go_at_call 12; refine Calls.mono (HMS.out _ (below_next HY0.out (HY3.out))) ?_; rintro e u4 ⟨v4, o4, rfl, hw4, hh4, hl4, hb4⟩; obtain ⟨a4, c4, e4, -⟩ := OwnR.val hw4; subst e4; have HQ4 : Hid (Pw B u4 (updR (updR (updR (updR F3 (1, 5 * k + 1) (rRowS (.slice a1 o1.length c1) o1)) (1, 5 * k + 2) (rRowS (.slice a2 o2.length c2) o2)) (1, 5 * k + 3) (rRowS (.slice a3 o3.length c3) o3)) (1, 5 * k + 4) (rRowS (.slice a4 o4.length c4) o4)) K2 (5 * k) (.slice (some ⟨Gt, 0, none⟩) K2 ct) lv TX LP) := HQ3.out.newL hb4 (5 * k + 4) (by omega) _ _ hw4; have HY4 : Hid (Below y0.heap.size y0 u4) := below_next HY3.out hb4; have hs10 := hs9.below hb4; clear hw4 hb4; have HM4 : Hid (LP (5 * k + 4) o4) := HLQ.out 4 o4 (by decide) (by have := HLL.out; omega) hh4; clear hh4 hl4) | (refine wpo_appL _ _ rfl (HQ4.out.below (al (Below.refl _ _) (.cells #[.slice ga9 gn1 gc9, .slice a1 o1.length c1, .slice a2 o2.length c2, .slice a3 o3.length c3, .slice a4 o4.length c4] 24))) rfl u4.heap.size 5 [.slice ga9 gn1 gc9, .slice a1 o1.length c1, .slice a2 o2.length c2, .slice a3 o3.length c3, .slice a4 o4.length c4] rfl rfl (heap_alloc_new u4 _) (five_lp (five_up _ _ _ _ HF3.out) (HLQ.out 0 l1 (by decide) (by have := HLL.out; omega) rfl) HM1.out HM2.out HM3.out HM4.out).1 (five_lp (five_up _ _ _ _ HF3.out) (HLQ.out 0 l1 (by decide) (by have := HLL.out; omega) rfl) HM1.out HM2.out HM3.out HM4.out).2 (by omega) ?_; intro Gl cl u6 F9 hpl hg9; have HPL : Hid (Pw B u6 F9 K2 (5 * k + 5) (.slice (some ⟨Gt, 0, none⟩) K2 ct) (.slice (some ⟨Gl, 0, none⟩) (5 * k + 5) cl) TX LP) := hpl; have hs11 := (hs10.below (al (Below.refl _ u4) (.cells #[.slice ga9 gn1 gc9, .slice a1 o1.length c1, .slice a2 o2.length c2, .slice a3 o3.length c3, .slice a4 o4.length c4] 24))).grown hg9 (fun e => HNA.out.1 e.symm) (fun e => HNA.out.2.1 e.symm) (fun e => HNA.out.2.2 e.symm); clear hpl hg9)
        go_wp2_with fail
        refine hK.out _ _ (by with_reducible first | assumption | exact hs6.below (Below.refl _ _).drew | exact hs10.below (al (Below.refl _ u4) _)) ?_
        clear hK K
        intro hHeld2
        clear hHeld
        have hHeld := hHeld2
        clear hHeld2
        try simp only [Act.put, List.setIfInBounds_toArray, List.set_cons_zero, List.set_cons_succ]
        refine run_at (i := 10) rfl (by kernel_rfl) (by rfl) (fun K hK => ?_)
        simp only [List.getElem_toArray, List.getElem_cons_zero, List.getElem_cons_succ]
        go_simp
        first | (go_at_call 9; refine Calls.mono (HLE.out _ (below_next HY0.out ((Below.refl _ _).drew))) ?_; rintro e u1 ⟨v1, o1, rfl, hw1, hL1, hh1, hl1, hb1⟩; obtain ⟨a1, c1, e1, -⟩ := OwnR.val hw1; subst e1; have hq1 : Below y0.heap.size y0 u1 := below_next (Below.refl _ _).drew hb1; have HQ1 : Hid (Pw B u1 (updR F3 (1, 5 * k + 1) (rRowS (.slice a1 o1.length c1) o1)) K2 (5 * k) (.slice (some ⟨Gt, 0, none⟩) K2 ct) lv TX LP) := HP6.out.newL hq1 (5 * k + 1) (Nat.le_succ _) _ _ hw1; have HY1 : Hid (Below y0.heap.size y0 u1) := hq1; have hs7 := hs6.below hq1; clear hw1 hb1 hq1; have HM1 : Hid (LP (5 * k + 1) o1) := HLQ.out 1 o1 (by decide) (by have := HLL.out; omega) ⟨hL1, hh1⟩; clear hL1 hh1 hl1) | (go_at_call 10; refine Calls.mono (HUN.out _ (below_next HY0.out (HY1.out))) ?_; rintro e u2 ⟨v2, o2, rfl, hw2, hL2, hh2, hl2, hb2⟩; obtain ⟨a2, c2, e2, -⟩ := OwnR.val hw2; subst e2; have HQ2 : Hid (Pw B u2 (updR (updR F3 (1, 5 * k + 1) (rRowS (.slice a1 o1.length c1) o1)) (1, 5 * k + 2) (rRowS (.slice a2 o2.length c2) o2)) K2 (5 * k) (.slice (some ⟨Gt, 0, none⟩) K2 ct) lv TX LP) := HQ1.out.newL hb2 (5 * k + 2) (by omega) _ _ hw2; have HY2 : Hid (Below y0.heap.size y0 u2) := below_next HY1.out hb2; have hs8 := hs7.below hb2; clear hw2 hb2; have HM2 : Hid (LP (5 * k + 2) o2) := HLQ.out 2 o2 (by decide) (by have := HLL.out; rw [List.length_append] at hl2; omega) ⟨hL2, hh2⟩; clear hL2 hh2 hl2) | (go_at_call 11; refine Calls.mono (HAD.out _ (below_next HY0.out (HY2.out))) ?_; rintro e u3 ⟨v3, o3, rfl, hw3, hL3, hh3, hl3, hb3⟩; obtain ⟨a3, c3, e3, -⟩ := OwnR.val hw3; subst e3; have HQ3 : Hid (Pw B u3 (updR (updR (updR F3 (1, 5 * k + 1) (rRowS (.slice a1 o1.length c1) o1)) (1, 5 * k + 2) (rRowS (.slice a2 o2.length c2) o2)) (1, 5 * k + 3) (rRowS (.slice a3 o3.length c3) o3)) K2 (5 * k) (.slice (some ⟨Gt, 0, none⟩) K2 ct) lv TX LP) := HQ2.out.newL hb3 (5 * k + 3) (by omega) _ _ hw3; have HY3 : Hid (Below y0.heap.size y0 u3) := below_next HY2.out hb3; have hs9 := hs8.below hb3; clear hw3 hb3; have HM3 : Hid (LP (5 * k + 3) o3) := HLQ.out 3 o3 (by decide) (by have := HLL.out; have := addL_len l1 i0; omega) ⟨hL3, hh3⟩; clear hL3 hh3 hl3) | (go_at_call 12; refine Calls.mono (HMS.out _ (below_next HY0.out (HY3.out))) ?_; rintro e u4 ⟨v4, o4, rfl, hw4, hh4, hl4, hb4⟩; obtain ⟨a4, c4, e4, -⟩ := OwnR.val hw4; subst e4; have HQ4 : Hid (Pw B u4 (updR (updR (updR (updR F3 (1, 5 * k + 1) (rRowS (.slice a1 o1.length c1) o1)) (1, 5 * k + 2) (rRowS (.slice a2 o2.length c2) o2)) (1, 5 * k + 3) (rRowS (.slice a3 o3.length c3) o3)) (1, 5 * k + 4) (rRowS (.slice a4 o4.length c4) o4)) K2 (5 * k) (.slice (some ⟨Gt, 0, none⟩) K2 ct) lv TX LP) := HQ3.out.newL hb4 (5 * k + 4) (by omega) _ _ hw4; have HY4 : Hid (Below y0.heap.size y0 u4) := below_next HY3.out hb4; have hs10 := hs9.below hb4; clear hw4 hb4; have HM4 : Hid (LP (5 * k + 4) o4) := HLQ.out 4 o4 (by decide) (by have := HLL.out; omega) hh4; clear hh4 hl4) | (refine wpo_appL _ _ rfl (HQ4.out.below (al (Below.refl _ _) (.cells #[.slice ga9 gn1 gc9, .slice a1 o1.length c1, .slice a2 o2.length c2, .slice a3 o3.length c3, .slice a4 o4.length c4] 24))) rfl u4.heap.size 5 [.slice ga9 gn1 gc9, .slice a1 o1.length c1, .slice a2 o2.length c2, .slice a3 o3.length c3, .slice a4 o4.length c4] rfl rfl (heap_alloc_new u4 _) (five_lp (five_up _ _ _ _ HF3.out) (HLQ.out 0 l1 (by decide) (by have := HLL.out; omega) rfl) HM1.out HM2.out HM3.out HM4.out).1 (five_lp (five_up _ _ _ _ HF3.out) (HLQ.out 0 l1 (by decide) (by have := HLL.out; omega) rfl) HM1.out HM2.out HM3.out HM4.out).2 (by omega) ?_; intro Gl cl u6 F9 hpl hg9; have HPL : Hid (Pw B u6 F9 K2 (5 * k + 5) (.slice (some ⟨Gt, 0, none⟩) K2 ct) (.slice (some ⟨Gl, 0, none⟩) (5 * k + 5) cl) TX LP) := hpl; have hs11 := (hs10.below (al (Below.refl _ u4) (.cells #[.slice ga9 gn1 gc9, .slice a1 o1.length c1, .slice a2 o2.length c2, .slice a3 o3.length c3, .slice a4 o4.length c4] 24))).grown hg9 (fun e => HNA.out.1 e.symm) (fun e => HNA.out.2.1 e.symm) (fun e => HNA.out.2.2 e.symm); clear hpl hg9)
        go_wp2_with fail
        refine hK.out _ _ (by with_reducible first | assumption | exact hs6.below (Below.refl _ _).drew | exact hs10.below (al (Below.refl _ u4) _)) ?_
        clear hK K
        intro hHeld2
        clear hHeld
        have hHeld := hHeld2
        clear hHeld2
        try simp only [Act.put, List.setIfInBounds_toArray, List.set_cons_zero, List.set_cons_succ]
        refine run_at (i := 14) rfl (by kernel_rfl) (by rfl) (fun K hK => ?_)
        simp only [List.getElem_toArray, List.getElem_cons_zero, List.getElem_cons_succ]
        go_simp
        first | (go_at_call 9; refine Calls.mono (HLE.out _ (below_next HY0.out ((Below.refl _ _).drew))) ?_; rintro e u1 ⟨v1, o1, rfl, hw1, hL1, hh1, hl1, hb1⟩; obtain ⟨a1, c1, e1, -⟩ := OwnR.val hw1; subst e1; have hq1 : Below y0.heap.size y0 u1 := below_next (Below.refl _ _).drew hb1; have HQ1 : Hid (Pw B u1 (updR F3 (1, 5 * k + 1) (rRowS (.slice a1 o1.length c1) o1)) K2 (5 * k) (.slice (some ⟨Gt, 0, none⟩) K2 ct) lv TX LP) := HP6.out.newL hq1 (5 * k + 1) (Nat.le_succ _) _ _ hw1; have HY1 : Hid (Below y0.heap.size y0 u1) := hq1; have hs7 := hs6.below hq1; clear hw1 hb1 hq1; have HM1 : Hid (LP (5 * k + 1) o1) := HLQ.out 1 o1 (by decide) (by have := HLL.out; omega) ⟨hL1, hh1⟩; clear hL1 hh1 hl1) | (go_at_call 10; refine Calls.mono (HUN.out _ (below_next HY0.out (HY1.out))) ?_; rintro e u2 ⟨v2, o2, rfl, hw2, hL2, hh2, hl2, hb2⟩; obtain ⟨a2, c2, e2, -⟩ := OwnR.val hw2; subst e2; have HQ2 : Hid (Pw B u2 (updR (updR F3 (1, 5 * k + 1) (rRowS (.slice a1 o1.length c1) o1)) (1, 5 * k + 2) (rRowS (.slice a2 o2.length c2) o2)) K2 (5 * k) (.slice (some ⟨Gt, 0, none⟩) K2 ct) lv TX LP) := HQ1.out.newL hb2 (5 * k + 2) (by omega) _ _ hw2; have HY2 : Hid (Below y0.heap.size y0 u2) := below_next HY1.out hb2; have hs8 := hs7.below hb2; clear hw2 hb2; have HM2 : Hid (LP (5 * k + 2) o2) := HLQ.out 2 o2 (by decide) (by have := HLL.out; rw [List.length_append] at hl2; omega) ⟨hL2, hh2⟩; clear hL2 hh2 hl2) | (go_at_call 11; refine Calls.mono (HAD.out _ (below_next HY0.out (HY2.out))) ?_; rintro e u3 ⟨v3, o3, rfl, hw3, hL3, hh3, hl3, hb3⟩; obtain ⟨a3, c3, e3, -⟩ := OwnR.val hw3; subst e3; have HQ3 : Hid (Pw B u3 (updR (updR (updR F3 (1, 5 * k + 1) (rRowS (.slice a1 o1.length c1) o1)) (1, 5 * k + 2) (rRowS (.slice a2 o2.length c2) o2)) (1, 5 * k + 3) (rRowS (.slice a3 o3.length c3) o3)) K2 (5 * k) (.slice (some ⟨Gt, 0, none⟩) K2 ct) lv TX LP) := HQ2.out.newL hb3 (5 * k + 3) (by omega) _ _ hw3; have HY3 : Hid (Below y0.heap.size y0 u3) := below_next HY2.out hb3; have hs9 := hs8.below hb3; clear hw3 hb3; have HM3 : Hid (LP (5 * k + 3) o3) := HLQ.out 3 o3 (by decide) (by have := HLL.out; have := addL_len l1 i0; omega) ⟨hL3, hh3⟩; clear hL3 hh3 hl3) | (go_at_call 12; refine Calls.mono (HMS.out _ (below_next HY0.out (HY3.out))) ?_; rintro e u4 ⟨v4, o4, rfl, hw4, hh4, hl4, hb4⟩; obtain ⟨a4, c4, e4, -⟩ := OwnR.val hw4; subst e4; have HQ4 : Hid (Pw B u4 (updR (updR (updR (updR F3 (1, 5 * k + 1) (rRowS (.slice a1 o1.length c1) o1)) (1, 5 * k + 2) (rRowS (.slice a2 o2.length c2) o2)) (1, 5 * k + 3) (rRowS (.slice a3 o3.length c3) o3)) (1, 5 * k + 4) (rRowS (.slice a4 o4.length c4) o4)) K2 (5 * k) (.slice (some ⟨Gt, 0, none⟩) K2 ct) lv TX LP) := HQ3.out.newL hb4 (5 * k + 4) (by omega) _ _ hw4; have HY4 : Hid (Below y0.heap.size y0 u4) := below_next HY3.out hb4; have hs10 := hs9.below hb4; clear hw4 hb4; have HM4 : Hid (LP (5 * k + 4) o4) := HLQ.out 4 o4 (by decide) (by have := HLL.out; omega) hh4; clear hh4 hl4) | (refine wpo_appL _ _ rfl (HQ4.out.below (al (Below.refl _ _) (.cells #[.slice ga9 gn1 gc9, .slice a1 o1.length c1, .slice a2 o2.length c2, .slice a3 o3.length c3, .slice a4 o4.length c4] 24))) rfl u4.heap.size 5 [.slice ga9 gn1 gc9, .slice a1 o1.length c1, .slice a2 o2.length c2, .slice a3 o3.length c3, .slice a4 o4.length c4] rfl rfl (heap_alloc_new u4 _) (five_lp (five_up _ _ _ _ HF3.out) (HLQ.out 0 l1 (by decide) (by have := HLL.out; omega) rfl) HM1.out HM2.out HM3.out HM4.out).1 (five_lp (five_up _ _ _ _ HF3.out) (HLQ.out 0 l1 (by decide) (by have := HLL.out; omega) rfl) HM1.out HM2.out HM3.out HM4.out).2 (by omega) ?_; intro Gl cl u6 F9 hpl hg9; have HPL : Hid (Pw B u6 F9 K2 (5 * k + 5) (.slice (some ⟨Gt, 0, none⟩) K2 ct) (.slice (some ⟨Gl, 0, none⟩) (5 * k + 5) cl) TX LP) := hpl; have hs11 := (hs10.below (al (Below.refl _ u4) (.cells #[.slice ga9 gn1 gc9, .slice a1 o1.length c1, .slice a2 o2.length c2, .slice a3 o3.length c3, .slice a4 o4.length c4] 24))).grown hg9 (fun e => HNA.out.1 e.symm) (fun e => HNA.out.2.1 e.symm) (fun e => HNA.out.2.2 e.symm); clear hpl hg9)
        go_wp2_with fail
        refine hK.out _ _ (by with_reducible first | assumption | exact hs6.below (Below.refl _ _).drew | exact hs10.below (al (Below.refl _ u4) _)) ?_
        clear hK K
        intro hHeld2
        clear hHeld
        have hHeld := hHeld2
        clear hHeld2
        try simp only [Act.put, List.setIfInBounds_toArray, List.set_cons_zero, List.set_cons_succ]
        refine run_at (i := 17) rfl (by kernel_rfl) (by rfl) (fun K hK => ?_)
        simp only [List.getElem_toArray, List.getElem_cons_zero, List.getElem_cons_succ]
        go_simp
        first | (go_at_call 9; refine Calls.mono (HLE.out _ (below_next HY0.out ((Below.refl _ _).drew))) ?_; rintro e u1 ⟨v1, o1, rfl, hw1, hL1, hh1, hl1, hb1⟩; obtain ⟨a1, c1, e1, -⟩ := OwnR.val hw1; subst e1; have hq1 : Below y0.heap.size y0 u1 := below_next (Below.refl _ _).drew hb1; have HQ1 : Hid (Pw B u1 (updR F3 (1, 5 * k + 1) (rRowS (.slice a1 o1.length c1) o1)) K2 (5 * k) (.slice (some ⟨Gt, 0, none⟩) K2 ct) lv TX LP) := HP6.out.newL hq1 (5 * k + 1) (Nat.le_succ _) _ _ hw1; have HY1 : Hid (Below y0.heap.size y0 u1) := hq1; have hs7 := hs6.below hq1; clear hw1 hb1 hq1; have HM1 : Hid (LP (5 * k + 1) o1) := HLQ.out 1 o1 (by decide) (by have := HLL.out; omega) ⟨hL1, hh1⟩; clear hL1 hh1 hl1) | (go_at_call 10; refine Calls.mono (HUN.out _ (below_next HY0.out (HY1.out))) ?_; rintro e u2 ⟨v2, o2, rfl, hw2, hL2, hh2, hl2, hb2⟩; obtain ⟨a2, c2, e2, -⟩ := OwnR.val hw2; subst e2; have HQ2 : Hid (Pw B u2 (updR (updR F3 (1, 5 * k + 1) (rRowS (.slice a1 o1.length c1) o1)) (1, 5 * k + 2) (rRowS (.slice a2 o2.length c2) o2)) K2 (5 * k) (.slice (some ⟨Gt, 0, none⟩) K2 ct) lv TX LP) := HQ1.out.newL hb2 (5 * k + 2) (by omega) _ _ hw2; have HY2 : Hid (Below y0.heap.size y0 u2) := below_next HY1.out hb2; have hs8 := hs7.below hb2; clear hw2 hb2; have HM2 : Hid (LP (5 * k + 2) o2) := HLQ.out 2 o2 (by decide) (by have := HLL.out; rw [List.length_append] at hl2; omega) ⟨hL2, hh2⟩; clear hL2 hh2 hl2) | (go_at_call 11; refine Calls.mono (HAD.out _ (below_next HY0.out (HY2.out))) ?_; rintro e u3 ⟨v3, o3, rfl, hw3, hL3, hh3, hl3, hb3⟩; obtain ⟨a3, c3, e3, -⟩ := OwnR.val hw3; subst e3; have HQ3 : Hid (Pw B u3 (updR (updR (updR F3 (1, 5 * k + 1) (rRowS (.slice a1 o1.length c1) o1)) (1, 5 * k + 2) (rRowS (.slice a2 o2.length c2) o2)) (1, 5 * k + 3) (rRowS (.slice a3 o3.length c3) o3)) K2 (5 * k) (.slice (some ⟨Gt, 0, none⟩) K2 ct) lv TX LP) := HQ2.out.newL hb3 (5 * k + 3) (by omega) _ _ hw3; have HY3 : Hid (Below y0.heap.size y0 u3) := below_next HY2.out hb3; have hs9 := hs8.below hb3; clear hw3 hb3; have HM3 : Hid (LP (5 * k + 3) o3) := HLQ.out 3 o3 (by decide) (by have := HLL.out; have := addL_len l1 i0; omega) ⟨hL3, hh3⟩; clear hL3 hh3 hl3) | (go_at_call 12; refine Calls.mono (HMS.out _ (below_next HY0.out (HY3.out))) ?_; rintro e u4 ⟨v4, o4, rfl, hw4, hh4, hl4, hb4⟩; obtain ⟨a4, c4, e4, -⟩ := OwnR.val hw4; subst e4; have HQ4 : Hid (Pw B u4 (updR (updR (updR (updR F3 (1, 5 * k + 1) (rRowS (.slice a1 o1.length c1) o1)) (1, 5 * k + 2) (rRowS (.slice a2 o2.length c2) o2)) (1, 5 * k + 3) (rRowS (.slice a3 o3.length c3) o3)) (1, 5 * k + 4) (rRowS (.slice a4 o4.length c4) o4)) K2 (5 * k) (.slice (some ⟨Gt, 0, none⟩) K2 ct) lv TX LP) := HQ3.out.newL hb4 (5 * k + 4) (by omega) _ _ hw4; have HY4 : Hid (Below y0.heap.size y0 u4) := below_next HY3.out hb4; have hs10 := hs9.below hb4; clear hw4 hb4; have HM4 : Hid (LP (5 * k + 4) o4) := HLQ.out 4 o4 (by decide) (by have := HLL.out; omega) hh4; clear hh4 hl4) | (refine wpo_appL _ _ rfl (HQ4.out.below (al (Below.refl _ _) (.cells #[.slice ga9 gn1 gc9, .slice a1 o1.length c1, .slice a2 o2.length c2, .slice a3 o3.length c3, .slice a4 o4.length c4] 24))) rfl u4.heap.size 5 [.slice ga9 gn1 gc9, .slice a1 o1.length c1, .slice a2 o2.length c2, .slice a3 o3.length c3, .slice a4 o4.length c4] rfl rfl (heap_alloc_new u4 _) (five_lp (five_up _ _ _ _ HF3.out) (HLQ.out 0 l1 (by decide) (by have := HLL.out; omega) rfl) HM1.out HM2.out HM3.out HM4.out).1 (five_lp (five_up _ _ _ _ HF3.out) (HLQ.out 0 l1 (by decide) (by have := HLL.out; omega) rfl) HM1.out HM2.out HM3.out HM4.out).2 (by omega) ?_; intro Gl cl u6 F9 hpl hg9; have HPL : Hid (Pw B u6 F9 K2 (5 * k + 5) (.slice (some ⟨Gt, 0, none⟩) K2 ct) (.slice (some ⟨Gl, 0, none⟩) (5 * k + 5) cl) TX LP) := hpl; have hs11 := (hs10.below (al (Below.refl _ u4) (.cells #[.slice ga9 gn1 gc9, .slice a1 o1.length c1, .slice a2 o2.length c2, .slice a3 o3.length c3, .slice a4 o4.length c4] 24))).grown hg9 (fun e => HNA.out.1 e.symm) (fun e => HNA.out.2.1 e.symm) (fun e => HNA.out.2.2 e.symm); clear hpl hg9)
        go_wp2_with fail
        refine hK.out _ _ (by with_reducible first | assumption | exact hs6.below (Below.refl _ _).drew | exact hs10.below (al (Below.refl _ u4) _)) ?_
        clear hK K
        intro hHeld2
        clear hHeld
        have hHeld := hHeld2
        clear hHeld2
        try simp only [Act.put, List.setIfInBounds_toArray, List.set_cons_zero, List.set_cons_succ]
        refine run_at (i := 18) rfl (by kernel_rfl) (by rfl) (fun K hK => ?_)
        simp only [List.getElem_toArray, List.getElem_cons_zero, List.getElem_cons_succ]
        go_simp
        go_wp2_with fail
        refine hK.out _ _ (by with_reducible first | assumption | exact hs6.below (Below.refl _ _).drew | exact hs10.below (al (Below.refl _ u4) _)) ?_
        clear hK K
        intro hHeld2
        clear hHeld
        have hHeld := hHeld2
        clear hHeld2
        try simp only [Act.put, List.setIfInBounds_toArray, List.set_cons_zero, List.set_cons_succ]
        refine run_at (i := 19) rfl (by kernel_rfl) (by rfl) (fun K hK => ?_)
        simp only [List.getElem_toArray, List.getElem_cons_zero, List.getElem_cons_succ]
        first | (go_at_call 9; refine Calls.mono (HLE.out _ (below_next HY0.out ((Below.refl _ _).drew))) ?_; rintro e u1 ⟨v1, o1, rfl, hw1, hL1, hh1, hl1, hb1⟩; obtain ⟨a1, c1, e1, -⟩ := OwnR.val hw1; subst e1; have hq1 : Below y0.heap.size y0 u1 := below_next (Below.refl _ _).drew hb1; have HQ1 : Hid (Pw B u1 (updR F3 (1, 5 * k + 1) (rRowS (.slice a1 o1.length c1) o1)) K2 (5 * k) (.slice (some ⟨Gt, 0, none⟩) K2 ct) lv TX LP) := HP6.out.newL hq1 (5 * k + 1) (Nat.le_succ _) _ _ hw1; have HY1 : Hid (Below y0.heap.size y0 u1) := hq1; have hs7 := hs6.below hq1; clear hw1 hb1 hq1; have HM1 : Hid (LP (5 * k + 1) o1) := HLQ.out 1 o1 (by decide) (by have := HLL.out; omega) ⟨hL1, hh1⟩; clear hL1 hh1 hl1) | (go_at_call 10; refine Calls.mono (HUN.out _ (below_next HY0.out (HY1.out))) ?_; rintro e u2 ⟨v2, o2, rfl, hw2, hL2, hh2, hl2, hb2⟩; obtain ⟨a2, c2, e2, -⟩ := OwnR.val hw2; subst e2; have HQ2 : Hid (Pw B u2 (updR (updR F3 (1, 5 * k + 1) (rRowS (.slice a1 o1.length c1) o1)) (1, 5 * k + 2) (rRowS (.slice a2 o2.length c2) o2)) K2 (5 * k) (.slice (some ⟨Gt, 0, none⟩) K2 ct) lv TX LP) := HQ1.out.newL hb2 (5 * k + 2) (by omega) _ _ hw2; have HY2 : Hid (Below y0.heap.size y0 u2) := below_next HY1.out hb2; have hs8 := hs7.below hb2; clear hw2 hb2; have HM2 : Hid (LP (5 * k + 2) o2) := HLQ.out 2 o2 (by decide) (by have := HLL.out; rw [List.length_append] at hl2; omega) ⟨hL2, hh2⟩; clear hL2 hh2 hl2) | (go_at_call 11; refine Calls.mono (HAD.out _ (below_next HY0.out (HY2.out))) ?_; rintro e u3 ⟨v3, o3, rfl, hw3, hL3, hh3, hl3, hb3⟩; obtain ⟨a3, c3, e3, -⟩ := OwnR.val hw3; subst e3; have HQ3 : Hid (Pw B u3 (updR (updR (updR F3 (1, 5 * k + 1) (rRowS (.slice a1 o1.length c1) o1)) (1, 5 * k + 2) (rRowS (.slice a2 o2.length c2) o2)) (1, 5 * k + 3) (rRowS (.slice a3 o3.length c3) o3)) K2 (5 * k) (.slice (some ⟨Gt, 0, none⟩) K2 ct) lv TX LP) := HQ2.out.newL hb3 (5 * k + 3) (by omega) _ _ hw3; have HY3 : Hid (Below y0.heap.size y0 u3) := below_next HY2.out hb3; have hs9 := hs8.below hb3; clear hw3 hb3; have HM3 : Hid (LP (5 * k + 3) o3) := HLQ.out 3 o3 (by decide) (by have := HLL.out; have := addL_len l1 i0; omega) ⟨hL3, hh3⟩; clear hL3 hh3 hl3) | (go_at_call 12; refine Calls.mono (HMS.out _ (below_next HY0.out (HY3.out))) ?_; rintro e u4 ⟨v4, o4, rfl, hw4, hh4, hl4, hb4⟩; obtain ⟨a4, c4, e4, -⟩ := OwnR.val hw4; subst e4; have HQ4 : Hid (Pw B u4 (updR (updR (updR (updR F3 (1, 5 * k + 1) (rRowS (.slice a1 o1.length c1) o1)) (1, 5 * k + 2) (rRowS (.slice a2 o2.length c2) o2)) (1, 5 * k + 3) (rRowS (.slice a3 o3.length c3) o3)) (1, 5 * k + 4) (rRowS (.slice a4 o4.length c4) o4)) K2 (5 * k) (.slice (some ⟨Gt, 0, none⟩) K2 ct) lv TX LP) := HQ3.out.newL hb4 (5 * k + 4) (by omega) _ _ hw4; have HY4 : Hid (Below y0.heap.size y0 u4) := below_next HY3.out hb4; have hs10 := hs9.below hb4; clear hw4 hb4; have HM4 : Hid (LP (5 * k + 4) o4) := HLQ.out 4 o4 (by decide) (by have := HLL.out; omega) hh4; clear hh4 hl4) | (refine wpo_appL _ _ rfl (HQ4.out.below (al (Below.refl _ _) (.cells #[.slice ga9 gn1 gc9, .slice a1 o1.length c1, .slice a2 o2.length c2, .slice a3 o3.length c3, .slice a4 o4.length c4] 24))) rfl u4.heap.size 5 [.slice ga9 gn1 gc9, .slice a1 o1.length c1, .slice a2 o2.length c2, .slice a3 o3.length c3, .slice a4 o4.length c4] rfl rfl (heap_alloc_new u4 _) (five_lp (five_up _ _ _ _ HF3.out) (HLQ.out 0 l1 (by decide) (by have := HLL.out; omega) rfl) HM1.out HM2.out HM3.out HM4.out).1 (five_lp (five_up _ _ _ _ HF3.out) (HLQ.out 0 l1 (by decide) (by have := HLL.out; omega) rfl) HM1.out HM2.out HM3.out HM4.out).2 (by omega) ?_; intro Gl cl u6 F9 hpl hg9; have HPL : Hid (Pw B u6 F9 K2 (5 * k + 5) (.slice (some ⟨Gt, 0, none⟩) K2 ct) (.slice (some ⟨Gl, 0, none⟩) (5 * k + 5) cl) TX LP) := hpl; have hs11 := (hs10.below (al (Below.refl _ u4) (.cells #[.slice ga9 gn1 gc9, .slice a1 o1.length c1, .slice a2 o2.length c2, .slice a3 o3.length c3, .slice a4 o4.length c4] 24))).grown hg9 (fun e => HNA.out.1 e.symm) (fun e => HNA.out.2.1 e.symm) (fun e => HNA.out.2.2 e.symm); clear hpl hg9)
        refine hK.out _ _ (by with_reducible first | assumption | exact hs6.below (Below.refl _ _).drew | exact hs10.below (al (Below.refl _ u4) _)) ?_
        clear hK K
        intro hHeld2
        clear hHeld
        have hHeld := hHeld2
        clear hHeld2
        try simp only [Act.put, List.setIfInBounds_toArray, List.set_cons_zero, List.set_cons_succ]
        refine take_at (i := 20) 10 (v := ?_) rfl rfl (by kernel_rfl) (by kernel_rfl) (by kernel_rfl) (fun _ _ _ h => h) (by rfl) ?_ hHeld ?_
        rotate_left
        · (intro w hSw; (try dsimp only at hSw); go_simp; try with_reducible rfl)
        simp only [Act.put, List.setIfInBounds_toArray, List.set_cons_zero, List.set_cons_succ]
        refine wpAnyH_done (by kernel_rfl) ?_ _
        refine NoPanic.normal ?_
        obtain ⟨K5, hK5⟩ : ∃ K5 : Nat, K5 = 5 * k + 5 := ⟨_, rfl⟩
        (try rw [← hK5])
        have HP9 : Hid (Pw B u6 F9 K2 K5 (.slice (some ⟨Gt, 0, none⟩) K2 ct) (.slice (some ⟨Gl, 0, none⟩) K5 cl) TX LP) := by rw [hK5]; exact HPL.out
        have HK5 : Hid (K5 = 5 * (k + 1)) := (show K5 = 5 * (k + 1) by omega)
        clear hK5 HPL
        go_wp2
        go_roundw
        case rel => exact ⟨_, _, k + 1, F9, rfl, rfl, by omega, by go_num, by rw [← HK2.out, ← HK5.out]; exact HP9.out⟩
        case measure => simp [intOf]; omega
    · obtain rfl : 3 = k := by omega
      obtain ⟨Gt, ct, Gl, cl, rfl, rfl, hnm⟩ := HPW.out.nm (by decide) (by decide)
      have HNM : Hid _ := hnm
      have HLN : Hid _ := HPW.out.ln (fun i _ => by rw [HTX.out]; exact txF_len HV9.out HV8.out i) (fun i out h => by rw [HLP.out] at h; exact h.1)
      clear hnm
      as_aux_lemma =>
        go_wp2
        go_loopw [18] (fun i wq => ∃ k : Nat, k ≤ 2 ∧ i = .int .i64 (k : Int) ∧ Below wr.heap.size wr wq) (fun i _ => 2 - (intOf i).toNat)
        case atStart => exact ⟨0, Nat.zero_le _, rfl, Below.refl _ _⟩
        case round =>
          obtain ⟨k, hk2, rfl, hbw⟩ := hrel
          have HPW2 : Hid _ := HPW.out.below hbw
          have HNM2 : Hid _ := HNM.out.below hbw
          have HBW2 : Hid _ := hbw
          clear hbw
          by_cases hlt2 : k < 2
          · obtain ⟨M, hM⟩ : ∃ M, M = 4 + k := ⟨_, rfl⟩
            have hkA := HNM2.out.cellT k (by omega)
            have hkB := HNM2.out.cellT M (by omega)
            have eT : TX M = TX k := by rw [HTX.out, hM]; exact txF_4 _ _ _ _ k hlt2
            have eA := HPW2.out.et k (by omega)
            have eB := HPW2.out.et M (by omega)
            have oA := HPW2.out.d.fam.own (0, k)
            have oB := HPW2.out.d.fam.own (0, M)
            rw [eA] at oA
            rw [eB, eT] at oB
            obtain ⟨aA, cA, vA, -, -, -, rA, -⟩ := Own.val (bRowS_at.1 oA)
            obtain ⟨aB, cB, vB, -, -, -, rB, -⟩ := Own.val (bRowS_at.1 oB)
            rw [vA] at hkA
            rw [vB] at hkB
            obtain ⟨ys, hys⟩ : ∃ ys, ys = TX k := ⟨_, rfl⟩
            rw [← hys] at hkA hkB rA rB
            obtain ⟨L, hL⟩ : ∃ L, L = ys.length := ⟨_, rfl⟩
            rw [← hL] at hkA hkB
            have hcA : ∀ u, Below wr.heap.size wr u → u.cell? ⟨Gt, k, none⟩ = some (.slice aA L cA) := fun u hu => (hu.cell (World.block_lt_of_cell? wr _ hkA)).trans hkA
            have hcB : ∀ u, Below wr.heap.size wr u → u.cell? ⟨Gt, M, none⟩ = some (.slice aB L cB) := fun u hu => (hu.cell (World.block_lt_of_cell? wr _ hkB)).trans hkB
            have hvA : ∀ u, Below wr.heap.size wr u → (convert 23 9 (.slice aA L cA)).run Tryz.prog u = .ok (.string ⟨ys.toArray⟩) u := fun u hu => conv_rd' (rA.below hu) _ cA hL
            have hvB : ∀ u, Below wr.heap.size wr u → (convert 23 9 (.slice aB L cB)).run Tryz.prog u = .ok (.string ⟨ys.toArray⟩) u := fun u hu => conv_rd' (rB.below hu) _ cB hL
            have hwM : IntKind.i64.wrap (4 + (k : Int)) = (M : Int) := by rw [IntKind.wrap_i64]; omega
            have hM6 : M < 6 := by omega
            have hMi : (M : Int) < 6 := by omega
            have hM0 : (0 : Int) ≤ (M : Int) := by omega
            have hki : (k : Int) < 6 := by omega
            have hk0 : (0 : Int) ≤ (k : Int) := by omega
            clear hM hkA hkB eA eB eT oA oB vA vB hys hL
            go_wp2_with fail
            refine wp_region_noPanic ?_
            refine wp_region_held_drew (S := (fun u => Below wr.heap.size wr u)) (by kernel_rfl) (by first | exact (Below.refl _ _).drew | assumption) (fun hHeld => ?_)
            refine take_at (i := 0) 115 (v := ?_) rfl rfl (by kernel_rfl) (by kernel_rfl) (by kernel_rfl) (fun _ _ _ h => h) (by rfl) ?_ hHeld ?_
            rotate_left
            · (intro w hSw; (try dsimp only at hSw); go_simp; try with_reducible rfl)
            simp only [Act.put, List.setIfInBounds_toArray, List.set_cons_zero, List.set_cons_succ]
            refine take_at (i := 1) 116 (v := ?_) rfl rfl (by kernel_rfl) (by kernel_rfl) (by kernel_rfl) (fun _ _ _ h => h) (by rfl) ?_ hHeld ?_
            rotate_left
            · (intro w hSw; (try dsimp only at hSw); go_simp; try with_reducible rfl)
            simp only [Act.put, List.setIfInBounds_toArray, List.set_cons_zero, List.set_cons_succ]
            refine take_at (i := 2) 117 (v := ?_) rfl rfl (by kernel_rfl) (by kernel_rfl) (by kernel_rfl) (fun _ _ _ h => h) (by rfl) ?_ hHeld ?_
            rotate_left
            · (intro w hSw; (try dsimp only at hSw); go_simp; try with_reducible rfl)
            simp only [Act.put, List.setIfInBounds_toArray, List.set_cons_zero, List.set_cons_succ]
            refine take_at (i := 3) 118 (v := ?_) rfl rfl (by kernel_rfl) (by kernel_rfl) (by kernel_rfl) (fun _ _ _ h => h) (by rfl) ?_ hHeld ?_
            rotate_left
            · (intro w hSw; (try dsimp only at hSw); go_simp; try with_reducible rfl)
            simp only [Act.put, List.setIfInBounds_toArray, List.set_cons_zero, List.set_cons_succ]
            refine take_at (i := 4) 119 (v := ?_) rfl rfl (by kernel_rfl) (by kernel_rfl) (by kernel_rfl) (fun _ _ _ h => h) (by rfl) ?_ hHeld ?_
            rotate_left
            · (intro w hSw; (try dsimp only at hSw); go_simp; try with_reducible rfl)
            simp only [Act.put, List.setIfInBounds_toArray, List.set_cons_zero, List.set_cons_succ]
            refine take_at (i := 5) 120 (v := ?_) rfl rfl (by kernel_rfl) (by kernel_rfl) (by kernel_rfl) (fun _ _ _ h => h) (by rfl) ?_ hHeld ?_
            rotate_left
            · (intro w hSw; (try dsimp only at hSw); go_simp; try with_reducible rfl)
            simp only [Act.put, List.setIfInBounds_toArray, List.set_cons_zero, List.set_cons_succ]
            refine take_at (i := 6) 121 (v := ?_) rfl rfl (by kernel_rfl) (by kernel_rfl) (by kernel_rfl) (fun _ _ _ h => h) (by rfl) ?_ hHeld ?_
            rotate_left
            · (intro w hSw; (try dsimp only at hSw); go_simp; try with_reducible rfl)
            simp only [Act.put, List.setIfInBounds_toArray, List.set_cons_zero, List.set_cons_succ]
            refine take_at (i := 7) 122 (v := ?_) rfl rfl (by kernel_rfl) (by kernel_rfl) (by kernel_rfl) (fun _ _ _ h => h) (by rfl) ?_ hHeld ?_
            rotate_left
            · (intro w hSw; (try dsimp only at hSw); go_simp; try with_reducible rfl)
            simp only [Act.put, List.setIfInBounds_toArray, List.set_cons_zero, List.set_cons_succ]
            refine take_at (i := 8) 123 (v := ?_) rfl rfl (by kernel_rfl) (by kernel_rfl) (by kernel_rfl) (fun _ _ _ h => h) (by rfl) ?_ hHeld ?_
            rotate_left
            · (intro w hSw; (try dsimp only at hSw); go_simp; try with_reducible rfl)
            simp only [Act.put, List.setIfInBounds_toArray, List.set_cons_zero, List.set_cons_succ]
            refine take_at (i := 9) 124 (v := ?_) rfl rfl (by kernel_rfl) (by kernel_rfl) (by kernel_rfl) (fun _ _ _ h => h) (by rfl) ?_ hHeld ?_
            rotate_left
            · (intro w hSw; (try dsimp only at hSw); go_simp; try with_reducible rfl)
            simp only [Act.put, List.setIfInBounds_toArray, List.set_cons_zero, List.set_cons_succ]
            refine take_at (i := 10) 125 (v := ?_) rfl rfl (by kernel_rfl) (by kernel_rfl) (by kernel_rfl) (fun _ _ _ h => h) (by rfl) ?_ hHeld ?_
            rotate_left
            · (intro w hSw; (try dsimp only at hSw); go_simp; try with_reducible rfl)
            simp only [Act.put, List.setIfInBounds_toArray, List.set_cons_zero, List.set_cons_succ]
            refine take_at (i := 11) 126 (v := ?_) rfl rfl (by kernel_rfl) (by kernel_rfl) (by kernel_rfl) (fun _ _ _ h => h) (by rfl) ?_ hHeld ?_
            rotate_left
            · (intro w hSw; (try dsimp only at hSw); go_simp; try with_reducible rfl)
            simp only [Act.put, List.setIfInBounds_toArray, List.set_cons_zero, List.set_cons_succ]
            refine wpAnyH_done (by kernel_rfl) ?_ _
            refine NoPanic.normal ?_
            all_goals
              go_wp2
              go_roundw
              case rel => exact ⟨k + 1, by omega, by go_num, below_next HBW2.out (Below.refl _ _).drew⟩
              case measure => simp [intOf]; omega
          · obtain rfl : 2 = k := by omega
            clear HPW HNM HBW2
            go_wp2
            go_loopw [19, 20, 21] (fun i _ _ wq => ∃ k : Nat, k ≤ 15 ∧ i = .int .i64 (k : Int) ∧ Below wr.heap.size wr wq) (fun i _ _ _ => 15 - (intOf i).toNat)
            case atStart => exact ⟨0, Nat.zero_le _, rfl, Below.refl _ _⟩
            case round =>
              obtain ⟨k, hk3, rfl, hbw⟩ := hrel
              have HPW : Hid _ := HPW2.out.below hbw
              have HNM : Hid _ := HNM2.out.below hbw
              have HBK : Hid _ := hbw
              clear hbw
              by_cases hlt3 : k < 15
              · by_cases hq : k / 5 = 1
                · have HBB : Hid (Below B.heap.size B wr) := HPW.out.d.bel
                  obtain ⟨out0, hrow, hLP0⟩ := HPW.out.el k hlt3
                  have hcL := HNM.out.cellL k hlt3
                  have oL := HPW.out.d.fam.own (1, k)
                  rw [hrow] at oL
                  obtain ⟨aL, cL, vL, -, -, -, rL, -⟩ := OwnR.val (rRowS_at.1 oL)
                  rw [vL] at hcL
                  obtain ⟨L, hL⟩ : ∃ L, L = out0.length := ⟨_, rfl⟩
                  rw [← hL] at hcL
                  have HRL0 : Hid (∀ u, Below wr.heap.size wr u → RdR u aL out0) := fun u hu => rL.below hu
                  have hcLA : ∀ u, Below wr.heap.size wr u → u.cell? ⟨Gl, k, none⟩ = some (.slice aL L cL) := fun u hu => (hu.cell (World.block_lt_of_cell? wr _ hcL)).trans hcL
                  have HLO : Hid (LPk l2 l2 i0 (k % 5) out0 ∧ L = out0.length ∧ L ≤ 1000000) := by
                    rw [HLP.out] at hLP0
                    obtain ⟨h8, h9⟩ := hLP0
                    rw [if_pos hq] at h9
                    exact ⟨h9, hL, by omega⟩
                  clear hrow hLP0 oL vL rL hL hcL
                  have HGG : Hid (gn2 ≤ 33 ∧ gn2 ≤ 33) := ⟨by have h9 := valid_got HV8.out; have := HN2.out; simp only at h9; omega, by have h9 := valid_got HV8.out; have := HN2.out; simp only at h9; omega⟩
                  have HRL : Hid (∀ u, Below B.heap.size B u → Calls Tryz.prog 13 #[.slice ga2 gn2 gc2] u fun e u' => LeastOut l2 u e u') := fun u hu => rleast_t ga2 gn2 gc2 l2 u HN2.out.2.1 (HRD2.out u (HBW.out u hu)).2 (by have := HGG.out; omega) (valid_ri HV8.out)
                  have HRU : Hid (∀ u, Below B.heap.size B u → Calls Tryz.prog 14 #[.slice ga2 gn2 gc2, .slice ga2 gn2 gc2] u fun e u' => LeastOut (l2 ++ l2) u e u') := fun u hu => runion_t ga2 ga2 gn2 gn2 gc2 gc2 l2 l2 u HN2.out.2.1 HN2.out.2.1 (HRD2.out u (HBW.out u hu)).2 (HRD2.out u (HBW.out u hu)).2 (by have := HGG.out; omega) (valid_ri HV8.out) (valid_ri HV8.out) HN2.out.2.2.2.2.2.2.2.1 HN2.out.2.2.2.2.2.2.2.1
                  have HRA : Hid (∀ u, Below B.heap.size B u → Calls Tryz.prog 15 #[.slice ga2 gn2 gc2, .int .i64 i0] u fun e u' => LeastOut (addL l2 i0) u e u') := fun u hu => radd_t ga2 gn2 gc2 l2 i0 u HN2.out.2.1 (HRD2.out u (HBW.out u hu)).2 (by have := HGG.out; omega) (valid_ri HV8.out) HI0.out HN2.out.2.2.2.2.2.2.2.1
                  have HRM : Hid (∀ u, Below B.heap.size B u → Calls Tryz.prog 16 #[.slice ga2 gn2 gc2, .int .i64 64] u fun e u' => MissOut l2 64 u e u') := fun u hu => rmissing_t ga2 gn2 gc2 l2 64 u HN2.out.2.1 (HRD2.out u (HBW.out u hu)).2 (by have := HGG.out; omega)
                  have hu8 : wr.cell? ⟨w.heap.size, 8, none⟩ = some (.slice ga1 gn1 gc1) := by have h9 := HBU.out wr HBB.out 8 _ rfl; rwa [Nat.zero_add] at h9
                  have hv8 : wr.cell? ⟨w.heap.size + 1, 8, none⟩ = some (.slice ga2 gn2 gc2) := by have h9 := HBV.out wr HBB.out 8 _ rfl; rwa [Nat.zero_add] at h9
                  have hv8A : ∀ u, Below wr.heap.size wr u → u.cell? ⟨w.heap.size + 1, 8, none⟩ = some (.slice ga2 gn2 gc2) := fun u hu => (hu.cell (World.block_lt_of_cell? wr _ hv8)).trans hv8
                  obtain ⟨q5, hq5⟩ : ∃ q : Nat, q = k / 5 := ⟨_, rfl⟩
                  have hqd : Int.tdiv (k : Int) 5 = (q5 : Int) := by rw [hq5]; rfl
                  have hq1 : ((q5 : Int) == 1) = true := by simp; omega
                  have hqw : wrap64 (q5 : Int) = (q5 : Int) := wrap64_small (by omega)
                  have HQD : Hid _ := hqd
                  clear hq5 hq
                  go_wp2_with fail
                  clear hqd hq1 hqw hu8
                  refine wp_region_noPanic ?_
                  refine wp_region_held_drew (S := (fun u => Below wr.heap.size wr u)) (by kernel_rfl) (by with_reducible first | assumption | exact (Below.refl _ _).drew | exact al (Below.refl _ _).drew _ | exact (al (Below.refl _ _) _).drew | exact al (by assumption) _) (fun hHeld => ?_)
                  refine take_at (i := 0) 138 (v := ?_) rfl rfl (by kernel_rfl) (by kernel_rfl) (by kernel_rfl) (fun _ _ _ h => h) (by rfl) ?_ hHeld ?_
                  rotate_left
                  · (intro w hSw; (try dsimp only at hSw); go_simp; try with_reducible rfl)
                  simp only [Act.put, List.setIfInBounds_toArray, List.set_cons_zero, List.set_cons_succ]
                  refine take_at (i := 1) 139 (v := ?_) rfl rfl (by kernel_rfl) (by kernel_rfl) (by kernel_rfl) (fun _ _ _ h => h) (by rfl) ?_ hHeld ?_
                  rotate_left
                  · (intro w hSw; (try dsimp only at hSw); go_simp; try with_reducible rfl)
                  simp only [Act.put, List.setIfInBounds_toArray, List.set_cons_zero, List.set_cons_succ]
                  refine take_at (i := 3) 141 (v := ?_) rfl rfl (by kernel_rfl) (by kernel_rfl) (by kernel_rfl) (fun _ _ _ h => h) (by rfl) ?_ hHeld ?_
                  rotate_left
                  · (intro w hSw; (try dsimp only at hSw); go_simp; try with_reducible rfl)
                  simp only [Act.put, List.setIfInBounds_toArray, List.set_cons_zero, List.set_cons_succ]
                  refine take_at (i := 4) 142 (v := ?_) rfl rfl (by kernel_rfl) (by kernel_rfl) (by kernel_rfl) (fun _ _ _ h => h) (by rfl) ?_ hHeld ?_
                  rotate_left
                  · (intro w hSw; (try dsimp only at hSw); go_simp; try with_reducible rfl)
                  simp only [Act.put, List.setIfInBounds_toArray, List.set_cons_zero, List.set_cons_succ]
                  refine take_at (i := 5) 143 (v := ?_) rfl rfl (by kernel_rfl) (by kernel_rfl) (by kernel_rfl) (fun _ _ _ h => h) (by rfl) ?_ hHeld ?_
                  rotate_left
                  · (intro w hSw; have h7 := hv8A w hSw; (try dsimp only at hSw); go_simp; try with_reducible rfl)
                  simp only [Act.put, List.setIfInBounds_toArray, List.set_cons_zero, List.set_cons_succ]
                  refine take_at (i := 7) 145 (v := ?_) rfl rfl (by kernel_rfl) (by kernel_rfl) (by kernel_rfl) (fun _ _ _ h => h) (by rfl) ?_ hHeld ?_
                  rotate_left
                  · (intro w hSw; (try dsimp only at hSw); go_simp; try with_reducible rfl)
                  simp only [Act.put, List.setIfInBounds_toArray, List.set_cons_zero, List.set_cons_succ]
                  refine take_at (i := 8) 146 (v := ?_) rfl rfl (by kernel_rfl) (by kernel_rfl) (by kernel_rfl) (fun _ _ _ h => h) (by rfl) ?_ hHeld ?_
                  rotate_left
                  · (intro w hSw; (try dsimp only at hSw); go_simp; try with_reducible rfl)
                  simp only [Act.put, List.setIfInBounds_toArray, List.set_cons_zero, List.set_cons_succ]
                  refine take_at (i := 10) 148 (v := ?_) rfl rfl (by kernel_rfl) (by kernel_rfl) (by kernel_rfl) (fun _ _ _ h => h) (by rfl) ?_ hHeld ?_
                  rotate_left
                  · (intro w hSw; (try dsimp only at hSw); go_simp; try with_reducible rfl)
                  simp only [Act.put, List.setIfInBounds_toArray, List.set_cons_zero, List.set_cons_succ]
                  refine wpAnyH_ready (rs := [2, 13]) (by kernel_rfl) (by simp) ?_
                  refine AllReadyH.cons (o := _) rfl (fun K hK => ?_) ?_
                  focus
                    rw [if_pos (by rfl)]
                    simp only [List.getElem_toArray, List.getElem_cons_zero, List.getElem_cons_succ]
                    go_simp
                    first | (go_at_call 13; refine Calls.mono (HRL.out _ (below_next HBB.out (by first | exact (Below.refl _ _).drew | exact al (Below.refl _ _).drew _ | exact (al (Below.refl _ _) _).drew))) ?_; rintro e u1 ⟨v1, o1, rfl, hw1, hL1, hh1, hl1, hb1⟩; have HW1 : Hid (Below wr.heap.size wr u1) := (by first | exact below_next (Below.refl _ _).drew hb1 | exact below_next (al (Below.refl _ _).drew _) hb1 | exact below_next (al (Below.refl _ _) _).drew hb1); have hS1 : Below wr.heap.size wr u1 := HW1.out; obtain ⟨a1, c1, e1, -, -, -, r1, -⟩ := OwnR.val hw1; subst e1; have HR11 : Hid (RdR u1 a1 o1) := r1; have HM1 : Hid (LPk l2 l2 i0 1 o1) := ⟨hL1, hh1⟩; clear hw1 r1 hl1 hL1 hh1; (try (have hG8 := (hb1.block _ (Array.getElem?_eq_some_iff.1 hG9.out).1).trans hG9.out; clear hG9; have hG9 : Hid _ := hG8; clear hG8)); clear hb1) | (go_at_call 14; refine Calls.mono (HRU.out _ (below_next HBB.out (by first | exact HW1.out | exact al HW1.out _))) ?_; rintro e u2 ⟨v2, o2, rfl, hw2, hL2, hh2, hl2, hb2⟩; have HW2 : Hid (Below wr.heap.size wr u2) := (by first | exact below_next HW1.out hb2 | exact below_next (al HW1.out _) hb2); have hS2 : Below wr.heap.size wr u2 := HW2.out; obtain ⟨a2, c2, e2, -, -, -, r2, -⟩ := OwnR.val hw2; subst e2; have HR22 : Hid (RdR u2 a2 o2) := r2; have HR21 : Hid (RdR u2 a1 o1) := RdR.below HR11.out (by first | exact hb2 | exact below_next (al (Below.refl _ _) _) hb2); have HM2 : Hid (LPk l2 l2 i0 2 o2) := ⟨hL2, hh2⟩; clear hw2 r2 hl2 hL2 hh2; (try (have hG8 := (hb2.block _ (Array.getElem?_eq_some_iff.1 hG9.out).1).trans hG9.out; clear hG9; have hG9 : Hid _ := hG8; clear hG8)); clear hb2) | (go_at_call 15; refine Calls.mono (HRA.out _ (below_next HBB.out (by first | exact HW2.out | exact al HW2.out _))) ?_; rintro e u3 ⟨v3, o3, rfl, hw3, hL3, hh3, hl3, hb3⟩; have HW3 : Hid (Below wr.heap.size wr u3) := (by first | exact below_next HW2.out hb3 | exact below_next (al HW2.out _) hb3); have hS3 : Below wr.heap.size wr u3 := HW3.out; obtain ⟨a3, c3, e3, -, -, -, r3, -⟩ := OwnR.val hw3; subst e3; have HR33 : Hid (RdR u3 a3 o3) := r3; have HR31 : Hid (RdR u3 a1 o1) := RdR.below HR21.out (by first | exact hb3 | exact below_next (al (Below.refl _ _) _) hb3); have HR32 : Hid (RdR u3 a2 o2) := RdR.below HR22.out (by first | exact hb3 | exact below_next (al (Below.refl _ _) _) hb3); have HM3 : Hid (LPk l2 l2 i0 3 o3) := ⟨hL3, hh3⟩; clear hw3 r3 hl3 hL3 hh3; (try (have hG8 := (hb3.block _ (Array.getElem?_eq_some_iff.1 hG9.out).1).trans hG9.out; clear hG9; have hG9 : Hid _ := hG8; clear hG8)); clear hb3) | (go_at_call 16; refine Calls.mono (HRM.out _ (below_next HBB.out (by first | exact HW3.out | exact al HW3.out _))) ?_; rintro e u4 ⟨v4, o4, rfl, hw4, hh4, hl4, hb4⟩; have HW4 : Hid (Below wr.heap.size wr u4) := (by first | exact below_next HW3.out hb4 | exact below_next (al HW3.out _) hb4); have hS4 : Below wr.heap.size wr u4 := HW4.out; obtain ⟨a4, c4, e4, -, -, -, r4, -⟩ := OwnR.val hw4; subst e4; have HR44 : Hid (RdR u4 a4 o4) := r4; have HR41 : Hid (RdR u4 a1 o1) := RdR.below HR31.out (by first | exact hb4 | exact below_next (al (Below.refl _ _) _) hb4); have HR42 : Hid (RdR u4 a2 o2) := RdR.below HR32.out (by first | exact hb4 | exact below_next (al (Below.refl _ _) _) hb4); have HR43 : Hid (RdR u4 a3 o3) := RdR.below HR33.out (by first | exact hb4 | exact below_next (al (Below.refl _ _) _) hb4); have HM4 : Hid (LPk l2 l2 i0 4 o4) := hh4; clear hw4 r4 hl4 hh4; (try (have hG8 := (hb4.block _ (Array.getElem?_eq_some_iff.1 hG9.out).1).trans hG9.out; clear hG9; have hG9 : Hid _ := hG8; clear hG8)); clear hb4)
                    go_wp2_with fail
                    refine hK.out _ _ (by with_reducible first | assumption | exact (Below.refl _ _).drew | exact al (Below.refl _ _).drew _ | exact (al (Below.refl _ _) _).drew | exact al (by assumption) _) ?_
                    clear hK K
                    intro hHeld2
                    clear hHeld
                    have hHeld := hHeld2
                    clear hHeld2
                    try simp only [Act.put, List.setIfInBounds_toArray, List.set_cons_zero, List.set_cons_succ]
                    refine wpAnyH_ready (rs := [6, 13]) (by kernel_rfl) (by simp) ?_
                    refine AllReadyH.cons (o := _) rfl (fun K hK => ?_) ?_
                    focus
                      rw [if_pos (by rfl)]
                      simp only [List.getElem_toArray, List.getElem_cons_zero, List.getElem_cons_succ]
                      go_simp
                      first | (go_at_call 13; refine Calls.mono (HRL.out _ (below_next HBB.out (by first | exact (Below.refl _ _).drew | exact al (Below.refl _ _).drew _ | exact (al (Below.refl _ _) _).drew))) ?_; rintro e u1 ⟨v1, o1, rfl, hw1, hL1, hh1, hl1, hb1⟩; have HW1 : Hid (Below wr.heap.size wr u1) := (by first | exact below_next (Below.refl _ _).drew hb1 | exact below_next (al (Below.refl _ _).drew _) hb1 | exact below_next (al (Below.refl _ _) _).drew hb1); have hS1 : Below wr.heap.size wr u1 := HW1.out; obtain ⟨a1, c1, e1, -, -, -, r1, -⟩ := OwnR.val hw1; subst e1; have HR11 : Hid (RdR u1 a1 o1) := r1; have HM1 : Hid (LPk l2 l2 i0 1 o1) := ⟨hL1, hh1⟩; clear hw1 r1 hl1 hL1 hh1; (try (have hG8 := (hb1.block _ (Array.getElem?_eq_some_iff.1 hG9.out).1).trans hG9.out; clear hG9; have hG9 : Hid _ := hG8; clear hG8)); clear hb1) | (go_at_call 14; refine Calls.mono (HRU.out _ (below_next HBB.out (by first | exact HW1.out | exact al HW1.out _))) ?_; rintro e u2 ⟨v2, o2, rfl, hw2, hL2, hh2, hl2, hb2⟩; have HW2 : Hid (Below wr.heap.size wr u2) := (by first | exact below_next HW1.out hb2 | exact below_next (al HW1.out _) hb2); have hS2 : Below wr.heap.size wr u2 := HW2.out; obtain ⟨a2, c2, e2, -, -, -, r2, -⟩ := OwnR.val hw2; subst e2; have HR22 : Hid (RdR u2 a2 o2) := r2; have HR21 : Hid (RdR u2 a1 o1) := RdR.below HR11.out (by first | exact hb2 | exact below_next (al (Below.refl _ _) _) hb2); have HM2 : Hid (LPk l2 l2 i0 2 o2) := ⟨hL2, hh2⟩; clear hw2 r2 hl2 hL2 hh2; (try (have hG8 := (hb2.block _ (Array.getElem?_eq_some_iff.1 hG9.out).1).trans hG9.out; clear hG9; have hG9 : Hid _ := hG8; clear hG8)); clear hb2) | (go_at_call 15; refine Calls.mono (HRA.out _ (below_next HBB.out (by first | exact HW2.out | exact al HW2.out _))) ?_; rintro e u3 ⟨v3, o3, rfl, hw3, hL3, hh3, hl3, hb3⟩; have HW3 : Hid (Below wr.heap.size wr u3) := (by first | exact below_next HW2.out hb3 | exact below_next (al HW2.out _) hb3); have hS3 : Below wr.heap.size wr u3 := HW3.out; obtain ⟨a3, c3, e3, -, -, -, r3, -⟩ := OwnR.val hw3; subst e3; have HR33 : Hid (RdR u3 a3 o3) := r3; have HR31 : Hid (RdR u3 a1 o1) := RdR.below HR21.out (by first | exact hb3 | exact below_next (al (Below.refl _ _) _) hb3); have HR32 : Hid (RdR u3 a2 o2) := RdR.below HR22.out (by first | exact hb3 | exact below_next (al (Below.refl _ _) _) hb3); have HM3 : Hid (LPk l2 l2 i0 3 o3) := ⟨hL3, hh3⟩; clear hw3 r3 hl3 hL3 hh3; (try (have hG8 := (hb3.block _ (Array.getElem?_eq_some_iff.1 hG9.out).1).trans hG9.out; clear hG9; have hG9 : Hid _ := hG8; clear hG8)); clear hb3) | (go_at_call 16; refine Calls.mono (HRM.out _ (below_next HBB.out (by first | exact HW3.out | exact al HW3.out _))) ?_; rintro e u4 ⟨v4, o4, rfl, hw4, hh4, hl4, hb4⟩; have HW4 : Hid (Below wr.heap.size wr u4) := (by first | exact below_next HW3.out hb4 | exact below_next (al HW3.out _) hb4); have hS4 : Below wr.heap.size wr u4 := HW4.out; obtain ⟨a4, c4, e4, -, -, -, r4, -⟩ := OwnR.val hw4; subst e4; have HR44 : Hid (RdR u4 a4 o4) := r4; have HR41 : Hid (RdR u4 a1 o1) := RdR.below HR31.out (by first | exact hb4 | exact below_next (al (Below.refl _ _) _) hb4); have HR42 : Hid (RdR u4 a2 o2) := RdR.below HR32.out (by first | exact hb4 | exact below_next (al (Below.refl _ _) _) hb4); have HR43 : Hid (RdR u4 a3 o3) := RdR.below HR33.out (by first | exact hb4 | exact below_next (al (Below.refl _ _) _) hb4); have HM4 : Hid (LPk l2 l2 i0 4 o4) := hh4; clear hw4 r4 hl4 hh4; (try (have hG8 := (hb4.block _ (Array.getElem?_eq_some_iff.1 hG9.out).1).trans hG9.out; clear hG9; have hG9 : Hid _ := hG8; clear hG8)); clear hb4)
                      go_wp2_with fail
                      refine hK.out _ _ (by with_reducible first | assumption | exact (Below.refl _ _).drew | exact al (Below.refl _ _).drew _ | exact (al (Below.refl _ _) _).drew | exact al (by assumption) _) ?_
                      clear hK K
                      intro hHeld2
                      clear hHeld
                      have hHeld := hHeld2
                      clear hHeld2
                      try simp only [Act.put, List.setIfInBounds_toArray, List.set_cons_zero, List.set_cons_succ]
                      refine wpAnyH_ready (rs := [9, 13]) (by kernel_rfl) (by simp) ?_
                      refine AllReadyH.cons (o := _) rfl (fun K hK => ?_) ?_
                      focus
                        rw [if_pos (by rfl)]
                        simp only [List.getElem_toArray, List.getElem_cons_zero, List.getElem_cons_succ]
                        go_simp
                        first | (go_at_call 13; refine Calls.mono (HRL.out _ (below_next HBB.out (by first | exact (Below.refl _ _).drew | exact al (Below.refl _ _).drew _ | exact (al (Below.refl _ _) _).drew))) ?_; rintro e u1 ⟨v1, o1, rfl, hw1, hL1, hh1, hl1, hb1⟩; have HW1 : Hid (Below wr.heap.size wr u1) := (by first | exact below_next (Below.refl _ _).drew hb1 | exact below_next (al (Below.refl _ _).drew _) hb1 | exact below_next (al (Below.refl _ _) _).drew hb1); have hS1 : Below wr.heap.size wr u1 := HW1.out; obtain ⟨a1, c1, e1, -, -, -, r1, -⟩ := OwnR.val hw1; subst e1; have HR11 : Hid (RdR u1 a1 o1) := r1; have HM1 : Hid (LPk l2 l2 i0 1 o1) := ⟨hL1, hh1⟩; clear hw1 r1 hl1 hL1 hh1; (try (have hG8 := (hb1.block _ (Array.getElem?_eq_some_iff.1 hG9.out).1).trans hG9.out; clear hG9; have hG9 : Hid _ := hG8; clear hG8)); clear hb1) | (go_at_call 14; refine Calls.mono (HRU.out _ (below_next HBB.out (by first | exact HW1.out | exact al HW1.out _))) ?_; rintro e u2 ⟨v2, o2, rfl, hw2, hL2, hh2, hl2, hb2⟩; have HW2 : Hid (Below wr.heap.size wr u2) := (by first | exact below_next HW1.out hb2 | exact below_next (al HW1.out _) hb2); have hS2 : Below wr.heap.size wr u2 := HW2.out; obtain ⟨a2, c2, e2, -, -, -, r2, -⟩ := OwnR.val hw2; subst e2; have HR22 : Hid (RdR u2 a2 o2) := r2; have HR21 : Hid (RdR u2 a1 o1) := RdR.below HR11.out (by first | exact hb2 | exact below_next (al (Below.refl _ _) _) hb2); have HM2 : Hid (LPk l2 l2 i0 2 o2) := ⟨hL2, hh2⟩; clear hw2 r2 hl2 hL2 hh2; (try (have hG8 := (hb2.block _ (Array.getElem?_eq_some_iff.1 hG9.out).1).trans hG9.out; clear hG9; have hG9 : Hid _ := hG8; clear hG8)); clear hb2) | (go_at_call 15; refine Calls.mono (HRA.out _ (below_next HBB.out (by first | exact HW2.out | exact al HW2.out _))) ?_; rintro e u3 ⟨v3, o3, rfl, hw3, hL3, hh3, hl3, hb3⟩; have HW3 : Hid (Below wr.heap.size wr u3) := (by first | exact below_next HW2.out hb3 | exact below_next (al HW2.out _) hb3); have hS3 : Below wr.heap.size wr u3 := HW3.out; obtain ⟨a3, c3, e3, -, -, -, r3, -⟩ := OwnR.val hw3; subst e3; have HR33 : Hid (RdR u3 a3 o3) := r3; have HR31 : Hid (RdR u3 a1 o1) := RdR.below HR21.out (by first | exact hb3 | exact below_next (al (Below.refl _ _) _) hb3); have HR32 : Hid (RdR u3 a2 o2) := RdR.below HR22.out (by first | exact hb3 | exact below_next (al (Below.refl _ _) _) hb3); have HM3 : Hid (LPk l2 l2 i0 3 o3) := ⟨hL3, hh3⟩; clear hw3 r3 hl3 hL3 hh3; (try (have hG8 := (hb3.block _ (Array.getElem?_eq_some_iff.1 hG9.out).1).trans hG9.out; clear hG9; have hG9 : Hid _ := hG8; clear hG8)); clear hb3) | (go_at_call 16; refine Calls.mono (HRM.out _ (below_next HBB.out (by first | exact HW3.out | exact al HW3.out _))) ?_; rintro e u4 ⟨v4, o4, rfl, hw4, hh4, hl4, hb4⟩; have HW4 : Hid (Below wr.heap.size wr u4) := (by first | exact below_next HW3.out hb4 | exact below_next (al HW3.out _) hb4); have hS4 : Below wr.heap.size wr u4 := HW4.out; obtain ⟨a4, c4, e4, -, -, -, r4, -⟩ := OwnR.val hw4; subst e4; have HR44 : Hid (RdR u4 a4 o4) := r4; have HR41 : Hid (RdR u4 a1 o1) := RdR.below HR31.out (by first | exact hb4 | exact below_next (al (Below.refl _ _) _) hb4); have HR42 : Hid (RdR u4 a2 o2) := RdR.below HR32.out (by first | exact hb4 | exact below_next (al (Below.refl _ _) _) hb4); have HR43 : Hid (RdR u4 a3 o3) := RdR.below HR33.out (by first | exact hb4 | exact below_next (al (Below.refl _ _) _) hb4); have HM4 : Hid (LPk l2 l2 i0 4 o4) := hh4; clear hw4 r4 hl4 hh4; (try (have hG8 := (hb4.block _ (Array.getElem?_eq_some_iff.1 hG9.out).1).trans hG9.out; clear hG9; have hG9 : Hid _ := hG8; clear hG8)); clear hb4)
                        go_wp2_with fail
                        refine hK.out _ _ (by with_reducible first | assumption | exact (Below.refl _ _).drew | exact al (Below.refl _ _).drew _ | exact (al (Below.refl _ _) _).drew | exact al (by assumption) _) ?_
                        clear hK K
                        intro hHeld2
                        clear hHeld
                        have hHeld := hHeld2
                        clear hHeld2
                        try simp only [Act.put, List.setIfInBounds_toArray, List.set_cons_zero, List.set_cons_succ]
                        refine wpAnyH_ready (rs := [11, 13]) (by kernel_rfl) (by simp) ?_
                        refine AllReadyH.cons (o := _) rfl (fun K hK => ?_) ?_
                        focus
                          rw [if_pos (by rfl)]
                          simp only [List.getElem_toArray, List.getElem_cons_zero, List.getElem_cons_succ]
                          go_simp
                          first | (go_at_call 13; refine Calls.mono (HRL.out _ (below_next HBB.out (by first | exact (Below.refl _ _).drew | exact al (Below.refl _ _).drew _ | exact (al (Below.refl _ _) _).drew))) ?_; rintro e u1 ⟨v1, o1, rfl, hw1, hL1, hh1, hl1, hb1⟩; have HW1 : Hid (Below wr.heap.size wr u1) := (by first | exact below_next (Below.refl _ _).drew hb1 | exact below_next (al (Below.refl _ _).drew _) hb1 | exact below_next (al (Below.refl _ _) _).drew hb1); have hS1 : Below wr.heap.size wr u1 := HW1.out; obtain ⟨a1, c1, e1, -, -, -, r1, -⟩ := OwnR.val hw1; subst e1; have HR11 : Hid (RdR u1 a1 o1) := r1; have HM1 : Hid (LPk l2 l2 i0 1 o1) := ⟨hL1, hh1⟩; clear hw1 r1 hl1 hL1 hh1; (try (have hG8 := (hb1.block _ (Array.getElem?_eq_some_iff.1 hG9.out).1).trans hG9.out; clear hG9; have hG9 : Hid _ := hG8; clear hG8)); clear hb1) | (go_at_call 14; refine Calls.mono (HRU.out _ (below_next HBB.out (by first | exact HW1.out | exact al HW1.out _))) ?_; rintro e u2 ⟨v2, o2, rfl, hw2, hL2, hh2, hl2, hb2⟩; have HW2 : Hid (Below wr.heap.size wr u2) := (by first | exact below_next HW1.out hb2 | exact below_next (al HW1.out _) hb2); have hS2 : Below wr.heap.size wr u2 := HW2.out; obtain ⟨a2, c2, e2, -, -, -, r2, -⟩ := OwnR.val hw2; subst e2; have HR22 : Hid (RdR u2 a2 o2) := r2; have HR21 : Hid (RdR u2 a1 o1) := RdR.below HR11.out (by first | exact hb2 | exact below_next (al (Below.refl _ _) _) hb2); have HM2 : Hid (LPk l2 l2 i0 2 o2) := ⟨hL2, hh2⟩; clear hw2 r2 hl2 hL2 hh2; (try (have hG8 := (hb2.block _ (Array.getElem?_eq_some_iff.1 hG9.out).1).trans hG9.out; clear hG9; have hG9 : Hid _ := hG8; clear hG8)); clear hb2) | (go_at_call 15; refine Calls.mono (HRA.out _ (below_next HBB.out (by first | exact HW2.out | exact al HW2.out _))) ?_; rintro e u3 ⟨v3, o3, rfl, hw3, hL3, hh3, hl3, hb3⟩; have HW3 : Hid (Below wr.heap.size wr u3) := (by first | exact below_next HW2.out hb3 | exact below_next (al HW2.out _) hb3); have hS3 : Below wr.heap.size wr u3 := HW3.out; obtain ⟨a3, c3, e3, -, -, -, r3, -⟩ := OwnR.val hw3; subst e3; have HR33 : Hid (RdR u3 a3 o3) := r3; have HR31 : Hid (RdR u3 a1 o1) := RdR.below HR21.out (by first | exact hb3 | exact below_next (al (Below.refl _ _) _) hb3); have HR32 : Hid (RdR u3 a2 o2) := RdR.below HR22.out (by first | exact hb3 | exact below_next (al (Below.refl _ _) _) hb3); have HM3 : Hid (LPk l2 l2 i0 3 o3) := ⟨hL3, hh3⟩; clear hw3 r3 hl3 hL3 hh3; (try (have hG8 := (hb3.block _ (Array.getElem?_eq_some_iff.1 hG9.out).1).trans hG9.out; clear hG9; have hG9 : Hid _ := hG8; clear hG8)); clear hb3) | (go_at_call 16; refine Calls.mono (HRM.out _ (below_next HBB.out (by first | exact HW3.out | exact al HW3.out _))) ?_; rintro e u4 ⟨v4, o4, rfl, hw4, hh4, hl4, hb4⟩; have HW4 : Hid (Below wr.heap.size wr u4) := (by first | exact below_next HW3.out hb4 | exact below_next (al HW3.out _) hb4); have hS4 : Below wr.heap.size wr u4 := HW4.out; obtain ⟨a4, c4, e4, -, -, -, r4, -⟩ := OwnR.val hw4; subst e4; have HR44 : Hid (RdR u4 a4 o4) := r4; have HR41 : Hid (RdR u4 a1 o1) := RdR.below HR31.out (by first | exact hb4 | exact below_next (al (Below.refl _ _) _) hb4); have HR42 : Hid (RdR u4 a2 o2) := RdR.below HR32.out (by first | exact hb4 | exact below_next (al (Below.refl _ _) _) hb4); have HR43 : Hid (RdR u4 a3 o3) := RdR.below HR33.out (by first | exact hb4 | exact below_next (al (Below.refl _ _) _) hb4); have HM4 : Hid (LPk l2 l2 i0 4 o4) := hh4; clear hw4 r4 hl4 hh4; (try (have hG8 := (hb4.block _ (Array.getElem?_eq_some_iff.1 hG9.out).1).trans hG9.out; clear hG9; have hG9 : Hid _ := hG8; clear hG8)); clear hb4)
                          go_wp2_with fail
                          refine hK.out _ _ (by with_reducible first | assumption | exact (Below.refl _ _).drew | exact al (Below.refl _ _).drew _ | exact (al (Below.refl _ _) _).drew | exact al (by assumption) _) ?_
                          clear hK K
                          intro hHeld2
                          clear hHeld
                          have hHeld := hHeld2
                          clear hHeld2
                          try simp only [Act.put, List.setIfInBounds_toArray, List.set_cons_zero, List.set_cons_succ]
                          refine take_at (i := 12) 150 (v := ?_) rfl rfl (by kernel_rfl) (by kernel_rfl) (by kernel_rfl) (fun _ _ _ h => h) (by rfl) ?_ hHeld ?_
                          rotate_left
                          · (intro w hSw; (try dsimp only at hSw); go_simp; try with_reducible rfl)
                          simp only [Act.put, List.setIfInBounds_toArray, List.set_cons_zero, List.set_cons_succ]
                          refine run_at (i := 13) rfl (by kernel_rfl) (by rfl) (fun K hK => ?_)
                          simp only [List.getElem_toArray, List.getElem_cons_zero, List.getElem_cons_succ]
                          go_simp
                          go_wp2_with fail
                          refine hK.out _ _ (by with_reducible first | assumption | exact (Below.refl _ _).drew | exact al (Below.refl _ _).drew _ | exact (al (Below.refl _ _) _).drew | exact al (by assumption) _) ?_
                          clear hK K
                          intro hHeld2
                          clear hHeld
                          have hHeld := hHeld2
                          clear hHeld2
                          try simp only [Act.put, List.setIfInBounds_toArray, List.set_cons_zero, List.set_cons_succ]
                          (first | (have hG9 : Hid _ := alloc_at hHeld) | (have hG9 : Hid _ := alloc_atd hHeld))
                          refine run_at (i := 14) rfl (by kernel_rfl) (by rfl) (fun K hK => ?_)
                          simp only [List.getElem_toArray, List.getElem_cons_zero, List.getElem_cons_succ]
                          (refine wpo_store5 (W := wr) _ _ rfl _ _ _ _ _ _ (by rfl) (by rfl) (by simp [Value.oneCell']) _ _ _ _ _ _ hG9.out (by first | exact HW4.out | exact al HW4.out _) (by first | exact Nat.le_refl _ | exact HW1.out.size | exact HW2.out.size | exact HW3.out.size | exact HW4.out.size) ?_; intro z9 hz9 hc9 hg9; have HC9 : Hid _ := hc9; have HZ9 : Hid (Below wr.heap.size wr z9) := hz9; have HR91 : Hid (RdR z9 a1 o1) := (by first | exact RdR.st5 HR41.out hG9.out hg9 | exact RdR.st5 (RdR.below HR41.out (al (Below.refl _ _) _)) hG9.out hg9); have HR92 : Hid (RdR z9 a2 o2) := (by first | exact RdR.st5 HR42.out hG9.out hg9 | exact RdR.st5 (RdR.below HR42.out (al (Below.refl _ _) _)) hG9.out hg9); have HR93 : Hid (RdR z9 a3 o3) := (by first | exact RdR.st5 HR43.out hG9.out hg9 | exact RdR.st5 (RdR.below HR43.out (al (Below.refl _ _) _)) hG9.out hg9); have HR94 : Hid (RdR z9 a4 o4) := (by first | exact RdR.st5 HR44.out hG9.out hg9 | exact RdR.st5 (RdR.below HR44.out (al (Below.refl _ _) _)) hG9.out hg9); clear hc9 hg9 hG9)
                          refine hK.out _ _ (by with_reducible first | assumption | exact (Below.refl _ _).drew | exact al (Below.refl _ _).drew _ | exact (al (Below.refl _ _) _).drew | exact al (by assumption) _) ?_
                          clear hK K
                          intro hHeld2
                          clear hHeld
                          have hHeld := hHeld2
                          clear hHeld2
                          try simp only [Act.put, List.setIfInBounds_toArray, List.set_cons_zero, List.set_cons_succ]
                          refine wpAnyH_done (by kernel_rfl) ?_ _
                          refine NoPanic.normal ?_
                        rotate_left 1
                        refine AllReadyH.cons (o := _) rfl (fun K hK => ?_) AllReadyH.nil
                        focus
                          rw [if_pos (by rfl)]
                          simp only [List.getElem_toArray, List.getElem_cons_zero, List.getElem_cons_succ]
                          go_simp
                          go_wp2_with fail
                          refine hK.out _ _ (by with_reducible first | assumption | exact (Below.refl _ _).drew | exact al (Below.refl _ _).drew _ | exact (al (Below.refl _ _) _).drew | exact al (by assumption) _) ?_
                          clear hK K
                          intro hHeld2
                          clear hHeld
                          have hHeld := hHeld2
                          clear hHeld2
                          try simp only [Act.put, List.setIfInBounds_toArray, List.set_cons_zero, List.set_cons_succ]
                          (first | (have hG9 : Hid _ := alloc_at hHeld) | (have hG9 : Hid _ := alloc_atd hHeld))
                          refine run_at (i := 11) rfl (by kernel_rfl) (by rfl) (fun K hK => ?_)
                          simp only [List.getElem_toArray, List.getElem_cons_zero, List.getElem_cons_succ]
                          go_simp
                          first | (go_at_call 13; refine Calls.mono (HRL.out _ (below_next HBB.out (by first | exact (Below.refl _ _).drew | exact al (Below.refl _ _).drew _ | exact (al (Below.refl _ _) _).drew))) ?_; rintro e u1 ⟨v1, o1, rfl, hw1, hL1, hh1, hl1, hb1⟩; have HW1 : Hid (Below wr.heap.size wr u1) := (by first | exact below_next (Below.refl _ _).drew hb1 | exact below_next (al (Below.refl _ _).drew _) hb1 | exact below_next (al (Below.refl _ _) _).drew hb1); have hS1 : Below wr.heap.size wr u1 := HW1.out; obtain ⟨a1, c1, e1, -, -, -, r1, -⟩ := OwnR.val hw1; subst e1; have HR11 : Hid (RdR u1 a1 o1) := r1; have HM1 : Hid (LPk l2 l2 i0 1 o1) := ⟨hL1, hh1⟩; clear hw1 r1 hl1 hL1 hh1; (try (have hG8 := (hb1.block _ (Array.getElem?_eq_some_iff.1 hG9.out).1).trans hG9.out; clear hG9; have hG9 : Hid _ := hG8; clear hG8)); clear hb1) | (go_at_call 14; refine Calls.mono (HRU.out _ (below_next HBB.out (by first | exact HW1.out | exact al HW1.out _))) ?_; rintro e u2 ⟨v2, o2, rfl, hw2, hL2, hh2, hl2, hb2⟩; have HW2 : Hid (Below wr.heap.size wr u2) := (by first | exact below_next HW1.out hb2 | exact below_next (al HW1.out _) hb2); have hS2 : Below wr.heap.size wr u2 := HW2.out; obtain ⟨a2, c2, e2, -, -, -, r2, -⟩ := OwnR.val hw2; subst e2; have HR22 : Hid (RdR u2 a2 o2) := r2; have HR21 : Hid (RdR u2 a1 o1) := RdR.below HR11.out (by first | exact hb2 | exact below_next (al (Below.refl _ _) _) hb2); have HM2 : Hid (LPk l2 l2 i0 2 o2) := ⟨hL2, hh2⟩; clear hw2 r2 hl2 hL2 hh2; (try (have hG8 := (hb2.block _ (Array.getElem?_eq_some_iff.1 hG9.out).1).trans hG9.out; clear hG9; have hG9 : Hid _ := hG8; clear hG8)); clear hb2) | (go_at_call 15; refine Calls.mono (HRA.out _ (below_next HBB.out (by first | exact HW2.out | exact al HW2.out _))) ?_; rintro e u3 ⟨v3, o3, rfl, hw3, hL3, hh3, hl3, hb3⟩; have HW3 : Hid (Below wr.heap.size wr u3) := (by first | exact below_next HW2.out hb3 | exact below_next (al HW2.out _) hb3); have hS3 : Below wr.heap.size wr u3 := HW3.out; obtain ⟨a3, c3, e3, -, -, -, r3, -⟩ := OwnR.val hw3; subst e3; have HR33 : Hid (RdR u3 a3 o3) := r3; have HR31 : Hid (RdR u3 a1 o1) := RdR.below HR21.out (by first | exact hb3 | exact below_next (al (Below.refl _ _) _) hb3); have HR32 : Hid (RdR u3 a2 o2) := RdR.below HR22.out (by first | exact hb3 | exact below_next (al (Below.refl _ _) _) hb3); have HM3 : Hid (LPk l2 l2 i0 3 o3) := ⟨hL3, hh3⟩; clear hw3 r3 hl3 hL3 hh3; (try (have hG8 := (hb3.block _ (Array.getElem?_eq_some_iff.1 hG9.out).1).trans hG9.out; clear hG9; have hG9 : Hid _ := hG8; clear hG8)); clear hb3) | (go_at_call 16; refine Calls.mono (HRM.out _ (below_next HBB.out (by first | exact HW3.out | exact al HW3.out _))) ?_; rintro e u4 ⟨v4, o4, rfl, hw4, hh4, hl4, hb4⟩; have HW4 : Hid (Below wr.heap.size wr u4) := (by first | exact below_next HW3.out hb4 | exact below_next (al HW3.out _) hb4); have hS4 : Below wr.heap.size wr u4 := HW4.out; obtain ⟨a4, c4, e4, -, -, -, r4, -⟩ := OwnR.val hw4; subst e4; have HR44 : Hid (RdR u4 a4 o4) := r4; have HR41 : Hid (RdR u4 a1 o1) := RdR.below HR31.out (by first | exact hb4 | exact below_next (al (Below.refl _ _) _) hb4); have HR42 : Hid (RdR u4 a2 o2) := RdR.below HR32.out (by first | exact hb4 | exact below_next (al (Below.refl _ _) _) hb4); have HR43 : Hid (RdR u4 a3 o3) := RdR.below HR33.out (by first | exact hb4 | exact below_next (al (Below.refl _ _) _) hb4); have HM4 : Hid (LPk l2 l2 i0 4 o4) := hh4; clear hw4 r4 hl4 hh4; (try (have hG8 := (hb4.block _ (Array.getElem?_eq_some_iff.1 hG9.out).1).trans hG9.out; clear hG9; have hG9 : Hid _ := hG8; clear hG8)); clear hb4)
                          go_wp2_with fail
                          refine hK.out _ _ (by with_reducible first | assumption | exact (Below.refl _ _).drew | exact al (Below.refl _ _).drew _ | exact (al (Below.refl _ _) _).drew | exact al (by assumption) _) ?_
                          clear hK K
                          intro hHeld2
                          clear hHeld
                          have hHeld := hHeld2
                          clear hHeld2
                          try simp only [Act.put, List.setIfInBounds_toArray, List.set_cons_zero, List.set_cons_succ]
                          refine take_at (i := 12) 150 (v := ?_) rfl rfl (by kernel_rfl) (by kernel_rfl) (by kernel_rfl) (fun _ _ _ h => h) (by rfl) ?_ hHeld ?_
                          rotate_left
                          · (intro w hSw; (try dsimp only at hSw); go_simp; try with_reducible rfl)
                          simp only [Act.put, List.setIfInBounds_toArray, List.set_cons_zero, List.set_cons_succ]
                          refine run_at (i := 14) rfl (by kernel_rfl) (by rfl) (fun K hK => ?_)
                          simp only [List.getElem_toArray, List.getElem_cons_zero, List.getElem_cons_succ]
                          (refine wpo_store5 (W := wr) _ _ rfl _ _ _ _ _ _ (by rfl) (by rfl) (by simp [Value.oneCell']) _ _ _ _ _ _ hG9.out (by first | exact HW4.out | exact al HW4.out _) (by first | exact Nat.le_refl _ | exact HW1.out.size | exact HW2.out.size | exact HW3.out.size | exact HW4.out.size) ?_; intro z9 hz9 hc9 hg9; have HC9 : Hid _ := hc9; have HZ9 : Hid (Below wr.heap.size wr z9) := hz9; have HR91 : Hid (RdR z9 a1 o1) := (by first | exact RdR.st5 HR41.out hG9.out hg9 | exact RdR.st5 (RdR.below HR41.out (al (Below.refl _ _) _)) hG9.out hg9); have HR92 : Hid (RdR z9 a2 o2) := (by first | exact RdR.st5 HR42.out hG9.out hg9 | exact RdR.st5 (RdR.below HR42.out (al (Below.refl _ _) _)) hG9.out hg9); have HR93 : Hid (RdR z9 a3 o3) := (by first | exact RdR.st5 HR43.out hG9.out hg9 | exact RdR.st5 (RdR.below HR43.out (al (Below.refl _ _) _)) hG9.out hg9); have HR94 : Hid (RdR z9 a4 o4) := (by first | exact RdR.st5 HR44.out hG9.out hg9 | exact RdR.st5 (RdR.below HR44.out (al (Below.refl _ _) _)) hG9.out hg9); clear hc9 hg9 hG9)
                          refine hK.out _ _ (by with_reducible first | assumption | exact (Below.refl _ _).drew | exact al (Below.refl _ _).drew _ | exact (al (Below.refl _ _) _).drew | exact al (by assumption) _) ?_
                          clear hK K
                          intro hHeld2
                          clear hHeld
                          have hHeld := hHeld2
                          clear hHeld2
                          try simp only [Act.put, List.setIfInBounds_toArray, List.set_cons_zero, List.set_cons_succ]
                          refine wpAnyH_done (by kernel_rfl) ?_ _
                          refine NoPanic.normal ?_
                      rotate_left 2
                      refine AllReadyH.cons (o := _) rfl (fun K hK => ?_) AllReadyH.nil
                      focus
                        rw [if_pos (by rfl)]
                        simp only [List.getElem_toArray, List.getElem_cons_zero, List.getElem_cons_succ]
                        go_simp
                        go_wp2_with fail
                        refine hK.out _ _ (by with_reducible first | assumption | exact (Below.refl _ _).drew | exact al (Below.refl _ _).drew _ | exact (al (Below.refl _ _) _).drew | exact al (by assumption) _) ?_
                        clear hK K
                        intro hHeld2
                        clear hHeld
                        have hHeld := hHeld2
                        clear hHeld2
                        try simp only [Act.put, List.setIfInBounds_toArray, List.set_cons_zero, List.set_cons_succ]
                        (first | (have hG9 : Hid _ := alloc_at hHeld) | (have hG9 : Hid _ := alloc_atd hHeld))
                        refine run_at (i := 9) rfl (by kernel_rfl) (by rfl) (fun K hK => ?_)
                        simp only [List.getElem_toArray, List.getElem_cons_zero, List.getElem_cons_succ]
                        go_simp
                        first | (go_at_call 13; refine Calls.mono (HRL.out _ (below_next HBB.out (by first | exact (Below.refl _ _).drew | exact al (Below.refl _ _).drew _ | exact (al (Below.refl _ _) _).drew))) ?_; rintro e u1 ⟨v1, o1, rfl, hw1, hL1, hh1, hl1, hb1⟩; have HW1 : Hid (Below wr.heap.size wr u1) := (by first | exact below_next (Below.refl _ _).drew hb1 | exact below_next (al (Below.refl _ _).drew _) hb1 | exact below_next (al (Below.refl _ _) _).drew hb1); have hS1 : Below wr.heap.size wr u1 := HW1.out; obtain ⟨a1, c1, e1, -, -, -, r1, -⟩ := OwnR.val hw1; subst e1; have HR11 : Hid (RdR u1 a1 o1) := r1; have HM1 : Hid (LPk l2 l2 i0 1 o1) := ⟨hL1, hh1⟩; clear hw1 r1 hl1 hL1 hh1; (try (have hG8 := (hb1.block _ (Array.getElem?_eq_some_iff.1 hG9.out).1).trans hG9.out; clear hG9; have hG9 : Hid _ := hG8; clear hG8)); clear hb1) | (go_at_call 14; refine Calls.mono (HRU.out _ (below_next HBB.out (by first | exact HW1.out | exact al HW1.out _))) ?_; rintro e u2 ⟨v2, o2, rfl, hw2, hL2, hh2, hl2, hb2⟩; have HW2 : Hid (Below wr.heap.size wr u2) := (by first | exact below_next HW1.out hb2 | exact below_next (al HW1.out _) hb2); have hS2 : Below wr.heap.size wr u2 := HW2.out; obtain ⟨a2, c2, e2, -, -, -, r2, -⟩ := OwnR.val hw2; subst e2; have HR22 : Hid (RdR u2 a2 o2) := r2; have HR21 : Hid (RdR u2 a1 o1) := RdR.below HR11.out (by first | exact hb2 | exact below_next (al (Below.refl _ _) _) hb2); have HM2 : Hid (LPk l2 l2 i0 2 o2) := ⟨hL2, hh2⟩; clear hw2 r2 hl2 hL2 hh2; (try (have hG8 := (hb2.block _ (Array.getElem?_eq_some_iff.1 hG9.out).1).trans hG9.out; clear hG9; have hG9 : Hid _ := hG8; clear hG8)); clear hb2) | (go_at_call 15; refine Calls.mono (HRA.out _ (below_next HBB.out (by first | exact HW2.out | exact al HW2.out _))) ?_; rintro e u3 ⟨v3, o3, rfl, hw3, hL3, hh3, hl3, hb3⟩; have HW3 : Hid (Below wr.heap.size wr u3) := (by first | exact below_next HW2.out hb3 | exact below_next (al HW2.out _) hb3); have hS3 : Below wr.heap.size wr u3 := HW3.out; obtain ⟨a3, c3, e3, -, -, -, r3, -⟩ := OwnR.val hw3; subst e3; have HR33 : Hid (RdR u3 a3 o3) := r3; have HR31 : Hid (RdR u3 a1 o1) := RdR.below HR21.out (by first | exact hb3 | exact below_next (al (Below.refl _ _) _) hb3); have HR32 : Hid (RdR u3 a2 o2) := RdR.below HR22.out (by first | exact hb3 | exact below_next (al (Below.refl _ _) _) hb3); have HM3 : Hid (LPk l2 l2 i0 3 o3) := ⟨hL3, hh3⟩; clear hw3 r3 hl3 hL3 hh3; (try (have hG8 := (hb3.block _ (Array.getElem?_eq_some_iff.1 hG9.out).1).trans hG9.out; clear hG9; have hG9 : Hid _ := hG8; clear hG8)); clear hb3) | (go_at_call 16; refine Calls.mono (HRM.out _ (below_next HBB.out (by first | exact HW3.out | exact al HW3.out _))) ?_; rintro e u4 ⟨v4, o4, rfl, hw4, hh4, hl4, hb4⟩; have HW4 : Hid (Below wr.heap.size wr u4) := (by first | exact below_next HW3.out hb4 | exact below_next (al HW3.out _) hb4); have hS4 : Below wr.heap.size wr u4 := HW4.out; obtain ⟨a4, c4, e4, -, -, -, r4, -⟩ := OwnR.val hw4; subst e4; have HR44 : Hid (RdR u4 a4 o4) := r4; have HR41 : Hid (RdR u4 a1 o1) := RdR.below HR31.out (by first | exact hb4 | exact below_next (al (Below.refl _ _) _) hb4); have HR42 : Hid (RdR u4 a2 o2) := RdR.below HR32.out (by first | exact hb4 | exact below_next (al (Below.refl _ _) _) hb4); have HR43 : Hid (RdR u4 a3 o3) := RdR.below HR33.out (by first | exact hb4 | exact below_next (al (Below.refl _ _) _) hb4); have HM4 : Hid (LPk l2 l2 i0 4 o4) := hh4; clear hw4 r4 hl4 hh4; (try (have hG8 := (hb4.block _ (Array.getElem?_eq_some_iff.1 hG9.out).1).trans hG9.out; clear hG9; have hG9 : Hid _ := hG8; clear hG8)); clear hb4)
                        go_wp2_with fail
                        refine hK.out _ _ (by with_reducible first | assumption | exact (Below.refl _ _).drew | exact al (Below.refl _ _).drew _ | exact (al (Below.refl _ _) _).drew | exact al (by assumption) _) ?_
                        clear hK K
                        intro hHeld2
                        clear hHeld
                        have hHeld := hHeld2
                        clear hHeld2
                        try simp only [Act.put, List.setIfInBounds_toArray, List.set_cons_zero, List.set_cons_succ]
                        refine run_at (i := 11) rfl (by kernel_rfl) (by rfl) (fun K hK => ?_)
                        simp only [List.getElem_toArray, List.getElem_cons_zero, List.getElem_cons_succ]
                        go_simp
                        first | (go_at_call 13; refine Calls.mono (HRL.out _ (below_next HBB.out (by first | exact (Below.refl _ _).drew | exact al (Below.refl _ _).drew _ | exact (al (Below.refl _ _) _).drew))) ?_; rintro e u1 ⟨v1, o1, rfl, hw1, hL1, hh1, hl1, hb1⟩; have HW1 : Hid (Below wr.heap.size wr u1) := (by first | exact below_next (Below.refl _ _).drew hb1 | exact below_next (al (Below.refl _ _).drew _) hb1 | exact below_next (al (Below.refl _ _) _).drew hb1); have hS1 : Below wr.heap.size wr u1 := HW1.out; obtain ⟨a1, c1, e1, -, -, -, r1, -⟩ := OwnR.val hw1; subst e1; have HR11 : Hid (RdR u1 a1 o1) := r1; have HM1 : Hid (LPk l2 l2 i0 1 o1) := ⟨hL1, hh1⟩; clear hw1 r1 hl1 hL1 hh1; (try (have hG8 := (hb1.block _ (Array.getElem?_eq_some_iff.1 hG9.out).1).trans hG9.out; clear hG9; have hG9 : Hid _ := hG8; clear hG8)); clear hb1) | (go_at_call 14; refine Calls.mono (HRU.out _ (below_next HBB.out (by first | exact HW1.out | exact al HW1.out _))) ?_; rintro e u2 ⟨v2, o2, rfl, hw2, hL2, hh2, hl2, hb2⟩; have HW2 : Hid (Below wr.heap.size wr u2) := (by first | exact below_next HW1.out hb2 | exact below_next (al HW1.out _) hb2); have hS2 : Below wr.heap.size wr u2 := HW2.out; obtain ⟨a2, c2, e2, -, -, -, r2, -⟩ := OwnR.val hw2; subst e2; have HR22 : Hid (RdR u2 a2 o2) := r2; have HR21 : Hid (RdR u2 a1 o1) := RdR.below HR11.out (by first | exact hb2 | exact below_next (al (Below.refl _ _) _) hb2); have HM2 : Hid (LPk l2 l2 i0 2 o2) := ⟨hL2, hh2⟩; clear hw2 r2 hl2 hL2 hh2; (try (have hG8 := (hb2.block _ (Array.getElem?_eq_some_iff.1 hG9.out).1).trans hG9.out; clear hG9; have hG9 : Hid _ := hG8; clear hG8)); clear hb2) | (go_at_call 15; refine Calls.mono (HRA.out _ (below_next HBB.out (by first | exact HW2.out | exact al HW2.out _))) ?_; rintro e u3 ⟨v3, o3, rfl, hw3, hL3, hh3, hl3, hb3⟩; have HW3 : Hid (Below wr.heap.size wr u3) := (by first | exact below_next HW2.out hb3 | exact below_next (al HW2.out _) hb3); have hS3 : Below wr.heap.size wr u3 := HW3.out; obtain ⟨a3, c3, e3, -, -, -, r3, -⟩ := OwnR.val hw3; subst e3; have HR33 : Hid (RdR u3 a3 o3) := r3; have HR31 : Hid (RdR u3 a1 o1) := RdR.below HR21.out (by first | exact hb3 | exact below_next (al (Below.refl _ _) _) hb3); have HR32 : Hid (RdR u3 a2 o2) := RdR.below HR22.out (by first | exact hb3 | exact below_next (al (Below.refl _ _) _) hb3); have HM3 : Hid (LPk l2 l2 i0 3 o3) := ⟨hL3, hh3⟩; clear hw3 r3 hl3 hL3 hh3; (try (have hG8 := (hb3.block _ (Array.getElem?_eq_some_iff.1 hG9.out).1).trans hG9.out; clear hG9; have hG9 : Hid _ := hG8; clear hG8)); clear hb3) | (go_at_call 16; refine Calls.mono (HRM.out _ (below_next HBB.out (by first | exact HW3.out | exact al HW3.out _))) ?_; rintro e u4 ⟨v4, o4, rfl, hw4, hh4, hl4, hb4⟩; have HW4 : Hid (Below wr.heap.size wr u4) := (by first | exact below_next HW3.out hb4 | exact below_next (al HW3.out _) hb4); have hS4 : Below wr.heap.size wr u4 := HW4.out; obtain ⟨a4, c4, e4, -, -, -, r4, -⟩ := OwnR.val hw4; subst e4; have HR44 : Hid (RdR u4 a4 o4) := r4; have HR41 : Hid (RdR u4 a1 o1) := RdR.below HR31.out (by first | exact hb4 | exact below_next (al (Below.refl _ _) _) hb4); have HR42 : Hid (RdR u4 a2 o2) := RdR.below HR32.out (by first | exact hb4 | exact below_next (al (Below.refl _ _) _) hb4); have HR43 : Hid (RdR u4 a3 o3) := RdR.below HR33.out (by first | exact hb4 | exact below_next (al (Below.refl _ _) _) hb4); have HM4 : Hid (LPk l2 l2 i0 4 o4) := hh4; clear hw4 r4 hl4 hh4; (try (have hG8 := (hb4.block _ (Array.getElem?_eq_some_iff.1 hG9.out).1).trans hG9.out; clear hG9; have hG9 : Hid _ := hG8; clear hG8)); clear hb4)
                        go_wp2_with fail
                        refine hK.out _ _ (by with_reducible first | assumption | exact (Below.refl _ _).drew | exact al (Below.refl _ _).drew _ | exact (al (Below.refl _ _) _).drew | exact al (by assumption) _) ?_
                        clear hK K
                        intro hHeld2
                        clear hHeld
                        have hHeld := hHeld2
                        clear hHeld2
                        try simp only [Act.put, List.setIfInBounds_toArray, List.set_cons_zero, List.set_cons_succ]
                        refine take_at (i := 12) 150 (v := ?_) rfl rfl (by kernel_rfl) (by kernel_rfl) (by kernel_rfl) (fun _ _ _ h => h) (by rfl) ?_ hHeld ?_
                        rotate_left
                        · (intro w hSw; (try dsimp only at hSw); go_simp; try with_reducible rfl)
                        simp only [Act.put, List.setIfInBounds_toArray, List.set_cons_zero, List.set_cons_succ]
                        refine run_at (i := 14) rfl (by kernel_rfl) (by rfl) (fun K hK => ?_)
                        simp only [List.getElem_toArray, List.getElem_cons_zero, List.getElem_cons_succ]
                        (refine wpo_store5 (W := wr) _ _ rfl _ _ _ _ _ _ (by rfl) (by rfl) (by simp [Value.oneCell']) _ _ _ _ _ _ hG9.out (by first | exact HW4.out | exact al HW4.out _) (by first | exact Nat.le_refl _ | exact HW1.out.size | exact HW2.out.size | exact HW3.out.size | exact HW4.out.size) ?_; intro z9 hz9 hc9 hg9; have HC9 : Hid _ := hc9; have HZ9 : Hid (Below wr.heap.size wr z9) := hz9; have HR91 : Hid (RdR z9 a1 o1) := (by first | exact RdR.st5 HR41.out hG9.out hg9 | exact RdR.st5 (RdR.below HR41.out (al (Below.refl _ _) _)) hG9.out hg9); have HR92 : Hid (RdR z9 a2 o2) := (by first | exact RdR.st5 HR42.out hG9.out hg9 | exact RdR.st5 (RdR.below HR42.out (al (Below.refl _ _) _)) hG9.out hg9); have HR93 : Hid (RdR z9 a3 o3) := (by first | exact RdR.st5 HR43.out hG9.out hg9 | exact RdR.st5 (RdR.below HR43.out (al (Below.refl _ _) _)) hG9.out hg9); have HR94 : Hid (RdR z9 a4 o4) := (by first | exact RdR.st5 HR44.out hG9.out hg9 | exact RdR.st5 (RdR.below HR44.out (al (Below.refl _ _) _)) hG9.out hg9); clear hc9 hg9 hG9)
                        refine hK.out _ _ (by with_reducible first | assumption | exact (Below.refl _ _).drew | exact al (Below.refl _ _).drew _ | exact (al (Below.refl _ _) _).drew | exact al (by assumption) _) ?_
                        clear hK K
                        intro hHeld2
                        clear hHeld
                        have hHeld := hHeld2
                        clear hHeld2
                        try simp only [Act.put, List.setIfInBounds_toArray, List.set_cons_zero, List.set_cons_succ]
                        refine wpAnyH_done (by kernel_rfl) ?_ _
                        refine NoPanic.normal ?_
                    rotate_left 3
                    refine AllReadyH.cons (o := _) rfl (fun K hK => ?_) AllReadyH.nil
                    focus
                      rw [if_pos (by rfl)]
                      simp only [List.getElem_toArray, List.getElem_cons_zero, List.getElem_cons_succ]
                      go_simp
                      go_wp2_with fail
                      refine hK.out _ _ (by with_reducible first | assumption | exact (Below.refl _ _).drew | exact al (Below.refl _ _).drew _ | exact (al (Below.refl _ _) _).drew | exact al (by assumption) _) ?_
                      clear hK K
                      intro hHeld2
                      clear hHeld
                      have hHeld := hHeld2
                      clear hHeld2
                      try simp only [Act.put, List.setIfInBounds_toArray, List.set_cons_zero, List.set_cons_succ]
                      (first | (have hG9 : Hid _ := alloc_at hHeld) | (have hG9 : Hid _ := alloc_atd hHeld))
                      refine run_at (i := 6) rfl (by kernel_rfl) (by rfl) (fun K hK => ?_)
                      simp only [List.getElem_toArray, List.getElem_cons_zero, List.getElem_cons_succ]
                      go_simp
                      first | (go_at_call 13; refine Calls.mono (HRL.out _ (below_next HBB.out (by first | exact (Below.refl _ _).drew | exact al (Below.refl _ _).drew _ | exact (al (Below.refl _ _) _).drew))) ?_; rintro e u1 ⟨v1, o1, rfl, hw1, hL1, hh1, hl1, hb1⟩; have HW1 : Hid (Below wr.heap.size wr u1) := (by first | exact below_next (Below.refl _ _).drew hb1 | exact below_next (al (Below.refl _ _).drew _) hb1 | exact below_next (al (Below.refl _ _) _).drew hb1); have hS1 : Below wr.heap.size wr u1 := HW1.out; obtain ⟨a1, c1, e1, -, -, -, r1, -⟩ := OwnR.val hw1; subst e1; have HR11 : Hid (RdR u1 a1 o1) := r1; have HM1 : Hid (LPk l2 l2 i0 1 o1) := ⟨hL1, hh1⟩; clear hw1 r1 hl1 hL1 hh1; (try (have hG8 := (hb1.block _ (Array.getElem?_eq_some_iff.1 hG9.out).1).trans hG9.out; clear hG9; have hG9 : Hid _ := hG8; clear hG8)); clear hb1) | (go_at_call 14; refine Calls.mono (HRU.out _ (below_next HBB.out (by first | exact HW1.out | exact al HW1.out _))) ?_; rintro e u2 ⟨v2, o2, rfl, hw2, hL2, hh2, hl2, hb2⟩; have HW2 : Hid (Below wr.heap.size wr u2) := (by first | exact below_next HW1.out hb2 | exact below_next (al HW1.out _) hb2); have hS2 : Below wr.heap.size wr u2 := HW2.out; obtain ⟨a2, c2, e2, -, -, -, r2, -⟩ := OwnR.val hw2; subst e2; have HR22 : Hid (RdR u2 a2 o2) := r2; have HR21 : Hid (RdR u2 a1 o1) := RdR.below HR11.out (by first | exact hb2 | exact below_next (al (Below.refl _ _) _) hb2); have HM2 : Hid (LPk l2 l2 i0 2 o2) := ⟨hL2, hh2⟩; clear hw2 r2 hl2 hL2 hh2; (try (have hG8 := (hb2.block _ (Array.getElem?_eq_some_iff.1 hG9.out).1).trans hG9.out; clear hG9; have hG9 : Hid _ := hG8; clear hG8)); clear hb2) | (go_at_call 15; refine Calls.mono (HRA.out _ (below_next HBB.out (by first | exact HW2.out | exact al HW2.out _))) ?_; rintro e u3 ⟨v3, o3, rfl, hw3, hL3, hh3, hl3, hb3⟩; have HW3 : Hid (Below wr.heap.size wr u3) := (by first | exact below_next HW2.out hb3 | exact below_next (al HW2.out _) hb3); have hS3 : Below wr.heap.size wr u3 := HW3.out; obtain ⟨a3, c3, e3, -, -, -, r3, -⟩ := OwnR.val hw3; subst e3; have HR33 : Hid (RdR u3 a3 o3) := r3; have HR31 : Hid (RdR u3 a1 o1) := RdR.below HR21.out (by first | exact hb3 | exact below_next (al (Below.refl _ _) _) hb3); have HR32 : Hid (RdR u3 a2 o2) := RdR.below HR22.out (by first | exact hb3 | exact below_next (al (Below.refl _ _) _) hb3); have HM3 : Hid (LPk l2 l2 i0 3 o3) := ⟨hL3, hh3⟩; clear hw3 r3 hl3 hL3 hh3; (try (have hG8 := (hb3.block _ (Array.getElem?_eq_some_iff.1 hG9.out).1).trans hG9.out; clear hG9; have hG9 : Hid _ := hG8; clear hG8)); clear hb3) | (go_at_call 16; refine Calls.mono (HRM.out _ (below_next HBB.out (by first | exact HW3.out | exact al HW3.out _))) ?_; rintro e u4 ⟨v4, o4, rfl, hw4, hh4, hl4, hb4⟩; have HW4 : Hid (Below wr.heap.size wr u4) := (by first | exact below_next HW3.out hb4 | exact below_next (al HW3.out _) hb4); have hS4 : Below wr.heap.size wr u4 := HW4.out; obtain ⟨a4, c4, e4, -, -, -, r4, -⟩ := OwnR.val hw4; subst e4; have HR44 : Hid (RdR u4 a4 o4) := r4; have HR41 : Hid (RdR u4 a1 o1) := RdR.below HR31.out (by first | exact hb4 | exact below_next (al (Below.refl _ _) _) hb4); have HR42 : Hid (RdR u4 a2 o2) := RdR.below HR32.out (by first | exact hb4 | exact below_next (al (Below.refl _ _) _) hb4); have HR43 : Hid (RdR u4 a3 o3) := RdR.below HR33.out (by first | exact hb4 | exact below_next (al (Below.refl _ _) _) hb4); have HM4 : Hid (LPk l2 l2 i0 4 o4) := hh4; clear hw4 r4 hl4 hh4; (try (have hG8 := (hb4.block _ (Array.getElem?_eq_some_iff.1 hG9.out).1).trans hG9.out; clear hG9; have hG9 : Hid _ := hG8; clear hG8)); clear hb4)
                      go_wp2_with fail
                      refine hK.out _ _ (by with_reducible first | assumption | exact (Below.refl _ _).drew | exact al (Below.refl _ _).drew _ | exact (al (Below.refl _ _) _).drew | exact al (by assumption) _) ?_
                      clear hK K
                      intro hHeld2
                      clear hHeld
                      have hHeld := hHeld2
                      clear hHeld2
                      try simp only [Act.put, List.setIfInBounds_toArray, List.set_cons_zero, List.set_cons_succ]
                      refine run_at (i := 9) rfl (by kernel_rfl) (by rfl) (fun K hK => ?_)
                      simp only [List.getElem_toArray, List.getElem_cons_zero, List.getElem_cons_succ]
                      go_simp
                      first | (go_at_call 13; refine Calls.mono (HRL.out _ (below_next HBB.out (by first | exact (Below.refl _ _).drew | exact al (Below.refl _ _).drew _ | exact (al (Below.refl _ _) _).drew))) ?_; rintro e u1 ⟨v1, o1, rfl, hw1, hL1, hh1, hl1, hb1⟩; have HW1 : Hid (Below wr.heap.size wr u1) := (by first | exact below_next (Below.refl _ _).drew hb1 | exact below_next (al (Below.refl _ _).drew _) hb1 | exact below_next (al (Below.refl _ _) _).drew hb1); have hS1 : Below wr.heap.size wr u1 := HW1.out; obtain ⟨a1, c1, e1, -, -, -, r1, -⟩ := OwnR.val hw1; subst e1; have HR11 : Hid (RdR u1 a1 o1) := r1; have HM1 : Hid (LPk l2 l2 i0 1 o1) := ⟨hL1, hh1⟩; clear hw1 r1 hl1 hL1 hh1; (try (have hG8 := (hb1.block _ (Array.getElem?_eq_some_iff.1 hG9.out).1).trans hG9.out; clear hG9; have hG9 : Hid _ := hG8; clear hG8)); clear hb1) | (go_at_call 14; refine Calls.mono (HRU.out _ (below_next HBB.out (by first | exact HW1.out | exact al HW1.out _))) ?_; rintro e u2 ⟨v2, o2, rfl, hw2, hL2, hh2, hl2, hb2⟩; have HW2 : Hid (Below wr.heap.size wr u2) := (by first | exact below_next HW1.out hb2 | exact below_next (al HW1.out _) hb2); have hS2 : Below wr.heap.size wr u2 := HW2.out; obtain ⟨a2, c2, e2, -, -, -, r2, -⟩ := OwnR.val hw2; subst e2; have HR22 : Hid (RdR u2 a2 o2) := r2; have HR21 : Hid (RdR u2 a1 o1) := RdR.below HR11.out (by first | exact hb2 | exact below_next (al (Below.refl _ _) _) hb2); have HM2 : Hid (LPk l2 l2 i0 2 o2) := ⟨hL2, hh2⟩; clear hw2 r2 hl2 hL2 hh2; (try (have hG8 := (hb2.block _ (Array.getElem?_eq_some_iff.1 hG9.out).1).trans hG9.out; clear hG9; have hG9 : Hid _ := hG8; clear hG8)); clear hb2) | (go_at_call 15; refine Calls.mono (HRA.out _ (below_next HBB.out (by first | exact HW2.out | exact al HW2.out _))) ?_; rintro e u3 ⟨v3, o3, rfl, hw3, hL3, hh3, hl3, hb3⟩; have HW3 : Hid (Below wr.heap.size wr u3) := (by first | exact below_next HW2.out hb3 | exact below_next (al HW2.out _) hb3); have hS3 : Below wr.heap.size wr u3 := HW3.out; obtain ⟨a3, c3, e3, -, -, -, r3, -⟩ := OwnR.val hw3; subst e3; have HR33 : Hid (RdR u3 a3 o3) := r3; have HR31 : Hid (RdR u3 a1 o1) := RdR.below HR21.out (by first | exact hb3 | exact below_next (al (Below.refl _ _) _) hb3); have HR32 : Hid (RdR u3 a2 o2) := RdR.below HR22.out (by first | exact hb3 | exact below_next (al (Below.refl _ _) _) hb3); have HM3 : Hid (LPk l2 l2 i0 3 o3) := ⟨hL3, hh3⟩; clear hw3 r3 hl3 hL3 hh3; (try (have hG8 := (hb3.block _ (Array.getElem?_eq_some_iff.1 hG9.out).1).trans hG9.out; clear hG9; have hG9 : Hid _ := hG8; clear hG8)); clear hb3) | (go_at_call 16; refine Calls.mono (HRM.out _ (below_next HBB.out (by first | exact HW3.out | exact al HW3.out _))) ?_; rintro e u4 ⟨v4, o4, rfl, hw4, hh4, hl4, hb4⟩; have HW4 : Hid (Below wr.heap.size wr u4) := (by first | exact below_next HW3.out hb4 | exact below_next (al HW3.out _) hb4); have hS4 : Below wr.heap.size wr u4 := HW4.out; obtain ⟨a4, c4, e4, -, -, -, r4, -⟩ := OwnR.val hw4; subst e4; have HR44 : Hid (RdR u4 a4 o4) := r4; have HR41 : Hid (RdR u4 a1 o1) := RdR.below HR31.out (by first | exact hb4 | exact below_next (al (Below.refl _ _) _) hb4); have HR42 : Hid (RdR u4 a2 o2) := RdR.below HR32.out (by first | exact hb4 | exact below_next (al (Below.refl _ _) _) hb4); have HR43 : Hid (RdR u4 a3 o3) := RdR.below HR33.out (by first | exact hb4 | exact below_next (al (Below.refl _ _) _) hb4); have HM4 : Hid (LPk l2 l2 i0 4 o4) := hh4; clear hw4 r4 hl4 hh4; (try (have hG8 := (hb4.block _ (Array.getElem?_eq_some_iff.1 hG9.out).1).trans hG9.out; clear hG9; have hG9 : Hid _ := hG8; clear hG8)); clear hb4)
                      go_wp2_with fail
                      refine hK.out _ _ (by with_reducible first | assumption | exact (Below.refl _ _).drew | exact al (Below.refl _ _).drew _ | exact (al (Below.refl _ _) _).drew | exact al (by assumption) _) ?_
                      clear hK K
                      intro hHeld2
                      clear hHeld
                      have hHeld := hHeld2
                      clear hHeld2
                      try simp only [Act.put, List.setIfInBounds_toArray, List.set_cons_zero, List.set_cons_succ]
                      refine run_at (i := 11) rfl (by kernel_rfl) (by rfl) (fun K hK => ?_)
                      simp only [List.getElem_toArray, List.getElem_cons_zero, List.getElem_cons_succ]
                      go_simp
                      first | (go_at_call 13; refine Calls.mono (HRL.out _ (below_next HBB.out (by first | exact (Below.refl _ _).drew | exact al (Below.refl _ _).drew _ | exact (al (Below.refl _ _) _).drew))) ?_; rintro e u1 ⟨v1, o1, rfl, hw1, hL1, hh1, hl1, hb1⟩; have HW1 : Hid (Below wr.heap.size wr u1) := (by first | exact below_next (Below.refl _ _).drew hb1 | exact below_next (al (Below.refl _ _).drew _) hb1 | exact below_next (al (Below.refl _ _) _).drew hb1); have hS1 : Below wr.heap.size wr u1 := HW1.out; obtain ⟨a1, c1, e1, -, -, -, r1, -⟩ := OwnR.val hw1; subst e1; have HR11 : Hid (RdR u1 a1 o1) := r1; have HM1 : Hid (LPk l2 l2 i0 1 o1) := ⟨hL1, hh1⟩; clear hw1 r1 hl1 hL1 hh1; (try (have hG8 := (hb1.block _ (Array.getElem?_eq_some_iff.1 hG9.out).1).trans hG9.out; clear hG9; have hG9 : Hid _ := hG8; clear hG8)); clear hb1) | (go_at_call 14; refine Calls.mono (HRU.out _ (below_next HBB.out (by first | exact HW1.out | exact al HW1.out _))) ?_; rintro e u2 ⟨v2, o2, rfl, hw2, hL2, hh2, hl2, hb2⟩; have HW2 : Hid (Below wr.heap.size wr u2) := (by first | exact below_next HW1.out hb2 | exact below_next (al HW1.out _) hb2); have hS2 : Below wr.heap.size wr u2 := HW2.out; obtain ⟨a2, c2, e2, -, -, -, r2, -⟩ := OwnR.val hw2; subst e2; have HR22 : Hid (RdR u2 a2 o2) := r2; have HR21 : Hid (RdR u2 a1 o1) := RdR.below HR11.out (by first | exact hb2 | exact below_next (al (Below.refl _ _) _) hb2); have HM2 : Hid (LPk l2 l2 i0 2 o2) := ⟨hL2, hh2⟩; clear hw2 r2 hl2 hL2 hh2; (try (have hG8 := (hb2.block _ (Array.getElem?_eq_some_iff.1 hG9.out).1).trans hG9.out; clear hG9; have hG9 : Hid _ := hG8; clear hG8)); clear hb2) | (go_at_call 15; refine Calls.mono (HRA.out _ (below_next HBB.out (by first | exact HW2.out | exact al HW2.out _))) ?_; rintro e u3 ⟨v3, o3, rfl, hw3, hL3, hh3, hl3, hb3⟩; have HW3 : Hid (Below wr.heap.size wr u3) := (by first | exact below_next HW2.out hb3 | exact below_next (al HW2.out _) hb3); have hS3 : Below wr.heap.size wr u3 := HW3.out; obtain ⟨a3, c3, e3, -, -, -, r3, -⟩ := OwnR.val hw3; subst e3; have HR33 : Hid (RdR u3 a3 o3) := r3; have HR31 : Hid (RdR u3 a1 o1) := RdR.below HR21.out (by first | exact hb3 | exact below_next (al (Below.refl _ _) _) hb3); have HR32 : Hid (RdR u3 a2 o2) := RdR.below HR22.out (by first | exact hb3 | exact below_next (al (Below.refl _ _) _) hb3); have HM3 : Hid (LPk l2 l2 i0 3 o3) := ⟨hL3, hh3⟩; clear hw3 r3 hl3 hL3 hh3; (try (have hG8 := (hb3.block _ (Array.getElem?_eq_some_iff.1 hG9.out).1).trans hG9.out; clear hG9; have hG9 : Hid _ := hG8; clear hG8)); clear hb3) | (go_at_call 16; refine Calls.mono (HRM.out _ (below_next HBB.out (by first | exact HW3.out | exact al HW3.out _))) ?_; rintro e u4 ⟨v4, o4, rfl, hw4, hh4, hl4, hb4⟩; have HW4 : Hid (Below wr.heap.size wr u4) := (by first | exact below_next HW3.out hb4 | exact below_next (al HW3.out _) hb4); have hS4 : Below wr.heap.size wr u4 := HW4.out; obtain ⟨a4, c4, e4, -, -, -, r4, -⟩ := OwnR.val hw4; subst e4; have HR44 : Hid (RdR u4 a4 o4) := r4; have HR41 : Hid (RdR u4 a1 o1) := RdR.below HR31.out (by first | exact hb4 | exact below_next (al (Below.refl _ _) _) hb4); have HR42 : Hid (RdR u4 a2 o2) := RdR.below HR32.out (by first | exact hb4 | exact below_next (al (Below.refl _ _) _) hb4); have HR43 : Hid (RdR u4 a3 o3) := RdR.below HR33.out (by first | exact hb4 | exact below_next (al (Below.refl _ _) _) hb4); have HM4 : Hid (LPk l2 l2 i0 4 o4) := hh4; clear hw4 r4 hl4 hh4; (try (have hG8 := (hb4.block _ (Array.getElem?_eq_some_iff.1 hG9.out).1).trans hG9.out; clear hG9; have hG9 : Hid _ := hG8; clear hG8)); clear hb4)
                      go_wp2_with fail
                      refine hK.out _ _ (by with_reducible first | assumption | exact (Below.refl _ _).drew | exact al (Below.refl _ _).drew _ | exact (al (Below.refl _ _) _).drew | exact al (by assumption) _) ?_
                      clear hK K
                      intro hHeld2
                      clear hHeld
                      have hHeld := hHeld2
                      clear hHeld2
                      try simp only [Act.put, List.setIfInBounds_toArray, List.set_cons_zero, List.set_cons_succ]
                      refine take_at (i := 12) 150 (v := ?_) rfl rfl (by kernel_rfl) (by kernel_rfl) (by kernel_rfl) (fun _ _ _ h => h) (by rfl) ?_ hHeld ?_
                      rotate_left
                      · (intro w hSw; (try dsimp only at hSw); go_simp; try with_reducible rfl)
                      simp only [Act.put, List.setIfInBounds_toArray, List.set_cons_zero, List.set_cons_succ]
                      refine run_at (i := 14) rfl (by kernel_rfl) (by rfl) (fun K hK => ?_)
                      simp only [List.getElem_toArray, List.getElem_cons_zero, List.getElem_cons_succ]
                      (refine wpo_store5 (W := wr) _ _ rfl _ _ _ _ _ _ (by rfl) (by rfl) (by simp [Value.oneCell']) _ _ _ _ _ _ hG9.out (by first | exact HW4.out | exact al HW4.out _) (by first | exact Nat.le_refl _ | exact HW1.out.size | exact HW2.out.size | exact HW3.out.size | exact HW4.out.size) ?_; intro z9 hz9 hc9 hg9; have HC9 : Hid _ := hc9; have HZ9 : Hid (Below wr.heap.size wr z9) := hz9; have HR91 : Hid (RdR z9 a1 o1) := (by first | exact RdR.st5 HR41.out hG9.out hg9 | exact RdR.st5 (RdR.below HR41.out (al (Below.refl _ _) _)) hG9.out hg9); have HR92 : Hid (RdR z9 a2 o2) := (by first | exact RdR.st5 HR42.out hG9.out hg9 | exact RdR.st5 (RdR.below HR42.out (al (Below.refl _ _) _)) hG9.out hg9); have HR93 : Hid (RdR z9 a3 o3) := (by first | exact RdR.st5 HR43.out hG9.out hg9 | exact RdR.st5 (RdR.below HR43.out (al (Below.refl _ _) _)) hG9.out hg9); have HR94 : Hid (RdR z9 a4 o4) := (by first | exact RdR.st5 HR44.out hG9.out hg9 | exact RdR.st5 (RdR.below HR44.out (al (Below.refl _ _) _)) hG9.out hg9); clear hc9 hg9 hG9)
                      refine hK.out _ _ (by with_reducible first | assumption | exact (Below.refl _ _).drew | exact al (Below.refl _ _).drew _ | exact (al (Below.refl _ _) _).drew | exact al (by assumption) _) ?_
                      clear hK K
                      intro hHeld2
                      clear hHeld
                      have hHeld := hHeld2
                      clear hHeld2
                      try simp only [Act.put, List.setIfInBounds_toArray, List.set_cons_zero, List.set_cons_succ]
                      refine wpAnyH_done (by kernel_rfl) ?_ _
                      refine NoPanic.normal ?_
                  rotate_left 4
                  refine AllReadyH.cons (o := _) rfl (fun K hK => ?_) AllReadyH.nil
                  focus
                    rw [if_pos (by rfl)]
                    simp only [List.getElem_toArray, List.getElem_cons_zero, List.getElem_cons_succ]
                    go_simp
                    go_wp2_with fail
                    refine hK.out _ _ (by with_reducible first | assumption | exact (Below.refl _ _).drew | exact al (Below.refl _ _).drew _ | exact (al (Below.refl _ _) _).drew | exact al (by assumption) _) ?_
                    clear hK K
                    intro hHeld2
                    clear hHeld
                    have hHeld := hHeld2
                    clear hHeld2
                    try simp only [Act.put, List.setIfInBounds_toArray, List.set_cons_zero, List.set_cons_succ]
                    (first | (have hG9 : Hid _ := alloc_at hHeld) | (have hG9 : Hid _ := alloc_atd hHeld))
                    refine run_at (i := 2) rfl (by kernel_rfl) (by rfl) (fun K hK => ?_)
                    simp only [List.getElem_toArray, List.getElem_cons_zero, List.getElem_cons_succ]
                    go_simp
                    first | (go_at_call 13; refine Calls.mono (HRL.out _ (below_next HBB.out (by first | exact (Below.refl _ _).drew | exact al (Below.refl _ _).drew _ | exact (al (Below.refl _ _) _).drew))) ?_; rintro e u1 ⟨v1, o1, rfl, hw1, hL1, hh1, hl1, hb1⟩; have HW1 : Hid (Below wr.heap.size wr u1) := (by first | exact below_next (Below.refl _ _).drew hb1 | exact below_next (al (Below.refl _ _).drew _) hb1 | exact below_next (al (Below.refl _ _) _).drew hb1); have hS1 : Below wr.heap.size wr u1 := HW1.out; obtain ⟨a1, c1, e1, -, -, -, r1, -⟩ := OwnR.val hw1; subst e1; have HR11 : Hid (RdR u1 a1 o1) := r1; have HM1 : Hid (LPk l2 l2 i0 1 o1) := ⟨hL1, hh1⟩; clear hw1 r1 hl1 hL1 hh1; (try (have hG8 := (hb1.block _ (Array.getElem?_eq_some_iff.1 hG9.out).1).trans hG9.out; clear hG9; have hG9 : Hid _ := hG8; clear hG8)); clear hb1) | (go_at_call 14; refine Calls.mono (HRU.out _ (below_next HBB.out (by first | exact HW1.out | exact al HW1.out _))) ?_; rintro e u2 ⟨v2, o2, rfl, hw2, hL2, hh2, hl2, hb2⟩; have HW2 : Hid (Below wr.heap.size wr u2) := (by first | exact below_next HW1.out hb2 | exact below_next (al HW1.out _) hb2); have hS2 : Below wr.heap.size wr u2 := HW2.out; obtain ⟨a2, c2, e2, -, -, -, r2, -⟩ := OwnR.val hw2; subst e2; have HR22 : Hid (RdR u2 a2 o2) := r2; have HR21 : Hid (RdR u2 a1 o1) := RdR.below HR11.out (by first | exact hb2 | exact below_next (al (Below.refl _ _) _) hb2); have HM2 : Hid (LPk l2 l2 i0 2 o2) := ⟨hL2, hh2⟩; clear hw2 r2 hl2 hL2 hh2; (try (have hG8 := (hb2.block _ (Array.getElem?_eq_some_iff.1 hG9.out).1).trans hG9.out; clear hG9; have hG9 : Hid _ := hG8; clear hG8)); clear hb2) | (go_at_call 15; refine Calls.mono (HRA.out _ (below_next HBB.out (by first | exact HW2.out | exact al HW2.out _))) ?_; rintro e u3 ⟨v3, o3, rfl, hw3, hL3, hh3, hl3, hb3⟩; have HW3 : Hid (Below wr.heap.size wr u3) := (by first | exact below_next HW2.out hb3 | exact below_next (al HW2.out _) hb3); have hS3 : Below wr.heap.size wr u3 := HW3.out; obtain ⟨a3, c3, e3, -, -, -, r3, -⟩ := OwnR.val hw3; subst e3; have HR33 : Hid (RdR u3 a3 o3) := r3; have HR31 : Hid (RdR u3 a1 o1) := RdR.below HR21.out (by first | exact hb3 | exact below_next (al (Below.refl _ _) _) hb3); have HR32 : Hid (RdR u3 a2 o2) := RdR.below HR22.out (by first | exact hb3 | exact below_next (al (Below.refl _ _) _) hb3); have HM3 : Hid (LPk l2 l2 i0 3 o3) := ⟨hL3, hh3⟩; clear hw3 r3 hl3 hL3 hh3; (try (have hG8 := (hb3.block _ (Array.getElem?_eq_some_iff.1 hG9.out).1).trans hG9.out; clear hG9; have hG9 : Hid _ := hG8; clear hG8)); clear hb3) | (go_at_call 16; refine Calls.mono (HRM.out _ (below_next HBB.out (by first | exact HW3.out | exact al HW3.out _))) ?_; rintro e u4 ⟨v4, o4, rfl, hw4, hh4, hl4, hb4⟩; have HW4 : Hid (Below wr.heap.size wr u4) := (by first | exact below_next HW3.out hb4 | exact below_next (al HW3.out _) hb4); have hS4 : Below wr.heap.size wr u4 := HW4.out; obtain ⟨a4, c4, e4, -, -, -, r4, -⟩ := OwnR.val hw4; subst e4; have HR44 : Hid (RdR u4 a4 o4) := r4; have HR41 : Hid (RdR u4 a1 o1) := RdR.below HR31.out (by first | exact hb4 | exact below_next (al (Below.refl _ _) _) hb4); have HR42 : Hid (RdR u4 a2 o2) := RdR.below HR32.out (by first | exact hb4 | exact below_next (al (Below.refl _ _) _) hb4); have HR43 : Hid (RdR u4 a3 o3) := RdR.below HR33.out (by first | exact hb4 | exact below_next (al (Below.refl _ _) _) hb4); have HM4 : Hid (LPk l2 l2 i0 4 o4) := hh4; clear hw4 r4 hl4 hh4; (try (have hG8 := (hb4.block _ (Array.getElem?_eq_some_iff.1 hG9.out).1).trans hG9.out; clear hG9; have hG9 : Hid _ := hG8; clear hG8)); clear hb4)
                    go_wp2_with fail
                    refine hK.out _ _ (by with_reducible first | assumption | exact (Below.refl _ _).drew | exact al (Below.refl _ _).drew _ | exact (al (Below.refl _ _) _).drew | exact al (by assumption) _) ?_
                    clear hK K
                    intro hHeld2
                    clear hHeld
                    have hHeld := hHeld2
                    clear hHeld2
                    try simp only [Act.put, List.setIfInBounds_toArray, List.set_cons_zero, List.set_cons_succ]
                    refine run_at (i := 6) rfl (by kernel_rfl) (by rfl) (fun K hK => ?_)
                    simp only [List.getElem_toArray, List.getElem_cons_zero, List.getElem_cons_succ]
                    go_simp
                    first | (go_at_call 13; refine Calls.mono (HRL.out _ (below_next HBB.out (by first | exact (Below.refl _ _).drew | exact al (Below.refl _ _).drew _ | exact (al (Below.refl _ _) _).drew))) ?_; rintro e u1 ⟨v1, o1, rfl, hw1, hL1, hh1, hl1, hb1⟩; have HW1 : Hid (Below wr.heap.size wr u1) := (by first | exact below_next (Below.refl _ _).drew hb1 | exact below_next (al (Below.refl _ _).drew _) hb1 | exact below_next (al (Below.refl _ _) _).drew hb1); have hS1 : Below wr.heap.size wr u1 := HW1.out; obtain ⟨a1, c1, e1, -, -, -, r1, -⟩ := OwnR.val hw1; subst e1; have HR11 : Hid (RdR u1 a1 o1) := r1; have HM1 : Hid (LPk l2 l2 i0 1 o1) := ⟨hL1, hh1⟩; clear hw1 r1 hl1 hL1 hh1; (try (have hG8 := (hb1.block _ (Array.getElem?_eq_some_iff.1 hG9.out).1).trans hG9.out; clear hG9; have hG9 : Hid _ := hG8; clear hG8)); clear hb1) | (go_at_call 14; refine Calls.mono (HRU.out _ (below_next HBB.out (by first | exact HW1.out | exact al HW1.out _))) ?_; rintro e u2 ⟨v2, o2, rfl, hw2, hL2, hh2, hl2, hb2⟩; have HW2 : Hid (Below wr.heap.size wr u2) := (by first | exact below_next HW1.out hb2 | exact below_next (al HW1.out _) hb2); have hS2 : Below wr.heap.size wr u2 := HW2.out; obtain ⟨a2, c2, e2, -, -, -, r2, -⟩ := OwnR.val hw2; subst e2; have HR22 : Hid (RdR u2 a2 o2) := r2; have HR21 : Hid (RdR u2 a1 o1) := RdR.below HR11.out (by first | exact hb2 | exact below_next (al (Below.refl _ _) _) hb2); have HM2 : Hid (LPk l2 l2 i0 2 o2) := ⟨hL2, hh2⟩; clear hw2 r2 hl2 hL2 hh2; (try (have hG8 := (hb2.block _ (Array.getElem?_eq_some_iff.1 hG9.out).1).trans hG9.out; clear hG9; have hG9 : Hid _ := hG8; clear hG8)); clear hb2) | (go_at_call 15; refine Calls.mono (HRA.out _ (below_next HBB.out (by first | exact HW2.out | exact al HW2.out _))) ?_; rintro e u3 ⟨v3, o3, rfl, hw3, hL3, hh3, hl3, hb3⟩; have HW3 : Hid (Below wr.heap.size wr u3) := (by first | exact below_next HW2.out hb3 | exact below_next (al HW2.out _) hb3); have hS3 : Below wr.heap.size wr u3 := HW3.out; obtain ⟨a3, c3, e3, -, -, -, r3, -⟩ := OwnR.val hw3; subst e3; have HR33 : Hid (RdR u3 a3 o3) := r3; have HR31 : Hid (RdR u3 a1 o1) := RdR.below HR21.out (by first | exact hb3 | exact below_next (al (Below.refl _ _) _) hb3); have HR32 : Hid (RdR u3 a2 o2) := RdR.below HR22.out (by first | exact hb3 | exact below_next (al (Below.refl _ _) _) hb3); have HM3 : Hid (LPk l2 l2 i0 3 o3) := ⟨hL3, hh3⟩; clear hw3 r3 hl3 hL3 hh3; (try (have hG8 := (hb3.block _ (Array.getElem?_eq_some_iff.1 hG9.out).1).trans hG9.out; clear hG9; have hG9 : Hid _ := hG8; clear hG8)); clear hb3) | (go_at_call 16; refine Calls.mono (HRM.out _ (below_next HBB.out (by first | exact HW3.out | exact al HW3.out _))) ?_; rintro e u4 ⟨v4, o4, rfl, hw4, hh4, hl4, hb4⟩; have HW4 : Hid (Below wr.heap.size wr u4) := (by first | exact below_next HW3.out hb4 | exact below_next (al HW3.out _) hb4); have hS4 : Below wr.heap.size wr u4 := HW4.out; obtain ⟨a4, c4, e4, -, -, -, r4, -⟩ := OwnR.val hw4; subst e4; have HR44 : Hid (RdR u4 a4 o4) := r4; have HR41 : Hid (RdR u4 a1 o1) := RdR.below HR31.out (by first | exact hb4 | exact below_next (al (Below.refl _ _) _) hb4); have HR42 : Hid (RdR u4 a2 o2) := RdR.below HR32.out (by first | exact hb4 | exact below_next (al (Below.refl _ _) _) hb4); have HR43 : Hid (RdR u4 a3 o3) := RdR.below HR33.out (by first | exact hb4 | exact below_next (al (Below.refl _ _) _) hb4); have HM4 : Hid (LPk l2 l2 i0 4 o4) := hh4; clear hw4 r4 hl4 hh4; (try (have hG8 := (hb4.block _ (Array.getElem?_eq_some_iff.1 hG9.out).1).trans hG9.out; clear hG9; have hG9 : Hid _ := hG8; clear hG8)); clear hb4)
                    go_wp2_with fail
                    refine hK.out _ _ (by with_reducible first | assumption | exact (Below.refl _ _).drew | exact al (Below.refl _ _).drew _ | exact (al (Below.refl _ _) _).drew | exact al (by assumption) _) ?_
                    clear hK K
                    intro hHeld2
                    clear hHeld
                    have hHeld := hHeld2
                    clear hHeld2
                    try simp only [Act.put, List.setIfInBounds_toArray, List.set_cons_zero, List.set_cons_succ]
                    refine run_at (i := 9) rfl (by kernel_rfl) (by rfl) (fun K hK => ?_)
                    simp only [List.getElem_toArray, List.getElem_cons_zero, List.getElem_cons_succ]
                    go_simp
                    first | (go_at_call 13; refine Calls.mono (HRL.out _ (below_next HBB.out (by first | exact (Below.refl _ _).drew | exact al (Below.refl _ _).drew _ | exact (al (Below.refl _ _) _).drew))) ?_; rintro e u1 ⟨v1, o1, rfl, hw1, hL1, hh1, hl1, hb1⟩; have HW1 : Hid (Below wr.heap.size wr u1) := (by first | exact below_next (Below.refl _ _).drew hb1 | exact below_next (al (Below.refl _ _).drew _) hb1 | exact below_next (al (Below.refl _ _) _).drew hb1); have hS1 : Below wr.heap.size wr u1 := HW1.out; obtain ⟨a1, c1, e1, -, -, -, r1, -⟩ := OwnR.val hw1; subst e1; have HR11 : Hid (RdR u1 a1 o1) := r1; have HM1 : Hid (LPk l2 l2 i0 1 o1) := ⟨hL1, hh1⟩; clear hw1 r1 hl1 hL1 hh1; (try (have hG8 := (hb1.block _ (Array.getElem?_eq_some_iff.1 hG9.out).1).trans hG9.out; clear hG9; have hG9 : Hid _ := hG8; clear hG8)); clear hb1) | (go_at_call 14; refine Calls.mono (HRU.out _ (below_next HBB.out (by first | exact HW1.out | exact al HW1.out _))) ?_; rintro e u2 ⟨v2, o2, rfl, hw2, hL2, hh2, hl2, hb2⟩; have HW2 : Hid (Below wr.heap.size wr u2) := (by first | exact below_next HW1.out hb2 | exact below_next (al HW1.out _) hb2); have hS2 : Below wr.heap.size wr u2 := HW2.out; obtain ⟨a2, c2, e2, -, -, -, r2, -⟩ := OwnR.val hw2; subst e2; have HR22 : Hid (RdR u2 a2 o2) := r2; have HR21 : Hid (RdR u2 a1 o1) := RdR.below HR11.out (by first | exact hb2 | exact below_next (al (Below.refl _ _) _) hb2); have HM2 : Hid (LPk l2 l2 i0 2 o2) := ⟨hL2, hh2⟩; clear hw2 r2 hl2 hL2 hh2; (try (have hG8 := (hb2.block _ (Array.getElem?_eq_some_iff.1 hG9.out).1).trans hG9.out; clear hG9; have hG9 : Hid _ := hG8; clear hG8)); clear hb2) | (go_at_call 15; refine Calls.mono (HRA.out _ (below_next HBB.out (by first | exact HW2.out | exact al HW2.out _))) ?_; rintro e u3 ⟨v3, o3, rfl, hw3, hL3, hh3, hl3, hb3⟩; have HW3 : Hid (Below wr.heap.size wr u3) := (by first | exact below_next HW2.out hb3 | exact below_next (al HW2.out _) hb3); have hS3 : Below wr.heap.size wr u3 := HW3.out; obtain ⟨a3, c3, e3, -, -, -, r3, -⟩ := OwnR.val hw3; subst e3; have HR33 : Hid (RdR u3 a3 o3) := r3; have HR31 : Hid (RdR u3 a1 o1) := RdR.below HR21.out (by first | exact hb3 | exact below_next (al (Below.refl _ _) _) hb3); have HR32 : Hid (RdR u3 a2 o2) := RdR.below HR22.out (by first | exact hb3 | exact below_next (al (Below.refl _ _) _) hb3); have HM3 : Hid (LPk l2 l2 i0 3 o3) := ⟨hL3, hh3⟩; clear hw3 r3 hl3 hL3 hh3; (try (have hG8 := (hb3.block _ (Array.getElem?_eq_some_iff.1 hG9.out).1).trans hG9.out; clear hG9; have hG9 : Hid _ := hG8; clear hG8)); clear hb3) | (go_at_call 16; refine Calls.mono (HRM.out _ (below_next HBB.out (by first | exact HW3.out | exact al HW3.out _))) ?_; rintro e u4 ⟨v4, o4, rfl, hw4, hh4, hl4, hb4⟩; have HW4 : Hid (Below wr.heap.size wr u4) := (by first | exact below_next HW3.out hb4 | exact below_next (al HW3.out _) hb4); have hS4 : Below wr.heap.size wr u4 := HW4.out; obtain ⟨a4, c4, e4, -, -, -, r4, -⟩ := OwnR.val hw4; subst e4; have HR44 : Hid (RdR u4 a4 o4) := r4; have HR41 : Hid (RdR u4 a1 o1) := RdR.below HR31.out (by first | exact hb4 | exact below_next (al (Below.refl _ _) _) hb4); have HR42 : Hid (RdR u4 a2 o2) := RdR.below HR32.out (by first | exact hb4 | exact below_next (al (Below.refl _ _) _) hb4); have HR43 : Hid (RdR u4 a3 o3) := RdR.below HR33.out (by first | exact hb4 | exact below_next (al (Below.refl _ _) _) hb4); have HM4 : Hid (LPk l2 l2 i0 4 o4) := hh4; clear hw4 r4 hl4 hh4; (try (have hG8 := (hb4.block _ (Array.getElem?_eq_some_iff.1 hG9.out).1).trans hG9.out; clear hG9; have hG9 : Hid _ := hG8; clear hG8)); clear hb4)
                    go_wp2_with fail
                    refine hK.out _ _ (by with_reducible first | assumption | exact (Below.refl _ _).drew | exact al (Below.refl _ _).drew _ | exact (al (Below.refl _ _) _).drew | exact al (by assumption) _) ?_
                    clear hK K
                    intro hHeld2
                    clear hHeld
                    have hHeld := hHeld2
                    clear hHeld2
                    try simp only [Act.put, List.setIfInBounds_toArray, List.set_cons_zero, List.set_cons_succ]
                    refine run_at (i := 11) rfl (by kernel_rfl) (by rfl) (fun K hK => ?_)
                    simp only [List.getElem_toArray, List.getElem_cons_zero, List.getElem_cons_succ]
                    go_simp
                    first | (go_at_call 13; refine Calls.mono (HRL.out _ (below_next HBB.out (by first | exact (Below.refl _ _).drew | exact al (Below.refl _ _).drew _ | exact (al (Below.refl _ _) _).drew))) ?_; rintro e u1 ⟨v1, o1, rfl, hw1, hL1, hh1, hl1, hb1⟩; have HW1 : Hid (Below wr.heap.size wr u1) := (by first | exact below_next (Below.refl _ _).drew hb1 | exact below_next (al (Below.refl _ _).drew _) hb1 | exact below_next (al (Below.refl _ _) _).drew hb1); have hS1 : Below wr.heap.size wr u1 := HW1.out; obtain ⟨a1, c1, e1, -, -, -, r1, -⟩ := OwnR.val hw1; subst e1; have HR11 : Hid (RdR u1 a1 o1) := r1; have HM1 : Hid (LPk l2 l2 i0 1 o1) := ⟨hL1, hh1⟩; clear hw1 r1 hl1 hL1 hh1; (try (have hG8 := (hb1.block _ (Array.getElem?_eq_some_iff.1 hG9.out).1).trans hG9.out; clear hG9; have hG9 : Hid _ := hG8; clear hG8)); clear hb1) | (go_at_call 14; refine Calls.mono (HRU.out _ (below_next HBB.out (by first | exact HW1.out | exact al HW1.out _))) ?_; rintro e u2 ⟨v2, o2, rfl, hw2, hL2, hh2, hl2, hb2⟩; have HW2 : Hid (Below wr.heap.size wr u2) := (by first | exact below_next HW1.out hb2 | exact below_next (al HW1.out _) hb2); have hS2 : Below wr.heap.size wr u2 := HW2.out; obtain ⟨a2, c2, e2, -, -, -, r2, -⟩ := OwnR.val hw2; subst e2; have HR22 : Hid (RdR u2 a2 o2) := r2; have HR21 : Hid (RdR u2 a1 o1) := RdR.below HR11.out (by first | exact hb2 | exact below_next (al (Below.refl _ _) _) hb2); have HM2 : Hid (LPk l2 l2 i0 2 o2) := ⟨hL2, hh2⟩; clear hw2 r2 hl2 hL2 hh2; (try (have hG8 := (hb2.block _ (Array.getElem?_eq_some_iff.1 hG9.out).1).trans hG9.out; clear hG9; have hG9 : Hid _ := hG8; clear hG8)); clear hb2) | (go_at_call 15; refine Calls.mono (HRA.out _ (below_next HBB.out (by first | exact HW2.out | exact al HW2.out _))) ?_; rintro e u3 ⟨v3, o3, rfl, hw3, hL3, hh3, hl3, hb3⟩; have HW3 : Hid (Below wr.heap.size wr u3) := (by first | exact below_next HW2.out hb3 | exact below_next (al HW2.out _) hb3); have hS3 : Below wr.heap.size wr u3 := HW3.out; obtain ⟨a3, c3, e3, -, -, -, r3, -⟩ := OwnR.val hw3; subst e3; have HR33 : Hid (RdR u3 a3 o3) := r3; have HR31 : Hid (RdR u3 a1 o1) := RdR.below HR21.out (by first | exact hb3 | exact below_next (al (Below.refl _ _) _) hb3); have HR32 : Hid (RdR u3 a2 o2) := RdR.below HR22.out (by first | exact hb3 | exact below_next (al (Below.refl _ _) _) hb3); have HM3 : Hid (LPk l2 l2 i0 3 o3) := ⟨hL3, hh3⟩; clear hw3 r3 hl3 hL3 hh3; (try (have hG8 := (hb3.block _ (Array.getElem?_eq_some_iff.1 hG9.out).1).trans hG9.out; clear hG9; have hG9 : Hid _ := hG8; clear hG8)); clear hb3) | (go_at_call 16; refine Calls.mono (HRM.out _ (below_next HBB.out (by first | exact HW3.out | exact al HW3.out _))) ?_; rintro e u4 ⟨v4, o4, rfl, hw4, hh4, hl4, hb4⟩; have HW4 : Hid (Below wr.heap.size wr u4) := (by first | exact below_next HW3.out hb4 | exact below_next (al HW3.out _) hb4); have hS4 : Below wr.heap.size wr u4 := HW4.out; obtain ⟨a4, c4, e4, -, -, -, r4, -⟩ := OwnR.val hw4; subst e4; have HR44 : Hid (RdR u4 a4 o4) := r4; have HR41 : Hid (RdR u4 a1 o1) := RdR.below HR31.out (by first | exact hb4 | exact below_next (al (Below.refl _ _) _) hb4); have HR42 : Hid (RdR u4 a2 o2) := RdR.below HR32.out (by first | exact hb4 | exact below_next (al (Below.refl _ _) _) hb4); have HR43 : Hid (RdR u4 a3 o3) := RdR.below HR33.out (by first | exact hb4 | exact below_next (al (Below.refl _ _) _) hb4); have HM4 : Hid (LPk l2 l2 i0 4 o4) := hh4; clear hw4 r4 hl4 hh4; (try (have hG8 := (hb4.block _ (Array.getElem?_eq_some_iff.1 hG9.out).1).trans hG9.out; clear hG9; have hG9 : Hid _ := hG8; clear hG8)); clear hb4)
                    go_wp2_with fail
                    refine hK.out _ _ (by with_reducible first | assumption | exact (Below.refl _ _).drew | exact al (Below.refl _ _).drew _ | exact (al (Below.refl _ _) _).drew | exact al (by assumption) _) ?_
                    clear hK K
                    intro hHeld2
                    clear hHeld
                    have hHeld := hHeld2
                    clear hHeld2
                    try simp only [Act.put, List.setIfInBounds_toArray, List.set_cons_zero, List.set_cons_succ]
                    refine take_at (i := 12) 150 (v := ?_) rfl rfl (by kernel_rfl) (by kernel_rfl) (by kernel_rfl) (fun _ _ _ h => h) (by rfl) ?_ hHeld ?_
                    rotate_left
                    · (intro w hSw; (try dsimp only at hSw); go_simp; try with_reducible rfl)
                    simp only [Act.put, List.setIfInBounds_toArray, List.set_cons_zero, List.set_cons_succ]
                    refine run_at (i := 14) rfl (by kernel_rfl) (by rfl) (fun K hK => ?_)
                    simp only [List.getElem_toArray, List.getElem_cons_zero, List.getElem_cons_succ]
                    (refine wpo_store5 (W := wr) _ _ rfl _ _ _ _ _ _ (by rfl) (by rfl) (by simp [Value.oneCell']) _ _ _ _ _ _ hG9.out (by first | exact HW4.out | exact al HW4.out _) (by first | exact Nat.le_refl _ | exact HW1.out.size | exact HW2.out.size | exact HW3.out.size | exact HW4.out.size) ?_; intro z9 hz9 hc9 hg9; have HC9 : Hid _ := hc9; have HZ9 : Hid (Below wr.heap.size wr z9) := hz9; have HR91 : Hid (RdR z9 a1 o1) := (by first | exact RdR.st5 HR41.out hG9.out hg9 | exact RdR.st5 (RdR.below HR41.out (al (Below.refl _ _) _)) hG9.out hg9); have HR92 : Hid (RdR z9 a2 o2) := (by first | exact RdR.st5 HR42.out hG9.out hg9 | exact RdR.st5 (RdR.below HR42.out (al (Below.refl _ _) _)) hG9.out hg9); have HR93 : Hid (RdR z9 a3 o3) := (by first | exact RdR.st5 HR43.out hG9.out hg9 | exact RdR.st5 (RdR.below HR43.out (al (Below.refl _ _) _)) hG9.out hg9); have HR94 : Hid (RdR z9 a4 o4) := (by first | exact RdR.st5 HR44.out hG9.out hg9 | exact RdR.st5 (RdR.below HR44.out (al (Below.refl _ _) _)) hG9.out hg9); clear hc9 hg9 hG9)
                    refine hK.out _ _ (by with_reducible first | assumption | exact (Below.refl _ _).drew | exact al (Below.refl _ _).drew _ | exact (al (Below.refl _ _) _).drew | exact al (by assumption) _) ?_
                    clear hK K
                    intro hHeld2
                    clear hHeld
                    have hHeld := hHeld2
                    clear hHeld2
                    try simp only [Act.put, List.setIfInBounds_toArray, List.set_cons_zero, List.set_cons_succ]
                    refine wpAnyH_done (by kernel_rfl) ?_ _
                    refine NoPanic.normal ?_
                  all_goals
                    obtain ⟨r, hr⟩ : ∃ r : Nat, r = k % 5 := ⟨_, rfl⟩
                    obtain ⟨aV, nV, cV, oV, hcV, hRV, hLV, hnV⟩ := pick5 (r := r) (by omega) HC9.out HN2.out.2.1 (HRD2.out z9 (HBW.out z9 (below_next HBB.out HZ9.out))).2 HR91.out HR92.out HR93.out HR94.out HM1.out HM2.out HM3.out HM4.out
                    have hrd : Int.tmod (k : Int) 5 = (r : Int) := by rw [hr]; rfl
                    have hrw : wrap64 (r : Int) = (r : Int) := wrap64_small (by omega)
                    have HLK : Hid (LPk l2 l2 i0 r out0) := by rw [hr]; exact HLO.out.1
                    have HSM : Hid (∀ u, Below z9.heap.size z9 u → Calls Tryz.prog 17 #[.slice aL L cL, .slice aV nV cV] u fun e u' => e = .returned (.bool true) ∧ Below u.heap.size u u') := fun u hu => same_t aL aV L nV cL cV out0 oV u HLO.out.2.1 hnV (HRL0.out u (below_next HZ9.out hu)) (hRV.below hu) (by have := HLO.out; omega) (LPk_uniq HLK.out hLV)
                    have hcVA : ∀ u, Below z9.heap.size z9 u → u.cell? ⟨_, r, none⟩ = some (.slice aV nV cV) := fun u hu => (hu.cell (World.block_lt_of_cell? z9 _ hcV)).trans hcV
                    have hr5 : r < 5 := by omega
                    have hri : (r : Int) < 5 := by omega
                    have hr0 : (0 : Int) ≤ (r : Int) := by omega
                    have hki : (k : Int) < 15 := by omega
                    have hk0 : (0 : Int) ≤ (k : Int) := by omega
                    clear hr hcV hRV hLV hnV
                    go_wp2_with fail
                    refine wp_region_noPanic ?_
                    refine wp_region_held_drew (S := (fun u => Below z9.heap.size z9 u)) (by kernel_rfl) (by with_reducible first | assumption | exact (Below.refl _ _).drew) (fun hHeld => ?_)
                    refine take_at (i := 0) 151 (v := ?_) rfl rfl (by kernel_rfl) (by kernel_rfl) (by kernel_rfl) (fun _ _ _ h => h) (by rfl) ?_ hHeld ?_
                    rotate_left
                    · (intro w hSw; (try dsimp only at hSw); go_simp; try with_reducible rfl)
                    simp only [Act.put, List.setIfInBounds_toArray, List.set_cons_zero, List.set_cons_succ]
                    refine take_at (i := 1) 152 (v := ?_) rfl rfl (by kernel_rfl) (by kernel_rfl) (by kernel_rfl) (fun _ _ _ h => h) (by rfl) ?_ hHeld ?_
                    rotate_left
                    · (intro w hSw; (try dsimp only at hSw); go_simp; try with_reducible rfl)
                    simp only [Act.put, List.setIfInBounds_toArray, List.set_cons_zero, List.set_cons_succ]
                    refine take_at (i := 2) 153 (v := ?_) rfl rfl (by kernel_rfl) (by kernel_rfl) (by kernel_rfl) (fun _ _ _ h => h) (by rfl) ?_ hHeld ?_
                    rotate_left
                    · (intro w hSw; (try dsimp only at hSw); go_simp; try with_reducible rfl)
                    simp only [Act.put, List.setIfInBounds_toArray, List.set_cons_zero, List.set_cons_succ]
                    refine take_at (i := 3) 154 (v := ?_) rfl rfl (by kernel_rfl) (by kernel_rfl) (by kernel_rfl) (fun _ _ _ h => h) (by rfl) ?_ hHeld ?_
                    rotate_left
                    · (intro w hSw; have h7 := hcLA w (below_next HZ9.out hSw); (try dsimp only at hSw); go_simp; try with_reducible rfl)
                    simp only [Act.put, List.setIfInBounds_toArray, List.set_cons_zero, List.set_cons_succ]
                    refine take_at (i := 4) 155 (v := ?_) rfl rfl (by kernel_rfl) (by kernel_rfl) (by kernel_rfl) (fun _ _ _ h => h) (by rfl) ?_ hHeld ?_
                    rotate_left
                    · (intro w hSw; (try dsimp only at hSw); go_simp; try with_reducible rfl)
                    simp only [Act.put, List.setIfInBounds_toArray, List.set_cons_zero, List.set_cons_succ]
                    refine take_at (i := 5) 156 (v := ?_) rfl rfl (by kernel_rfl) (by kernel_rfl) (by kernel_rfl) (fun _ _ _ h => h) (by rfl) ?_ hHeld ?_
                    rotate_left
                    · (intro w hSw; (try dsimp only at hSw); go_simp; try with_reducible rfl)
                    simp only [Act.put, List.setIfInBounds_toArray, List.set_cons_zero, List.set_cons_succ]
                    refine take_at (i := 6) 157 (v := ?_) rfl rfl (by kernel_rfl) (by kernel_rfl) (by kernel_rfl) (fun _ _ _ h => h) (by rfl) ?_ hHeld ?_
                    rotate_left
                    · (intro w hSw; (try dsimp only at hSw); go_simp; try with_reducible rfl)
                    simp only [Act.put, List.setIfInBounds_toArray, List.set_cons_zero, List.set_cons_succ]
                    refine take_at (i := 7) 158 (v := ?_) rfl rfl (by kernel_rfl) (by kernel_rfl) (by kernel_rfl) (fun _ _ _ h => h) (by rfl) ?_ hHeld ?_
                    rotate_left
                    · (intro w hSw; have h7 := hcVA w hSw; (try dsimp only at hSw); go_simp; try with_reducible rfl)
                    simp only [Act.put, List.setIfInBounds_toArray, List.set_cons_zero, List.set_cons_succ]
                    refine run_at (i := 8) rfl (by kernel_rfl) (by rfl) (fun K hK => ?_)
                    simp only [List.getElem_toArray, List.getElem_cons_zero, List.getElem_cons_succ]
                    go_simp
                    (go_at_call 17; refine Calls.mono (HSM.out _ (Below.refl _ _).drew) ?_; rintro e u9 ⟨rfl, hb9⟩; have hS9 : Below z9.heap.size z9 u9 := below_next (Below.refl _ _).drew hb9; have HU9 : Hid (Below wr.heap.size wr u9) := below_next HZ9.out hS9; clear hb9)
                    go_wp2_with fail
                    refine hK.out _ _ (by with_reducible first | assumption | exact (Below.refl _ _).drew) ?_
                    clear hK K
                    intro hHeld2
                    clear hHeld
                    have hHeld := hHeld2
                    clear hHeld2
                    try simp only [Act.put, List.setIfInBounds_toArray, List.set_cons_zero, List.set_cons_succ]
                    refine take_at (i := 9) 160 (v := ?_) rfl rfl (by kernel_rfl) (by kernel_rfl) (by kernel_rfl) (fun _ _ _ h => h) (by rfl) ?_ hHeld ?_
                    rotate_left
                    · (intro w hSw; (try dsimp only at hSw); go_simp; try with_reducible rfl)
                    simp only [Act.put, List.setIfInBounds_toArray, List.set_cons_zero, List.set_cons_succ]
                    refine wpAnyH_done (by kernel_rfl) ?_ _
                    refine NoPanic.normal ?_
                    clear hcVA hcLA hrd hrw hr5 hri hr0 hv8A hv8 HSM HLK
                    go_wp2
                    go_roundw
                    case rel =>
                      iterate 38 (apply Exists.intro)
                      refine And.intro ?_ rfl
                      exact ⟨k + 1, by omega, by go_num, below_next HBK.out HU9.out⟩
                    case measure => simp [intOf]; omega
                · have HBB : Hid (Below B.heap.size B wr) := HPW.out.d.bel
                  obtain ⟨out0, hrow, hLP0⟩ := HPW.out.el k hlt3
                  have hcL := HNM.out.cellL k hlt3
                  have oL := HPW.out.d.fam.own (1, k)
                  rw [hrow] at oL
                  obtain ⟨aL, cL, vL, -, -, -, rL, -⟩ := OwnR.val (rRowS_at.1 oL)
                  rw [vL] at hcL
                  obtain ⟨L, hL⟩ : ∃ L, L = out0.length := ⟨_, rfl⟩
                  rw [← hL] at hcL
                  have HRL0 : Hid (∀ u, Below wr.heap.size wr u → RdR u aL out0) := fun u hu => rL.below hu
                  have hcLA : ∀ u, Below wr.heap.size wr u → u.cell? ⟨Gl, k, none⟩ = some (.slice aL L cL) := fun u hu => (hu.cell (World.block_lt_of_cell? wr _ hcL)).trans hcL
                  have HLO : Hid (LPk l1 l2 i0 (k % 5) out0 ∧ L = out0.length ∧ L ≤ 1000000) := by
                    rw [HLP.out] at hLP0
                    obtain ⟨h8, h9⟩ := hLP0
                    rw [if_neg hq] at h9
                    exact ⟨h9, hL, by omega⟩
                  clear hrow hLP0 oL vL rL hL hcL
                  have HGG : Hid (gn1 ≤ 33 ∧ gn2 ≤ 33) := ⟨by have h9 := valid_got HV9.out; have := HN1.out; simp only at h9; omega, by have h9 := valid_got HV8.out; have := HN2.out; simp only at h9; omega⟩
                  have HRL : Hid (∀ u, Below B.heap.size B u → Calls Tryz.prog 13 #[.slice ga1 gn1 gc1] u fun e u' => LeastOut l1 u e u') := fun u hu => rleast_t ga1 gn1 gc1 l1 u HN1.out.2.1 (HRD1.out u (HBW.out u hu)).2 (by have := HGG.out; omega) (valid_ri HV9.out)
                  have HRU : Hid (∀ u, Below B.heap.size B u → Calls Tryz.prog 14 #[.slice ga1 gn1 gc1, .slice ga2 gn2 gc2] u fun e u' => LeastOut (l1 ++ l2) u e u') := fun u hu => runion_t ga1 ga2 gn1 gn2 gc1 gc2 l1 l2 u HN1.out.2.1 HN2.out.2.1 (HRD1.out u (HBW.out u hu)).2 (HRD2.out u (HBW.out u hu)).2 (by have := HGG.out; omega) (valid_ri HV9.out) (valid_ri HV8.out) HN1.out.2.2.2.2.2.2.2.1 HN2.out.2.2.2.2.2.2.2.1
                  have HRA : Hid (∀ u, Below B.heap.size B u → Calls Tryz.prog 15 #[.slice ga1 gn1 gc1, .int .i64 i0] u fun e u' => LeastOut (addL l1 i0) u e u') := fun u hu => radd_t ga1 gn1 gc1 l1 i0 u HN1.out.2.1 (HRD1.out u (HBW.out u hu)).2 (by have := HGG.out; omega) (valid_ri HV9.out) HI0.out HN1.out.2.2.2.2.2.2.2.1
                  have HRM : Hid (∀ u, Below B.heap.size B u → Calls Tryz.prog 16 #[.slice ga1 gn1 gc1, .int .i64 64] u fun e u' => MissOut l1 64 u e u') := fun u hu => rmissing_t ga1 gn1 gc1 l1 64 u HN1.out.2.1 (HRD1.out u (HBW.out u hu)).2 (by have := HGG.out; omega)
                  have hu8 : wr.cell? ⟨w.heap.size, 8, none⟩ = some (.slice ga1 gn1 gc1) := by have h9 := HBU.out wr HBB.out 8 _ rfl; rwa [Nat.zero_add] at h9
                  have hv8 : wr.cell? ⟨w.heap.size + 1, 8, none⟩ = some (.slice ga2 gn2 gc2) := by have h9 := HBV.out wr HBB.out 8 _ rfl; rwa [Nat.zero_add] at h9
                  have hv8A : ∀ u, Below wr.heap.size wr u → u.cell? ⟨w.heap.size + 1, 8, none⟩ = some (.slice ga2 gn2 gc2) := fun u hu => (hu.cell (World.block_lt_of_cell? wr _ hv8)).trans hv8
                  obtain ⟨q5, hq5⟩ : ∃ q : Nat, q = k / 5 := ⟨_, rfl⟩
                  have hqd : Int.tdiv (k : Int) 5 = (q5 : Int) := by rw [hq5]; rfl
                  have hq1 : ((q5 : Int) == 1) = false := by simp; omega
                  have hqw : wrap64 (q5 : Int) = (q5 : Int) := wrap64_small (by omega)
                  have HQD : Hid _ := hqd
                  clear hq5 hq
                  go_wp2_with fail
                  clear hqd hq1 hqw hu8
                  refine wp_region_noPanic ?_
                  refine wp_region_held_drew (S := (fun u => Below wr.heap.size wr u)) (by kernel_rfl) (by with_reducible first | assumption | exact (Below.refl _ _).drew | exact al (Below.refl _ _).drew _ | exact (al (Below.refl _ _) _).drew | exact al (by assumption) _) (fun hHeld => ?_)
                  refine take_at (i := 0) 138 (v := ?_) rfl rfl (by kernel_rfl) (by kernel_rfl) (by kernel_rfl) (fun _ _ _ h => h) (by rfl) ?_ hHeld ?_
                  rotate_left
                  · (intro w hSw; (try dsimp only at hSw); go_simp; try with_reducible rfl)
                  simp only [Act.put, List.setIfInBounds_toArray, List.set_cons_zero, List.set_cons_succ]
                  refine take_at (i := 1) 139 (v := ?_) rfl rfl (by kernel_rfl) (by kernel_rfl) (by kernel_rfl) (fun _ _ _ h => h) (by rfl) ?_ hHeld ?_
                  rotate_left
                  · (intro w hSw; (try dsimp only at hSw); go_simp; try with_reducible rfl)
                  simp only [Act.put, List.setIfInBounds_toArray, List.set_cons_zero, List.set_cons_succ]
                  refine take_at (i := 3) 141 (v := ?_) rfl rfl (by kernel_rfl) (by kernel_rfl) (by kernel_rfl) (fun _ _ _ h => h) (by rfl) ?_ hHeld ?_
                  rotate_left
                  · (intro w hSw; (try dsimp only at hSw); go_simp; try with_reducible rfl)
                  simp only [Act.put, List.setIfInBounds_toArray, List.set_cons_zero, List.set_cons_succ]
                  refine take_at (i := 4) 142 (v := ?_) rfl rfl (by kernel_rfl) (by kernel_rfl) (by kernel_rfl) (fun _ _ _ h => h) (by rfl) ?_ hHeld ?_
                  rotate_left
                  · (intro w hSw; (try dsimp only at hSw); go_simp; try with_reducible rfl)
                  simp only [Act.put, List.setIfInBounds_toArray, List.set_cons_zero, List.set_cons_succ]
                  refine take_at (i := 5) 143 (v := ?_) rfl rfl (by kernel_rfl) (by kernel_rfl) (by kernel_rfl) (fun _ _ _ h => h) (by rfl) ?_ hHeld ?_
                  rotate_left
                  · (intro w hSw; have h7 := hv8A w hSw; (try dsimp only at hSw); go_simp; try with_reducible rfl)
                  simp only [Act.put, List.setIfInBounds_toArray, List.set_cons_zero, List.set_cons_succ]
                  refine take_at (i := 7) 145 (v := ?_) rfl rfl (by kernel_rfl) (by kernel_rfl) (by kernel_rfl) (fun _ _ _ h => h) (by rfl) ?_ hHeld ?_
                  rotate_left
                  · (intro w hSw; (try dsimp only at hSw); go_simp; try with_reducible rfl)
                  simp only [Act.put, List.setIfInBounds_toArray, List.set_cons_zero, List.set_cons_succ]
                  refine take_at (i := 8) 146 (v := ?_) rfl rfl (by kernel_rfl) (by kernel_rfl) (by kernel_rfl) (fun _ _ _ h => h) (by rfl) ?_ hHeld ?_
                  rotate_left
                  · (intro w hSw; (try dsimp only at hSw); go_simp; try with_reducible rfl)
                  simp only [Act.put, List.setIfInBounds_toArray, List.set_cons_zero, List.set_cons_succ]
                  refine take_at (i := 10) 148 (v := ?_) rfl rfl (by kernel_rfl) (by kernel_rfl) (by kernel_rfl) (fun _ _ _ h => h) (by rfl) ?_ hHeld ?_
                  rotate_left
                  · (intro w hSw; (try dsimp only at hSw); go_simp; try with_reducible rfl)
                  simp only [Act.put, List.setIfInBounds_toArray, List.set_cons_zero, List.set_cons_succ]
                  refine wpAnyH_ready (rs := [2, 13]) (by kernel_rfl) (by simp) ?_
                  refine AllReadyH.cons (o := _) rfl (fun K hK => ?_) ?_
                  focus
                    rw [if_pos (by rfl)]
                    simp only [List.getElem_toArray, List.getElem_cons_zero, List.getElem_cons_succ]
                    go_simp
                    first | (go_at_call 13; refine Calls.mono (HRL.out _ (below_next HBB.out (by first | exact (Below.refl _ _).drew | exact al (Below.refl _ _).drew _ | exact (al (Below.refl _ _) _).drew))) ?_; rintro e u1 ⟨v1, o1, rfl, hw1, hL1, hh1, hl1, hb1⟩; have HW1 : Hid (Below wr.heap.size wr u1) := (by first | exact below_next (Below.refl _ _).drew hb1 | exact below_next (al (Below.refl _ _).drew _) hb1 | exact below_next (al (Below.refl _ _) _).drew hb1); have hS1 : Below wr.heap.size wr u1 := HW1.out; obtain ⟨a1, c1, e1, -, -, -, r1, -⟩ := OwnR.val hw1; subst e1; have HR11 : Hid (RdR u1 a1 o1) := r1; have HM1 : Hid (LPk l1 l2 i0 1 o1) := ⟨hL1, hh1⟩; clear hw1 r1 hl1 hL1 hh1; (try (have hG8 := (hb1.block _ (Array.getElem?_eq_some_iff.1 hG9.out).1).trans hG9.out; clear hG9; have hG9 : Hid _ := hG8; clear hG8)); clear hb1) | (go_at_call 14; refine Calls.mono (HRU.out _ (below_next HBB.out (by first | exact HW1.out | exact al HW1.out _))) ?_; rintro e u2 ⟨v2, o2, rfl, hw2, hL2, hh2, hl2, hb2⟩; have HW2 : Hid (Below wr.heap.size wr u2) := (by first | exact below_next HW1.out hb2 | exact below_next (al HW1.out _) hb2); have hS2 : Below wr.heap.size wr u2 := HW2.out; obtain ⟨a2, c2, e2, -, -, -, r2, -⟩ := OwnR.val hw2; subst e2; have HR22 : Hid (RdR u2 a2 o2) := r2; have HR21 : Hid (RdR u2 a1 o1) := RdR.below HR11.out (by first | exact hb2 | exact below_next (al (Below.refl _ _) _) hb2); have HM2 : Hid (LPk l1 l2 i0 2 o2) := ⟨hL2, hh2⟩; clear hw2 r2 hl2 hL2 hh2; (try (have hG8 := (hb2.block _ (Array.getElem?_eq_some_iff.1 hG9.out).1).trans hG9.out; clear hG9; have hG9 : Hid _ := hG8; clear hG8)); clear hb2) | (go_at_call 15; refine Calls.mono (HRA.out _ (below_next HBB.out (by first | exact HW2.out | exact al HW2.out _))) ?_; rintro e u3 ⟨v3, o3, rfl, hw3, hL3, hh3, hl3, hb3⟩; have HW3 : Hid (Below wr.heap.size wr u3) := (by first | exact below_next HW2.out hb3 | exact below_next (al HW2.out _) hb3); have hS3 : Below wr.heap.size wr u3 := HW3.out; obtain ⟨a3, c3, e3, -, -, -, r3, -⟩ := OwnR.val hw3; subst e3; have HR33 : Hid (RdR u3 a3 o3) := r3; have HR31 : Hid (RdR u3 a1 o1) := RdR.below HR21.out (by first | exact hb3 | exact below_next (al (Below.refl _ _) _) hb3); have HR32 : Hid (RdR u3 a2 o2) := RdR.below HR22.out (by first | exact hb3 | exact below_next (al (Below.refl _ _) _) hb3); have HM3 : Hid (LPk l1 l2 i0 3 o3) := ⟨hL3, hh3⟩; clear hw3 r3 hl3 hL3 hh3; (try (have hG8 := (hb3.block _ (Array.getElem?_eq_some_iff.1 hG9.out).1).trans hG9.out; clear hG9; have hG9 : Hid _ := hG8; clear hG8)); clear hb3) | (go_at_call 16; refine Calls.mono (HRM.out _ (below_next HBB.out (by first | exact HW3.out | exact al HW3.out _))) ?_; rintro e u4 ⟨v4, o4, rfl, hw4, hh4, hl4, hb4⟩; have HW4 : Hid (Below wr.heap.size wr u4) := (by first | exact below_next HW3.out hb4 | exact below_next (al HW3.out _) hb4); have hS4 : Below wr.heap.size wr u4 := HW4.out; obtain ⟨a4, c4, e4, -, -, -, r4, -⟩ := OwnR.val hw4; subst e4; have HR44 : Hid (RdR u4 a4 o4) := r4; have HR41 : Hid (RdR u4 a1 o1) := RdR.below HR31.out (by first | exact hb4 | exact below_next (al (Below.refl _ _) _) hb4); have HR42 : Hid (RdR u4 a2 o2) := RdR.below HR32.out (by first | exact hb4 | exact below_next (al (Below.refl _ _) _) hb4); have HR43 : Hid (RdR u4 a3 o3) := RdR.below HR33.out (by first | exact hb4 | exact below_next (al (Below.refl _ _) _) hb4); have HM4 : Hid (LPk l1 l2 i0 4 o4) := hh4; clear hw4 r4 hl4 hh4; (try (have hG8 := (hb4.block _ (Array.getElem?_eq_some_iff.1 hG9.out).1).trans hG9.out; clear hG9; have hG9 : Hid _ := hG8; clear hG8)); clear hb4)
                    go_wp2_with fail
                    refine hK.out _ _ (by with_reducible first | assumption | exact (Below.refl _ _).drew | exact al (Below.refl _ _).drew _ | exact (al (Below.refl _ _) _).drew | exact al (by assumption) _) ?_
                    clear hK K
                    intro hHeld2
                    clear hHeld
                    have hHeld := hHeld2
                    clear hHeld2
                    try simp only [Act.put, List.setIfInBounds_toArray, List.set_cons_zero, List.set_cons_succ]
                    refine wpAnyH_ready (rs := [6, 13]) (by kernel_rfl) (by simp) ?_
                    refine AllReadyH.cons (o := _) rfl (fun K hK => ?_) ?_
                    focus
                      rw [if_pos (by rfl)]
                      simp only [List.getElem_toArray, List.getElem_cons_zero, List.getElem_cons_succ]
                      go_simp
                      first | (go_at_call 13; refine Calls.mono (HRL.out _ (below_next HBB.out (by first | exact (Below.refl _ _).drew | exact al (Below.refl _ _).drew _ | exact (al (Below.refl _ _) _).drew))) ?_; rintro e u1 ⟨v1, o1, rfl, hw1, hL1, hh1, hl1, hb1⟩; have HW1 : Hid (Below wr.heap.size wr u1) := (by first | exact below_next (Below.refl _ _).drew hb1 | exact below_next (al (Below.refl _ _).drew _) hb1 | exact below_next (al (Below.refl _ _) _).drew hb1); have hS1 : Below wr.heap.size wr u1 := HW1.out; obtain ⟨a1, c1, e1, -, -, -, r1, -⟩ := OwnR.val hw1; subst e1; have HR11 : Hid (RdR u1 a1 o1) := r1; have HM1 : Hid (LPk l1 l2 i0 1 o1) := ⟨hL1, hh1⟩; clear hw1 r1 hl1 hL1 hh1; (try (have hG8 := (hb1.block _ (Array.getElem?_eq_some_iff.1 hG9.out).1).trans hG9.out; clear hG9; have hG9 : Hid _ := hG8; clear hG8)); clear hb1) | (go_at_call 14; refine Calls.mono (HRU.out _ (below_next HBB.out (by first | exact HW1.out | exact al HW1.out _))) ?_; rintro e u2 ⟨v2, o2, rfl, hw2, hL2, hh2, hl2, hb2⟩; have HW2 : Hid (Below wr.heap.size wr u2) := (by first | exact below_next HW1.out hb2 | exact below_next (al HW1.out _) hb2); have hS2 : Below wr.heap.size wr u2 := HW2.out; obtain ⟨a2, c2, e2, -, -, -, r2, -⟩ := OwnR.val hw2; subst e2; have HR22 : Hid (RdR u2 a2 o2) := r2; have HR21 : Hid (RdR u2 a1 o1) := RdR.below HR11.out (by first | exact hb2 | exact below_next (al (Below.refl _ _) _) hb2); have HM2 : Hid (LPk l1 l2 i0 2 o2) := ⟨hL2, hh2⟩; clear hw2 r2 hl2 hL2 hh2; (try (have hG8 := (hb2.block _ (Array.getElem?_eq_some_iff.1 hG9.out).1).trans hG9.out; clear hG9; have hG9 : Hid _ := hG8; clear hG8)); clear hb2) | (go_at_call 15; refine Calls.mono (HRA.out _ (below_next HBB.out (by first | exact HW2.out | exact al HW2.out _))) ?_; rintro e u3 ⟨v3, o3, rfl, hw3, hL3, hh3, hl3, hb3⟩; have HW3 : Hid (Below wr.heap.size wr u3) := (by first | exact below_next HW2.out hb3 | exact below_next (al HW2.out _) hb3); have hS3 : Below wr.heap.size wr u3 := HW3.out; obtain ⟨a3, c3, e3, -, -, -, r3, -⟩ := OwnR.val hw3; subst e3; have HR33 : Hid (RdR u3 a3 o3) := r3; have HR31 : Hid (RdR u3 a1 o1) := RdR.below HR21.out (by first | exact hb3 | exact below_next (al (Below.refl _ _) _) hb3); have HR32 : Hid (RdR u3 a2 o2) := RdR.below HR22.out (by first | exact hb3 | exact below_next (al (Below.refl _ _) _) hb3); have HM3 : Hid (LPk l1 l2 i0 3 o3) := ⟨hL3, hh3⟩; clear hw3 r3 hl3 hL3 hh3; (try (have hG8 := (hb3.block _ (Array.getElem?_eq_some_iff.1 hG9.out).1).trans hG9.out; clear hG9; have hG9 : Hid _ := hG8; clear hG8)); clear hb3) | (go_at_call 16; refine Calls.mono (HRM.out _ (below_next HBB.out (by first | exact HW3.out | exact al HW3.out _))) ?_; rintro e u4 ⟨v4, o4, rfl, hw4, hh4, hl4, hb4⟩; have HW4 : Hid (Below wr.heap.size wr u4) := (by first | exact below_next HW3.out hb4 | exact below_next (al HW3.out _) hb4); have hS4 : Below wr.heap.size wr u4 := HW4.out; obtain ⟨a4, c4, e4, -, -, -, r4, -⟩ := OwnR.val hw4; subst e4; have HR44 : Hid (RdR u4 a4 o4) := r4; have HR41 : Hid (RdR u4 a1 o1) := RdR.below HR31.out (by first | exact hb4 | exact below_next (al (Below.refl _ _) _) hb4); have HR42 : Hid (RdR u4 a2 o2) := RdR.below HR32.out (by first | exact hb4 | exact below_next (al (Below.refl _ _) _) hb4); have HR43 : Hid (RdR u4 a3 o3) := RdR.below HR33.out (by first | exact hb4 | exact below_next (al (Below.refl _ _) _) hb4); have HM4 : Hid (LPk l1 l2 i0 4 o4) := hh4; clear hw4 r4 hl4 hh4; (try (have hG8 := (hb4.block _ (Array.getElem?_eq_some_iff.1 hG9.out).1).trans hG9.out; clear hG9; have hG9 : Hid _ := hG8; clear hG8)); clear hb4)
                      go_wp2_with fail
                      refine hK.out _ _ (by with_reducible first | assumption | exact (Below.refl _ _).drew | exact al (Below.refl _ _).drew _ | exact (al (Below.refl _ _) _).drew | exact al (by assumption) _) ?_
                      clear hK K
                      intro hHeld2
                      clear hHeld
                      have hHeld := hHeld2
                      clear hHeld2
                      try simp only [Act.put, List.setIfInBounds_toArray, List.set_cons_zero, List.set_cons_succ]
                      refine wpAnyH_ready (rs := [9, 13]) (by kernel_rfl) (by simp) ?_
                      refine AllReadyH.cons (o := _) rfl (fun K hK => ?_) ?_
                      focus
                        rw [if_pos (by rfl)]
                        simp only [List.getElem_toArray, List.getElem_cons_zero, List.getElem_cons_succ]
                        go_simp
                        first | (go_at_call 13; refine Calls.mono (HRL.out _ (below_next HBB.out (by first | exact (Below.refl _ _).drew | exact al (Below.refl _ _).drew _ | exact (al (Below.refl _ _) _).drew))) ?_; rintro e u1 ⟨v1, o1, rfl, hw1, hL1, hh1, hl1, hb1⟩; have HW1 : Hid (Below wr.heap.size wr u1) := (by first | exact below_next (Below.refl _ _).drew hb1 | exact below_next (al (Below.refl _ _).drew _) hb1 | exact below_next (al (Below.refl _ _) _).drew hb1); have hS1 : Below wr.heap.size wr u1 := HW1.out; obtain ⟨a1, c1, e1, -, -, -, r1, -⟩ := OwnR.val hw1; subst e1; have HR11 : Hid (RdR u1 a1 o1) := r1; have HM1 : Hid (LPk l1 l2 i0 1 o1) := ⟨hL1, hh1⟩; clear hw1 r1 hl1 hL1 hh1; (try (have hG8 := (hb1.block _ (Array.getElem?_eq_some_iff.1 hG9.out).1).trans hG9.out; clear hG9; have hG9 : Hid _ := hG8; clear hG8)); clear hb1) | (go_at_call 14; refine Calls.mono (HRU.out _ (below_next HBB.out (by first | exact HW1.out | exact al HW1.out _))) ?_; rintro e u2 ⟨v2, o2, rfl, hw2, hL2, hh2, hl2, hb2⟩; have HW2 : Hid (Below wr.heap.size wr u2) := (by first | exact below_next HW1.out hb2 | exact below_next (al HW1.out _) hb2); have hS2 : Below wr.heap.size wr u2 := HW2.out; obtain ⟨a2, c2, e2, -, -, -, r2, -⟩ := OwnR.val hw2; subst e2; have HR22 : Hid (RdR u2 a2 o2) := r2; have HR21 : Hid (RdR u2 a1 o1) := RdR.below HR11.out (by first | exact hb2 | exact below_next (al (Below.refl _ _) _) hb2); have HM2 : Hid (LPk l1 l2 i0 2 o2) := ⟨hL2, hh2⟩; clear hw2 r2 hl2 hL2 hh2; (try (have hG8 := (hb2.block _ (Array.getElem?_eq_some_iff.1 hG9.out).1).trans hG9.out; clear hG9; have hG9 : Hid _ := hG8; clear hG8)); clear hb2) | (go_at_call 15; refine Calls.mono (HRA.out _ (below_next HBB.out (by first | exact HW2.out | exact al HW2.out _))) ?_; rintro e u3 ⟨v3, o3, rfl, hw3, hL3, hh3, hl3, hb3⟩; have HW3 : Hid (Below wr.heap.size wr u3) := (by first | exact below_next HW2.out hb3 | exact below_next (al HW2.out _) hb3); have hS3 : Below wr.heap.size wr u3 := HW3.out; obtain ⟨a3, c3, e3, -, -, -, r3, -⟩ := OwnR.val hw3; subst e3; have HR33 : Hid (RdR u3 a3 o3) := r3; have HR31 : Hid (RdR u3 a1 o1) := RdR.below HR21.out (by first | exact hb3 | exact below_next (al (Below.refl _ _) _) hb3); have HR32 : Hid (RdR u3 a2 o2) := RdR.below HR22.out (by first | exact hb3 | exact below_next (al (Below.refl _ _) _) hb3); have HM3 : Hid (LPk l1 l2 i0 3 o3) := ⟨hL3, hh3⟩; clear hw3 r3 hl3 hL3 hh3; (try (have hG8 := (hb3.block _ (Array.getElem?_eq_some_iff.1 hG9.out).1).trans hG9.out; clear hG9; have hG9 : Hid _ := hG8; clear hG8)); clear hb3) | (go_at_call 16; refine Calls.mono (HRM.out _ (below_next HBB.out (by first | exact HW3.out | exact al HW3.out _))) ?_; rintro e u4 ⟨v4, o4, rfl, hw4, hh4, hl4, hb4⟩; have HW4 : Hid (Below wr.heap.size wr u4) := (by first | exact below_next HW3.out hb4 | exact below_next (al HW3.out _) hb4); have hS4 : Below wr.heap.size wr u4 := HW4.out; obtain ⟨a4, c4, e4, -, -, -, r4, -⟩ := OwnR.val hw4; subst e4; have HR44 : Hid (RdR u4 a4 o4) := r4; have HR41 : Hid (RdR u4 a1 o1) := RdR.below HR31.out (by first | exact hb4 | exact below_next (al (Below.refl _ _) _) hb4); have HR42 : Hid (RdR u4 a2 o2) := RdR.below HR32.out (by first | exact hb4 | exact below_next (al (Below.refl _ _) _) hb4); have HR43 : Hid (RdR u4 a3 o3) := RdR.below HR33.out (by first | exact hb4 | exact below_next (al (Below.refl _ _) _) hb4); have HM4 : Hid (LPk l1 l2 i0 4 o4) := hh4; clear hw4 r4 hl4 hh4; (try (have hG8 := (hb4.block _ (Array.getElem?_eq_some_iff.1 hG9.out).1).trans hG9.out; clear hG9; have hG9 : Hid _ := hG8; clear hG8)); clear hb4)
                        go_wp2_with fail
                        refine hK.out _ _ (by with_reducible first | assumption | exact (Below.refl _ _).drew | exact al (Below.refl _ _).drew _ | exact (al (Below.refl _ _) _).drew | exact al (by assumption) _) ?_
                        clear hK K
                        intro hHeld2
                        clear hHeld
                        have hHeld := hHeld2
                        clear hHeld2
                        try simp only [Act.put, List.setIfInBounds_toArray, List.set_cons_zero, List.set_cons_succ]
                        refine wpAnyH_ready (rs := [11, 13]) (by kernel_rfl) (by simp) ?_
                        refine AllReadyH.cons (o := _) rfl (fun K hK => ?_) ?_
                        focus
                          rw [if_pos (by rfl)]
                          simp only [List.getElem_toArray, List.getElem_cons_zero, List.getElem_cons_succ]
                          go_simp
                          first | (go_at_call 13; refine Calls.mono (HRL.out _ (below_next HBB.out (by first | exact (Below.refl _ _).drew | exact al (Below.refl _ _).drew _ | exact (al (Below.refl _ _) _).drew))) ?_; rintro e u1 ⟨v1, o1, rfl, hw1, hL1, hh1, hl1, hb1⟩; have HW1 : Hid (Below wr.heap.size wr u1) := (by first | exact below_next (Below.refl _ _).drew hb1 | exact below_next (al (Below.refl _ _).drew _) hb1 | exact below_next (al (Below.refl _ _) _).drew hb1); have hS1 : Below wr.heap.size wr u1 := HW1.out; obtain ⟨a1, c1, e1, -, -, -, r1, -⟩ := OwnR.val hw1; subst e1; have HR11 : Hid (RdR u1 a1 o1) := r1; have HM1 : Hid (LPk l1 l2 i0 1 o1) := ⟨hL1, hh1⟩; clear hw1 r1 hl1 hL1 hh1; (try (have hG8 := (hb1.block _ (Array.getElem?_eq_some_iff.1 hG9.out).1).trans hG9.out; clear hG9; have hG9 : Hid _ := hG8; clear hG8)); clear hb1) | (go_at_call 14; refine Calls.mono (HRU.out _ (below_next HBB.out (by first | exact HW1.out | exact al HW1.out _))) ?_; rintro e u2 ⟨v2, o2, rfl, hw2, hL2, hh2, hl2, hb2⟩; have HW2 : Hid (Below wr.heap.size wr u2) := (by first | exact below_next HW1.out hb2 | exact below_next (al HW1.out _) hb2); have hS2 : Below wr.heap.size wr u2 := HW2.out; obtain ⟨a2, c2, e2, -, -, -, r2, -⟩ := OwnR.val hw2; subst e2; have HR22 : Hid (RdR u2 a2 o2) := r2; have HR21 : Hid (RdR u2 a1 o1) := RdR.below HR11.out (by first | exact hb2 | exact below_next (al (Below.refl _ _) _) hb2); have HM2 : Hid (LPk l1 l2 i0 2 o2) := ⟨hL2, hh2⟩; clear hw2 r2 hl2 hL2 hh2; (try (have hG8 := (hb2.block _ (Array.getElem?_eq_some_iff.1 hG9.out).1).trans hG9.out; clear hG9; have hG9 : Hid _ := hG8; clear hG8)); clear hb2) | (go_at_call 15; refine Calls.mono (HRA.out _ (below_next HBB.out (by first | exact HW2.out | exact al HW2.out _))) ?_; rintro e u3 ⟨v3, o3, rfl, hw3, hL3, hh3, hl3, hb3⟩; have HW3 : Hid (Below wr.heap.size wr u3) := (by first | exact below_next HW2.out hb3 | exact below_next (al HW2.out _) hb3); have hS3 : Below wr.heap.size wr u3 := HW3.out; obtain ⟨a3, c3, e3, -, -, -, r3, -⟩ := OwnR.val hw3; subst e3; have HR33 : Hid (RdR u3 a3 o3) := r3; have HR31 : Hid (RdR u3 a1 o1) := RdR.below HR21.out (by first | exact hb3 | exact below_next (al (Below.refl _ _) _) hb3); have HR32 : Hid (RdR u3 a2 o2) := RdR.below HR22.out (by first | exact hb3 | exact below_next (al (Below.refl _ _) _) hb3); have HM3 : Hid (LPk l1 l2 i0 3 o3) := ⟨hL3, hh3⟩; clear hw3 r3 hl3 hL3 hh3; (try (have hG8 := (hb3.block _ (Array.getElem?_eq_some_iff.1 hG9.out).1).trans hG9.out; clear hG9; have hG9 : Hid _ := hG8; clear hG8)); clear hb3) | (go_at_call 16; refine Calls.mono (HRM.out _ (below_next HBB.out (by first | exact HW3.out | exact al HW3.out _))) ?_; rintro e u4 ⟨v4, o4, rfl, hw4, hh4, hl4, hb4⟩; have HW4 : Hid (Below wr.heap.size wr u4) := (by first | exact below_next HW3.out hb4 | exact below_next (al HW3.out _) hb4); have hS4 : Below wr.heap.size wr u4 := HW4.out; obtain ⟨a4, c4, e4, -, -, -, r4, -⟩ := OwnR.val hw4; subst e4; have HR44 : Hid (RdR u4 a4 o4) := r4; have HR41 : Hid (RdR u4 a1 o1) := RdR.below HR31.out (by first | exact hb4 | exact below_next (al (Below.refl _ _) _) hb4); have HR42 : Hid (RdR u4 a2 o2) := RdR.below HR32.out (by first | exact hb4 | exact below_next (al (Below.refl _ _) _) hb4); have HR43 : Hid (RdR u4 a3 o3) := RdR.below HR33.out (by first | exact hb4 | exact below_next (al (Below.refl _ _) _) hb4); have HM4 : Hid (LPk l1 l2 i0 4 o4) := hh4; clear hw4 r4 hl4 hh4; (try (have hG8 := (hb4.block _ (Array.getElem?_eq_some_iff.1 hG9.out).1).trans hG9.out; clear hG9; have hG9 : Hid _ := hG8; clear hG8)); clear hb4)
                          go_wp2_with fail
                          refine hK.out _ _ (by with_reducible first | assumption | exact (Below.refl _ _).drew | exact al (Below.refl _ _).drew _ | exact (al (Below.refl _ _) _).drew | exact al (by assumption) _) ?_
                          clear hK K
                          intro hHeld2
                          clear hHeld
                          have hHeld := hHeld2
                          clear hHeld2
                          try simp only [Act.put, List.setIfInBounds_toArray, List.set_cons_zero, List.set_cons_succ]
                          refine take_at (i := 12) 150 (v := ?_) rfl rfl (by kernel_rfl) (by kernel_rfl) (by kernel_rfl) (fun _ _ _ h => h) (by rfl) ?_ hHeld ?_
                          rotate_left
                          · (intro w hSw; (try dsimp only at hSw); go_simp; try with_reducible rfl)
                          simp only [Act.put, List.setIfInBounds_toArray, List.set_cons_zero, List.set_cons_succ]
                          refine run_at (i := 13) rfl (by kernel_rfl) (by rfl) (fun K hK => ?_)
                          simp only [List.getElem_toArray, List.getElem_cons_zero, List.getElem_cons_succ]
                          go_simp
                          go_wp2_with fail
                          refine hK.out _ _ (by with_reducible first | assumption | exact (Below.refl _ _).drew | exact al (Below.refl _ _).drew _ | exact (al (Below.refl _ _) _).drew | exact al (by assumption) _) ?_
                          clear hK K
                          intro hHeld2
                          clear hHeld
                          have hHeld := hHeld2
                          clear hHeld2
                          try simp only [Act.put, List.setIfInBounds_toArray, List.set_cons_zero, List.set_cons_succ]
                          (first | (have hG9 : Hid _ := alloc_at hHeld) | (have hG9 : Hid _ := alloc_atd hHeld))
                          refine run_at (i := 14) rfl (by kernel_rfl) (by rfl) (fun K hK => ?_)
                          simp only [List.getElem_toArray, List.getElem_cons_zero, List.getElem_cons_succ]
                          (refine wpo_store5 (W := wr) _ _ rfl _ _ _ _ _ _ (by rfl) (by rfl) (by simp [Value.oneCell']) _ _ _ _ _ _ hG9.out (by first | exact HW4.out | exact al HW4.out _) (by first | exact Nat.le_refl _ | exact HW1.out.size | exact HW2.out.size | exact HW3.out.size | exact HW4.out.size) ?_; intro z9 hz9 hc9 hg9; have HC9 : Hid _ := hc9; have HZ9 : Hid (Below wr.heap.size wr z9) := hz9; have HR91 : Hid (RdR z9 a1 o1) := (by first | exact RdR.st5 HR41.out hG9.out hg9 | exact RdR.st5 (RdR.below HR41.out (al (Below.refl _ _) _)) hG9.out hg9); have HR92 : Hid (RdR z9 a2 o2) := (by first | exact RdR.st5 HR42.out hG9.out hg9 | exact RdR.st5 (RdR.below HR42.out (al (Below.refl _ _) _)) hG9.out hg9); have HR93 : Hid (RdR z9 a3 o3) := (by first | exact RdR.st5 HR43.out hG9.out hg9 | exact RdR.st5 (RdR.below HR43.out (al (Below.refl _ _) _)) hG9.out hg9); have HR94 : Hid (RdR z9 a4 o4) := (by first | exact RdR.st5 HR44.out hG9.out hg9 | exact RdR.st5 (RdR.below HR44.out (al (Below.refl _ _) _)) hG9.out hg9); clear hc9 hg9 hG9)
                          refine hK.out _ _ (by with_reducible first | assumption | exact (Below.refl _ _).drew | exact al (Below.refl _ _).drew _ | exact (al (Below.refl _ _) _).drew | exact al (by assumption) _) ?_
                          clear hK K
                          intro hHeld2
                          clear hHeld
                          have hHeld := hHeld2
                          clear hHeld2
                          try simp only [Act.put, List.setIfInBounds_toArray, List.set_cons_zero, List.set_cons_succ]
                          refine wpAnyH_done (by kernel_rfl) ?_ _
                          refine NoPanic.normal ?_
                        rotate_left 1
                        refine AllReadyH.cons (o := _) rfl (fun K hK => ?_) AllReadyH.nil
                        focus
                          rw [if_pos (by rfl)]
                          simp only [List.getElem_toArray, List.getElem_cons_zero, List.getElem_cons_succ]
                          go_simp
                          go_wp2_with fail
                          refine hK.out _ _ (by with_reducible first | assumption | exact (Below.refl _ _).drew | exact al (Below.refl _ _).drew _ | exact (al (Below.refl _ _) _).drew | exact al (by assumption) _) ?_
                          clear hK K
                          intro hHeld2
                          clear hHeld
                          have hHeld := hHeld2
                          clear hHeld2
                          try simp only [Act.put, List.setIfInBounds_toArray, List.set_cons_zero, List.set_cons_succ]
                          (first | (have hG9 : Hid _ := alloc_at hHeld) | (have hG9 : Hid _ := alloc_atd hHeld))
                          refine run_at (i := 11) rfl (by kernel_rfl) (by rfl) (fun K hK => ?_)
                          simp only [List.getElem_toArray, List.getElem_cons_zero, List.getElem_cons_succ]
                          go_simp
                          first | (go_at_call 13; refine Calls.mono (HRL.out _ (below_next HBB.out (by first | exact (Below.refl _ _).drew | exact al (Below.refl _ _).drew _ | exact (al (Below.refl _ _) _).drew))) ?_; rintro e u1 ⟨v1, o1, rfl, hw1, hL1, hh1, hl1, hb1⟩; have HW1 : Hid (Below wr.heap.size wr u1) := (by first | exact below_next (Below.refl _ _).drew hb1 | exact below_next (al (Below.refl _ _).drew _) hb1 | exact below_next (al (Below.refl _ _) _).drew hb1); have hS1 : Below wr.heap.size wr u1 := HW1.out; obtain ⟨a1, c1, e1, -, -, -, r1, -⟩ := OwnR.val hw1; subst e1; have HR11 : Hid (RdR u1 a1 o1) := r1; have HM1 : Hid (LPk l1 l2 i0 1 o1) := ⟨hL1, hh1⟩; clear hw1 r1 hl1 hL1 hh1; (try (have hG8 := (hb1.block _ (Array.getElem?_eq_some_iff.1 hG9.out).1).trans hG9.out; clear hG9; have hG9 : Hid _ := hG8; clear hG8)); clear hb1) | (go_at_call 14; refine Calls.mono (HRU.out _ (below_next HBB.out (by first | exact HW1.out | exact al HW1.out _))) ?_; rintro e u2 ⟨v2, o2, rfl, hw2, hL2, hh2, hl2, hb2⟩; have HW2 : Hid (Below wr.heap.size wr u2) := (by first | exact below_next HW1.out hb2 | exact below_next (al HW1.out _) hb2); have hS2 : Below wr.heap.size wr u2 := HW2.out; obtain ⟨a2, c2, e2, -, -, -, r2, -⟩ := OwnR.val hw2; subst e2; have HR22 : Hid (RdR u2 a2 o2) := r2; have HR21 : Hid (RdR u2 a1 o1) := RdR.below HR11.out (by first | exact hb2 | exact below_next (al (Below.refl _ _) _) hb2); have HM2 : Hid (LPk l1 l2 i0 2 o2) := ⟨hL2, hh2⟩; clear hw2 r2 hl2 hL2 hh2; (try (have hG8 := (hb2.block _ (Array.getElem?_eq_some_iff.1 hG9.out).1).trans hG9.out; clear hG9; have hG9 : Hid _ := hG8; clear hG8)); clear hb2) | (go_at_call 15; refine Calls.mono (HRA.out _ (below_next HBB.out (by first | exact HW2.out | exact al HW2.out _))) ?_; rintro e u3 ⟨v3, o3, rfl, hw3, hL3, hh3, hl3, hb3⟩; have HW3 : Hid (Below wr.heap.size wr u3) := (by first | exact below_next HW2.out hb3 | exact below_next (al HW2.out _) hb3); have hS3 : Below wr.heap.size wr u3 := HW3.out; obtain ⟨a3, c3, e3, -, -, -, r3, -⟩ := OwnR.val hw3; subst e3; have HR33 : Hid (RdR u3 a3 o3) := r3; have HR31 : Hid (RdR u3 a1 o1) := RdR.below HR21.out (by first | exact hb3 | exact below_next (al (Below.refl _ _) _) hb3); have HR32 : Hid (RdR u3 a2 o2) := RdR.below HR22.out (by first | exact hb3 | exact below_next (al (Below.refl _ _) _) hb3); have HM3 : Hid (LPk l1 l2 i0 3 o3) := ⟨hL3, hh3⟩; clear hw3 r3 hl3 hL3 hh3; (try (have hG8 := (hb3.block _ (Array.getElem?_eq_some_iff.1 hG9.out).1).trans hG9.out; clear hG9; have hG9 : Hid _ := hG8; clear hG8)); clear hb3) | (go_at_call 16; refine Calls.mono (HRM.out _ (below_next HBB.out (by first | exact HW3.out | exact al HW3.out _))) ?_; rintro e u4 ⟨v4, o4, rfl, hw4, hh4, hl4, hb4⟩; have HW4 : Hid (Below wr.heap.size wr u4) := (by first | exact below_next HW3.out hb4 | exact below_next (al HW3.out _) hb4); have hS4 : Below wr.heap.size wr u4 := HW4.out; obtain ⟨a4, c4, e4, -, -, -, r4, -⟩ := OwnR.val hw4; subst e4; have HR44 : Hid (RdR u4 a4 o4) := r4; have HR41 : Hid (RdR u4 a1 o1) := RdR.below HR31.out (by first | exact hb4 | exact below_next (al (Below.refl _ _) _) hb4); have HR42 : Hid (RdR u4 a2 o2) := RdR.below HR32.out (by first | exact hb4 | exact below_next (al (Below.refl _ _) _) hb4); have HR43 : Hid (RdR u4 a3 o3) := RdR.below HR33.out (by first | exact hb4 | exact below_next (al (Below.refl _ _) _) hb4); have HM4 : Hid (LPk l1 l2 i0 4 o4) := hh4; clear hw4 r4 hl4 hh4; (try (have hG8 := (hb4.block _ (Array.getElem?_eq_some_iff.1 hG9.out).1).trans hG9.out; clear hG9; have hG9 : Hid _ := hG8; clear hG8)); clear hb4)
                          go_wp2_with fail
                          refine hK.out _ _ (by with_reducible first | assumption | exact (Below.refl _ _).drew | exact al (Below.refl _ _).drew _ | exact (al (Below.refl _ _) _).drew | exact al (by assumption) _) ?_
                          clear hK K
                          intro hHeld2
                          clear hHeld
                          have hHeld := hHeld2
                          clear hHeld2
                          try simp only [Act.put, List.setIfInBounds_toArray, List.set_cons_zero, List.set_cons_succ]
                          refine take_at (i := 12) 150 (v := ?_) rfl rfl (by kernel_rfl) (by kernel_rfl) (by kernel_rfl) (fun _ _ _ h => h) (by rfl) ?_ hHeld ?_
                          rotate_left
                          · (intro w hSw; (try dsimp only at hSw); go_simp; try with_reducible rfl)
                          simp only [Act.put, List.setIfInBounds_toArray, List.set_cons_zero, List.set_cons_succ]
                          refine run_at (i := 14) rfl (by kernel_rfl) (by rfl) (fun K hK => ?_)
                          simp only [List.getElem_toArray, List.getElem_cons_zero, List.getElem_cons_succ]
                          (refine wpo_store5 (W := wr) _ _ rfl _ _ _ _ _ _ (by rfl) (by rfl) (by simp [Value.oneCell']) _ _ _ _ _ _ hG9.out (by first | exact HW4.out | exact al HW4.out _) (by first | exact Nat.le_refl _ | exact HW1.out.size | exact HW2.out.size | exact HW3.out.size | exact HW4.out.size) ?_; intro z9 hz9 hc9 hg9; have HC9 : Hid _ := hc9; have HZ9 : Hid (Below wr.heap.size wr z9) := hz9; have HR91 : Hid (RdR z9 a1 o1) := (by first | exact RdR.st5 HR41.out hG9.out hg9 | exact RdR.st5 (RdR.below HR41.out (al (Below.refl _ _) _)) hG9.out hg9); have HR92 : Hid (RdR z9 a2 o2) := (by first | exact RdR.st5 HR42.out hG9.out hg9 | exact RdR.st5 (RdR.below HR42.out (al (Below.refl _ _) _)) hG9.out hg9); have HR93 : Hid (RdR z9 a3 o3) := (by first | exact RdR.st5 HR43.out hG9.out hg9 | exact RdR.st5 (RdR.below HR43.out (al (Below.refl _ _) _)) hG9.out hg9); have HR94 : Hid (RdR z9 a4 o4) := (by first | exact RdR.st5 HR44.out hG9.out hg9 | exact RdR.st5 (RdR.below HR44.out (al (Below.refl _ _) _)) hG9.out hg9); clear hc9 hg9 hG9)
                          refine hK.out _ _ (by with_reducible first | assumption | exact (Below.refl _ _).drew | exact al (Below.refl _ _).drew _ | exact (al (Below.refl _ _) _).drew | exact al (by assumption) _) ?_
                          clear hK K
                          intro hHeld2
                          clear hHeld
                          have hHeld := hHeld2
                          clear hHeld2
                          try simp only [Act.put, List.setIfInBounds_toArray, List.set_cons_zero, List.set_cons_succ]
                          refine wpAnyH_done (by kernel_rfl) ?_ _
                          refine NoPanic.normal ?_
                      rotate_left 2
                      refine AllReadyH.cons (o := _) rfl (fun K hK => ?_) AllReadyH.nil
                      focus
                        rw [if_pos (by rfl)]
                        simp only [List.getElem_toArray, List.getElem_cons_zero, List.getElem_cons_succ]
                        go_simp
                        go_wp2_with fail
                        refine hK.out _ _ (by with_reducible first | assumption | exact (Below.refl _ _).drew | exact al (Below.refl _ _).drew _ | exact (al (Below.refl _ _) _).drew | exact al (by assumption) _) ?_
                        clear hK K
                        intro hHeld2
                        clear hHeld
                        have hHeld := hHeld2
                        clear hHeld2
                        try simp only [Act.put, List.setIfInBounds_toArray, List.set_cons_zero, List.set_cons_succ]
                        (first | (have hG9 : Hid _ := alloc_at hHeld) | (have hG9 : Hid _ := alloc_atd hHeld))
                        refine run_at (i := 9) rfl (by kernel_rfl) (by rfl) (fun K hK => ?_)
                        simp only [List.getElem_toArray, List.getElem_cons_zero, List.getElem_cons_succ]
                        go_simp
                        first | (go_at_call 13; refine Calls.mono (HRL.out _ (below_next HBB.out (by first | exact (Below.refl _ _).drew | exact al (Below.refl _ _).drew _ | exact (al (Below.refl _ _) _).drew))) ?_; rintro e u1 ⟨v1, o1, rfl, hw1, hL1, hh1, hl1, hb1⟩; have HW1 : Hid (Below wr.heap.size wr u1) := (by first | exact below_next (Below.refl _ _).drew hb1 | exact below_next (al (Below.refl _ _).drew _) hb1 | exact below_next (al (Below.refl _ _) _).drew hb1); have hS1 : Below wr.heap.size wr u1 := HW1.out; obtain ⟨a1, c1, e1, -, -, -, r1, -⟩ := OwnR.val hw1; subst e1; have HR11 : Hid (RdR u1 a1 o1) := r1; have HM1 : Hid (LPk l1 l2 i0 1 o1) := ⟨hL1, hh1⟩; clear hw1 r1 hl1 hL1 hh1; (try (have hG8 := (hb1.block _ (Array.getElem?_eq_some_iff.1 hG9.out).1).trans hG9.out; clear hG9; have hG9 : Hid _ := hG8; clear hG8)); clear hb1) | (go_at_call 14; refine Calls.mono (HRU.out _ (below_next HBB.out (by first | exact HW1.out | exact al HW1.out _))) ?_; rintro e u2 ⟨v2, o2, rfl, hw2, hL2, hh2, hl2, hb2⟩; have HW2 : Hid (Below wr.heap.size wr u2) := (by first | exact below_next HW1.out hb2 | exact below_next (al HW1.out _) hb2); have hS2 : Below wr.heap.size wr u2 := HW2.out; obtain ⟨a2, c2, e2, -, -, -, r2, -⟩ := OwnR.val hw2; subst e2; have HR22 : Hid (RdR u2 a2 o2) := r2; have HR21 : Hid (RdR u2 a1 o1) := RdR.below HR11.out (by first | exact hb2 | exact below_next (al (Below.refl _ _) _) hb2); have HM2 : Hid (LPk l1 l2 i0 2 o2) := ⟨hL2, hh2⟩; clear hw2 r2 hl2 hL2 hh2; (try (have hG8 := (hb2.block _ (Array.getElem?_eq_some_iff.1 hG9.out).1).trans hG9.out; clear hG9; have hG9 : Hid _ := hG8; clear hG8)); clear hb2) | (go_at_call 15; refine Calls.mono (HRA.out _ (below_next HBB.out (by first | exact HW2.out | exact al HW2.out _))) ?_; rintro e u3 ⟨v3, o3, rfl, hw3, hL3, hh3, hl3, hb3⟩; have HW3 : Hid (Below wr.heap.size wr u3) := (by first | exact below_next HW2.out hb3 | exact below_next (al HW2.out _) hb3); have hS3 : Below wr.heap.size wr u3 := HW3.out; obtain ⟨a3, c3, e3, -, -, -, r3, -⟩ := OwnR.val hw3; subst e3; have HR33 : Hid (RdR u3 a3 o3) := r3; have HR31 : Hid (RdR u3 a1 o1) := RdR.below HR21.out (by first | exact hb3 | exact below_next (al (Below.refl _ _) _) hb3); have HR32 : Hid (RdR u3 a2 o2) := RdR.below HR22.out (by first | exact hb3 | exact below_next (al (Below.refl _ _) _) hb3); have HM3 : Hid (LPk l1 l2 i0 3 o3) := ⟨hL3, hh3⟩; clear hw3 r3 hl3 hL3 hh3; (try (have hG8 := (hb3.block _ (Array.getElem?_eq_some_iff.1 hG9.out).1).trans hG9.out; clear hG9; have hG9 : Hid _ := hG8; clear hG8)); clear hb3) | (go_at_call 16; refine Calls.mono (HRM.out _ (below_next HBB.out (by first | exact HW3.out | exact al HW3.out _))) ?_; rintro e u4 ⟨v4, o4, rfl, hw4, hh4, hl4, hb4⟩; have HW4 : Hid (Below wr.heap.size wr u4) := (by first | exact below_next HW3.out hb4 | exact below_next (al HW3.out _) hb4); have hS4 : Below wr.heap.size wr u4 := HW4.out; obtain ⟨a4, c4, e4, -, -, -, r4, -⟩ := OwnR.val hw4; subst e4; have HR44 : Hid (RdR u4 a4 o4) := r4; have HR41 : Hid (RdR u4 a1 o1) := RdR.below HR31.out (by first | exact hb4 | exact below_next (al (Below.refl _ _) _) hb4); have HR42 : Hid (RdR u4 a2 o2) := RdR.below HR32.out (by first | exact hb4 | exact below_next (al (Below.refl _ _) _) hb4); have HR43 : Hid (RdR u4 a3 o3) := RdR.below HR33.out (by first | exact hb4 | exact below_next (al (Below.refl _ _) _) hb4); have HM4 : Hid (LPk l1 l2 i0 4 o4) := hh4; clear hw4 r4 hl4 hh4; (try (have hG8 := (hb4.block _ (Array.getElem?_eq_some_iff.1 hG9.out).1).trans hG9.out; clear hG9; have hG9 : Hid _ := hG8; clear hG8)); clear hb4)
                        go_wp2_with fail
                        refine hK.out _ _ (by with_reducible first | assumption | exact (Below.refl _ _).drew | exact al (Below.refl _ _).drew _ | exact (al (Below.refl _ _) _).drew | exact al (by assumption) _) ?_
                        clear hK K
                        intro hHeld2
                        clear hHeld
                        have hHeld := hHeld2
                        clear hHeld2
                        try simp only [Act.put, List.setIfInBounds_toArray, List.set_cons_zero, List.set_cons_succ]
                        refine run_at (i := 11) rfl (by kernel_rfl) (by rfl) (fun K hK => ?_)
                        simp only [List.getElem_toArray, List.getElem_cons_zero, List.getElem_cons_succ]
                        go_simp
                        first | (go_at_call 13; refine Calls.mono (HRL.out _ (below_next HBB.out (by first | exact (Below.refl _ _).drew | exact al (Below.refl _ _).drew _ | exact (al (Below.refl _ _) _).drew))) ?_; rintro e u1 ⟨v1, o1, rfl, hw1, hL1, hh1, hl1, hb1⟩; have HW1 : Hid (Below wr.heap.size wr u1) := (by first | exact below_next (Below.refl _ _).drew hb1 | exact below_next (al (Below.refl _ _).drew _) hb1 | exact below_next (al (Below.refl _ _) _).drew hb1); have hS1 : Below wr.heap.size wr u1 := HW1.out; obtain ⟨a1, c1, e1, -, -, -, r1, -⟩ := OwnR.val hw1; subst e1; have HR11 : Hid (RdR u1 a1 o1) := r1; have HM1 : Hid (LPk l1 l2 i0 1 o1) := ⟨hL1, hh1⟩; clear hw1 r1 hl1 hL1 hh1; (try (have hG8 := (hb1.block _ (Array.getElem?_eq_some_iff.1 hG9.out).1).trans hG9.out; clear hG9; have hG9 : Hid _ := hG8; clear hG8)); clear hb1) | (go_at_call 14; refine Calls.mono (HRU.out _ (below_next HBB.out (by first | exact HW1.out | exact al HW1.out _))) ?_; rintro e u2 ⟨v2, o2, rfl, hw2, hL2, hh2, hl2, hb2⟩; have HW2 : Hid (Below wr.heap.size wr u2) := (by first | exact below_next HW1.out hb2 | exact below_next (al HW1.out _) hb2); have hS2 : Below wr.heap.size wr u2 := HW2.out; obtain ⟨a2, c2, e2, -, -, -, r2, -⟩ := OwnR.val hw2; subst e2; have HR22 : Hid (RdR u2 a2 o2) := r2; have HR21 : Hid (RdR u2 a1 o1) := RdR.below HR11.out (by first | exact hb2 | exact below_next (al (Below.refl _ _) _) hb2); have HM2 : Hid (LPk l1 l2 i0 2 o2) := ⟨hL2, hh2⟩; clear hw2 r2 hl2 hL2 hh2; (try (have hG8 := (hb2.block _ (Array.getElem?_eq_some_iff.1 hG9.out).1).trans hG9.out; clear hG9; have hG9 : Hid _ := hG8; clear hG8)); clear hb2) | (go_at_call 15; refine Calls.mono (HRA.out _ (below_next HBB.out (by first | exact HW2.out | exact al HW2.out _))) ?_; rintro e u3 ⟨v3, o3, rfl, hw3, hL3, hh3, hl3, hb3⟩; have HW3 : Hid (Below wr.heap.size wr u3) := (by first | exact below_next HW2.out hb3 | exact below_next (al HW2.out _) hb3); have hS3 : Below wr.heap.size wr u3 := HW3.out; obtain ⟨a3, c3, e3, -, -, -, r3, -⟩ := OwnR.val hw3; subst e3; have HR33 : Hid (RdR u3 a3 o3) := r3; have HR31 : Hid (RdR u3 a1 o1) := RdR.below HR21.out (by first | exact hb3 | exact below_next (al (Below.refl _ _) _) hb3); have HR32 : Hid (RdR u3 a2 o2) := RdR.below HR22.out (by first | exact hb3 | exact below_next (al (Below.refl _ _) _) hb3); have HM3 : Hid (LPk l1 l2 i0 3 o3) := ⟨hL3, hh3⟩; clear hw3 r3 hl3 hL3 hh3; (try (have hG8 := (hb3.block _ (Array.getElem?_eq_some_iff.1 hG9.out).1).trans hG9.out; clear hG9; have hG9 : Hid _ := hG8; clear hG8)); clear hb3) | (go_at_call 16; refine Calls.mono (HRM.out _ (below_next HBB.out (by first | exact HW3.out | exact al HW3.out _))) ?_; rintro e u4 ⟨v4, o4, rfl, hw4, hh4, hl4, hb4⟩; have HW4 : Hid (Below wr.heap.size wr u4) := (by first | exact below_next HW3.out hb4 | exact below_next (al HW3.out _) hb4); have hS4 : Below wr.heap.size wr u4 := HW4.out; obtain ⟨a4, c4, e4, -, -, -, r4, -⟩ := OwnR.val hw4; subst e4; have HR44 : Hid (RdR u4 a4 o4) := r4; have HR41 : Hid (RdR u4 a1 o1) := RdR.below HR31.out (by first | exact hb4 | exact below_next (al (Below.refl _ _) _) hb4); have HR42 : Hid (RdR u4 a2 o2) := RdR.below HR32.out (by first | exact hb4 | exact below_next (al (Below.refl _ _) _) hb4); have HR43 : Hid (RdR u4 a3 o3) := RdR.below HR33.out (by first | exact hb4 | exact below_next (al (Below.refl _ _) _) hb4); have HM4 : Hid (LPk l1 l2 i0 4 o4) := hh4; clear hw4 r4 hl4 hh4; (try (have hG8 := (hb4.block _ (Array.getElem?_eq_some_iff.1 hG9.out).1).trans hG9.out; clear hG9; have hG9 : Hid _ := hG8; clear hG8)); clear hb4)
                        go_wp2_with fail
                        refine hK.out _ _ (by with_reducible first | assumption | exact (Below.refl _ _).drew | exact al (Below.refl _ _).drew _ | exact (al (Below.refl _ _) _).drew | exact al (by assumption) _) ?_
                        clear hK K
                        intro hHeld2
                        clear hHeld
                        have hHeld := hHeld2
                        clear hHeld2
                        try simp only [Act.put, List.setIfInBounds_toArray, List.set_cons_zero, List.set_cons_succ]
                        refine take_at (i := 12) 150 (v := ?_) rfl rfl (by kernel_rfl) (by kernel_rfl) (by kernel_rfl) (fun _ _ _ h => h) (by rfl) ?_ hHeld ?_
                        rotate_left
                        · (intro w hSw; (try dsimp only at hSw); go_simp; try with_reducible rfl)
                        simp only [Act.put, List.setIfInBounds_toArray, List.set_cons_zero, List.set_cons_succ]
                        refine run_at (i := 14) rfl (by kernel_rfl) (by rfl) (fun K hK => ?_)
                        simp only [List.getElem_toArray, List.getElem_cons_zero, List.getElem_cons_succ]
                        (refine wpo_store5 (W := wr) _ _ rfl _ _ _ _ _ _ (by rfl) (by rfl) (by simp [Value.oneCell']) _ _ _ _ _ _ hG9.out (by first | exact HW4.out | exact al HW4.out _) (by first | exact Nat.le_refl _ | exact HW1.out.size | exact HW2.out.size | exact HW3.out.size | exact HW4.out.size) ?_; intro z9 hz9 hc9 hg9; have HC9 : Hid _ := hc9; have HZ9 : Hid (Below wr.heap.size wr z9) := hz9; have HR91 : Hid (RdR z9 a1 o1) := (by first | exact RdR.st5 HR41.out hG9.out hg9 | exact RdR.st5 (RdR.below HR41.out (al (Below.refl _ _) _)) hG9.out hg9); have HR92 : Hid (RdR z9 a2 o2) := (by first | exact RdR.st5 HR42.out hG9.out hg9 | exact RdR.st5 (RdR.below HR42.out (al (Below.refl _ _) _)) hG9.out hg9); have HR93 : Hid (RdR z9 a3 o3) := (by first | exact RdR.st5 HR43.out hG9.out hg9 | exact RdR.st5 (RdR.below HR43.out (al (Below.refl _ _) _)) hG9.out hg9); have HR94 : Hid (RdR z9 a4 o4) := (by first | exact RdR.st5 HR44.out hG9.out hg9 | exact RdR.st5 (RdR.below HR44.out (al (Below.refl _ _) _)) hG9.out hg9); clear hc9 hg9 hG9)
                        refine hK.out _ _ (by with_reducible first | assumption | exact (Below.refl _ _).drew | exact al (Below.refl _ _).drew _ | exact (al (Below.refl _ _) _).drew | exact al (by assumption) _) ?_
                        clear hK K
                        intro hHeld2
                        clear hHeld
                        have hHeld := hHeld2
                        clear hHeld2
                        try simp only [Act.put, List.setIfInBounds_toArray, List.set_cons_zero, List.set_cons_succ]
                        refine wpAnyH_done (by kernel_rfl) ?_ _
                        refine NoPanic.normal ?_
                    rotate_left 3
                    refine AllReadyH.cons (o := _) rfl (fun K hK => ?_) AllReadyH.nil
                    focus
                      rw [if_pos (by rfl)]
                      simp only [List.getElem_toArray, List.getElem_cons_zero, List.getElem_cons_succ]
                      go_simp
                      go_wp2_with fail
                      refine hK.out _ _ (by with_reducible first | assumption | exact (Below.refl _ _).drew | exact al (Below.refl _ _).drew _ | exact (al (Below.refl _ _) _).drew | exact al (by assumption) _) ?_
                      clear hK K
                      intro hHeld2
                      clear hHeld
                      have hHeld := hHeld2
                      clear hHeld2
                      try simp only [Act.put, List.setIfInBounds_toArray, List.set_cons_zero, List.set_cons_succ]
                      (first | (have hG9 : Hid _ := alloc_at hHeld) | (have hG9 : Hid _ := alloc_atd hHeld))
                      refine run_at (i := 6) rfl (by kernel_rfl) (by rfl) (fun K hK => ?_)
                      simp only [List.getElem_toArray, List.getElem_cons_zero, List.getElem_cons_succ]
                      go_simp
                      first | (go_at_call 13; refine Calls.mono (HRL.out _ (below_next HBB.out (by first | exact (Below.refl _ _).drew | exact al (Below.refl _ _).drew _ | exact (al (Below.refl _ _) _).drew))) ?_; rintro e u1 ⟨v1, o1, rfl, hw1, hL1, hh1, hl1, hb1⟩; have HW1 : Hid (Below wr.heap.size wr u1) := (by first | exact below_next (Below.refl _ _).drew hb1 | exact below_next (al (Below.refl _ _).drew _) hb1 | exact below_next (al (Below.refl _ _) _).drew hb1); have hS1 : Below wr.heap.size wr u1 := HW1.out; obtain ⟨a1, c1, e1, -, -, -, r1, -⟩ := OwnR.val hw1; subst e1; have HR11 : Hid (RdR u1 a1 o1) := r1; have HM1 : Hid (LPk l1 l2 i0 1 o1) := ⟨hL1, hh1⟩; clear hw1 r1 hl1 hL1 hh1; (try (have hG8 := (hb1.block _ (Array.getElem?_eq_some_iff.1 hG9.out).1).trans hG9.out; clear hG9; have hG9 : Hid _ := hG8; clear hG8)); clear hb1) | (go_at_call 14; refine Calls.mono (HRU.out _ (below_next HBB.out (by first | exact HW1.out | exact al HW1.out _))) ?_; rintro e u2 ⟨v2, o2, rfl, hw2, hL2, hh2, hl2, hb2⟩; have HW2 : Hid (Below wr.heap.size wr u2) := (by first | exact below_next HW1.out hb2 | exact below_next (al HW1.out _) hb2); have hS2 : Below wr.heap.size wr u2 := HW2.out; obtain ⟨a2, c2, e2, -, -, -, r2, -⟩ := OwnR.val hw2; subst e2; have HR22 : Hid (RdR u2 a2 o2) := r2; have HR21 : Hid (RdR u2 a1 o1) := RdR.below HR11.out (by first | exact hb2 | exact below_next (al (Below.refl _ _) _) hb2); have HM2 : Hid (LPk l1 l2 i0 2 o2) := ⟨hL2, hh2⟩; clear hw2 r2 hl2 hL2 hh2; (try (have hG8 := (hb2.block _ (Array.getElem?_eq_some_iff.1 hG9.out).1).trans hG9.out; clear hG9; have hG9 : Hid _ := hG8; clear hG8)); clear hb2) | (go_at_call 15; refine Calls.mono (HRA.out _ (below_next HBB.out (by first | exact HW2.out | exact al HW2.out _))) ?_; rintro e u3 ⟨v3, o3, rfl, hw3, hL3, hh3, hl3, hb3⟩; have HW3 : Hid (Below wr.heap.size wr u3) := (by first | exact below_next HW2.out hb3 | exact below_next (al HW2.out _) hb3); have hS3 : Below wr.heap.size wr u3 := HW3.out; obtain ⟨a3, c3, e3, -, -, -, r3, -⟩ := OwnR.val hw3; subst e3; have HR33 : Hid (RdR u3 a3 o3) := r3; have HR31 : Hid (RdR u3 a1 o1) := RdR.below HR21.out (by first | exact hb3 | exact below_next (al (Below.refl _ _) _) hb3); have HR32 : Hid (RdR u3 a2 o2) := RdR.below HR22.out (by first | exact hb3 | exact below_next (al (Below.refl _ _) _) hb3); have HM3 : Hid (LPk l1 l2 i0 3 o3) := ⟨hL3, hh3⟩; clear hw3 r3 hl3 hL3 hh3; (try (have hG8 := (hb3.block _ (Array.getElem?_eq_some_iff.1 hG9.out).1).trans hG9.out; clear hG9; have hG9 : Hid _ := hG8; clear hG8)); clear hb3) | (go_at_call 16; refine Calls.mono (HRM.out _ (below_next HBB.out (by first | exact HW3.out | exact al HW3.out _))) ?_; rintro e u4 ⟨v4, o4, rfl, hw4, hh4, hl4, hb4⟩; have HW4 : Hid (Below wr.heap.size wr u4) := (by first | exact below_next HW3.out hb4 | exact below_next (al HW3.out _) hb4); have hS4 : Below wr.heap.size wr u4 := HW4.out; obtain ⟨a4, c4, e4, -, -, -, r4, -⟩ := OwnR.val hw4; subst e4; have HR44 : Hid (RdR u4 a4 o4) := r4; have HR41 : Hid (RdR u4 a1 o1) := RdR.below HR31.out (by first | exact hb4 | exact below_next (al (Below.refl _ _) _) hb4); have HR42 : Hid (RdR u4 a2 o2) := RdR.below HR32.out (by first | exact hb4 | exact below_next (al (Below.refl _ _) _) hb4); have HR43 : Hid (RdR u4 a3 o3) := RdR.below HR33.out (by first | exact hb4 | exact below_next (al (Below.refl _ _) _) hb4); have HM4 : Hid (LPk l1 l2 i0 4 o4) := hh4; clear hw4 r4 hl4 hh4; (try (have hG8 := (hb4.block _ (Array.getElem?_eq_some_iff.1 hG9.out).1).trans hG9.out; clear hG9; have hG9 : Hid _ := hG8; clear hG8)); clear hb4)
                      go_wp2_with fail
                      refine hK.out _ _ (by with_reducible first | assumption | exact (Below.refl _ _).drew | exact al (Below.refl _ _).drew _ | exact (al (Below.refl _ _) _).drew | exact al (by assumption) _) ?_
                      clear hK K
                      intro hHeld2
                      clear hHeld
                      have hHeld := hHeld2
                      clear hHeld2
                      try simp only [Act.put, List.setIfInBounds_toArray, List.set_cons_zero, List.set_cons_succ]
                      refine run_at (i := 9) rfl (by kernel_rfl) (by rfl) (fun K hK => ?_)
                      simp only [List.getElem_toArray, List.getElem_cons_zero, List.getElem_cons_succ]
                      go_simp
                      first | (go_at_call 13; refine Calls.mono (HRL.out _ (below_next HBB.out (by first | exact (Below.refl _ _).drew | exact al (Below.refl _ _).drew _ | exact (al (Below.refl _ _) _).drew))) ?_; rintro e u1 ⟨v1, o1, rfl, hw1, hL1, hh1, hl1, hb1⟩; have HW1 : Hid (Below wr.heap.size wr u1) := (by first | exact below_next (Below.refl _ _).drew hb1 | exact below_next (al (Below.refl _ _).drew _) hb1 | exact below_next (al (Below.refl _ _) _).drew hb1); have hS1 : Below wr.heap.size wr u1 := HW1.out; obtain ⟨a1, c1, e1, -, -, -, r1, -⟩ := OwnR.val hw1; subst e1; have HR11 : Hid (RdR u1 a1 o1) := r1; have HM1 : Hid (LPk l1 l2 i0 1 o1) := ⟨hL1, hh1⟩; clear hw1 r1 hl1 hL1 hh1; (try (have hG8 := (hb1.block _ (Array.getElem?_eq_some_iff.1 hG9.out).1).trans hG9.out; clear hG9; have hG9 : Hid _ := hG8; clear hG8)); clear hb1) | (go_at_call 14; refine Calls.mono (HRU.out _ (below_next HBB.out (by first | exact HW1.out | exact al HW1.out _))) ?_; rintro e u2 ⟨v2, o2, rfl, hw2, hL2, hh2, hl2, hb2⟩; have HW2 : Hid (Below wr.heap.size wr u2) := (by first | exact below_next HW1.out hb2 | exact below_next (al HW1.out _) hb2); have hS2 : Below wr.heap.size wr u2 := HW2.out; obtain ⟨a2, c2, e2, -, -, -, r2, -⟩ := OwnR.val hw2; subst e2; have HR22 : Hid (RdR u2 a2 o2) := r2; have HR21 : Hid (RdR u2 a1 o1) := RdR.below HR11.out (by first | exact hb2 | exact below_next (al (Below.refl _ _) _) hb2); have HM2 : Hid (LPk l1 l2 i0 2 o2) := ⟨hL2, hh2⟩; clear hw2 r2 hl2 hL2 hh2; (try (have hG8 := (hb2.block _ (Array.getElem?_eq_some_iff.1 hG9.out).1).trans hG9.out; clear hG9; have hG9 : Hid _ := hG8; clear hG8)); clear hb2) | (go_at_call 15; refine Calls.mono (HRA.out _ (below_next HBB.out (by first | exact HW2.out | exact al HW2.out _))) ?_; rintro e u3 ⟨v3, o3, rfl, hw3, hL3, hh3, hl3, hb3⟩; have HW3 : Hid (Below wr.heap.size wr u3) := (by first | exact below_next HW2.out hb3 | exact below_next (al HW2.out _) hb3); have hS3 : Below wr.heap.size wr u3 := HW3.out; obtain ⟨a3, c3, e3, -, -, -, r3, -⟩ := OwnR.val hw3; subst e3; have HR33 : Hid (RdR u3 a3 o3) := r3; have HR31 : Hid (RdR u3 a1 o1) := RdR.below HR21.out (by first | exact hb3 | exact below_next (al (Below.refl _ _) _) hb3); have HR32 : Hid (RdR u3 a2 o2) := RdR.below HR22.out (by first | exact hb3 | exact below_next (al (Below.refl _ _) _) hb3); have HM3 : Hid (LPk l1 l2 i0 3 o3) := ⟨hL3, hh3⟩; clear hw3 r3 hl3 hL3 hh3; (try (have hG8 := (hb3.block _ (Array.getElem?_eq_some_iff.1 hG9.out).1).trans hG9.out; clear hG9; have hG9 : Hid _ := hG8; clear hG8)); clear hb3) | (go_at_call 16; refine Calls.mono (HRM.out _ (below_next HBB.out (by first | exact HW3.out | exact al HW3.out _))) ?_; rintro e u4 ⟨v4, o4, rfl, hw4, hh4, hl4, hb4⟩; have HW4 : Hid (Below wr.heap.size wr u4) := (by first | exact below_next HW3.out hb4 | exact below_next (al HW3.out _) hb4); have hS4 : Below wr.heap.size wr u4 := HW4.out; obtain ⟨a4, c4, e4, -, -, -, r4, -⟩ := OwnR.val hw4; subst e4; have HR44 : Hid (RdR u4 a4 o4) := r4; have HR41 : Hid (RdR u4 a1 o1) := RdR.below HR31.out (by first | exact hb4 | exact below_next (al (Below.refl _ _) _) hb4); have HR42 : Hid (RdR u4 a2 o2) := RdR.below HR32.out (by first | exact hb4 | exact below_next (al (Below.refl _ _) _) hb4); have HR43 : Hid (RdR u4 a3 o3) := RdR.below HR33.out (by first | exact hb4 | exact below_next (al (Below.refl _ _) _) hb4); have HM4 : Hid (LPk l1 l2 i0 4 o4) := hh4; clear hw4 r4 hl4 hh4; (try (have hG8 := (hb4.block _ (Array.getElem?_eq_some_iff.1 hG9.out).1).trans hG9.out; clear hG9; have hG9 : Hid _ := hG8; clear hG8)); clear hb4)
                      go_wp2_with fail
                      refine hK.out _ _ (by with_reducible first | assumption | exact (Below.refl _ _).drew | exact al (Below.refl _ _).drew _ | exact (al (Below.refl _ _) _).drew | exact al (by assumption) _) ?_
                      clear hK K
                      intro hHeld2
                      clear hHeld
                      have hHeld := hHeld2
                      clear hHeld2
                      try simp only [Act.put, List.setIfInBounds_toArray, List.set_cons_zero, List.set_cons_succ]
                      refine run_at (i := 11) rfl (by kernel_rfl) (by rfl) (fun K hK => ?_)
                      simp only [List.getElem_toArray, List.getElem_cons_zero, List.getElem_cons_succ]
                      go_simp
                      first | (go_at_call 13; refine Calls.mono (HRL.out _ (below_next HBB.out (by first | exact (Below.refl _ _).drew | exact al (Below.refl _ _).drew _ | exact (al (Below.refl _ _) _).drew))) ?_; rintro e u1 ⟨v1, o1, rfl, hw1, hL1, hh1, hl1, hb1⟩; have HW1 : Hid (Below wr.heap.size wr u1) := (by first | exact below_next (Below.refl _ _).drew hb1 | exact below_next (al (Below.refl _ _).drew _) hb1 | exact below_next (al (Below.refl _ _) _).drew hb1); have hS1 : Below wr.heap.size wr u1 := HW1.out; obtain ⟨a1, c1, e1, -, -, -, r1, -⟩ := OwnR.val hw1; subst e1; have HR11 : Hid (RdR u1 a1 o1) := r1; have HM1 : Hid (LPk l1 l2 i0 1 o1) := ⟨hL1, hh1⟩; clear hw1 r1 hl1 hL1 hh1; (try (have hG8 := (hb1.block _ (Array.getElem?_eq_some_iff.1 hG9.out).1).trans hG9.out; clear hG9; have hG9 : Hid _ := hG8; clear hG8)); clear hb1) | (go_at_call 14; refine Calls.mono (HRU.out _ (below_next HBB.out (by first | exact HW1.out | exact al HW1.out _))) ?_; rintro e u2 ⟨v2, o2, rfl, hw2, hL2, hh2, hl2, hb2⟩; have HW2 : Hid (Below wr.heap.size wr u2) := (by first | exact below_next HW1.out hb2 | exact below_next (al HW1.out _) hb2); have hS2 : Below wr.heap.size wr u2 := HW2.out; obtain ⟨a2, c2, e2, -, -, -, r2, -⟩ := OwnR.val hw2; subst e2; have HR22 : Hid (RdR u2 a2 o2) := r2; have HR21 : Hid (RdR u2 a1 o1) := RdR.below HR11.out (by first | exact hb2 | exact below_next (al (Below.refl _ _) _) hb2); have HM2 : Hid (LPk l1 l2 i0 2 o2) := ⟨hL2, hh2⟩; clear hw2 r2 hl2 hL2 hh2; (try (have hG8 := (hb2.block _ (Array.getElem?_eq_some_iff.1 hG9.out).1).trans hG9.out; clear hG9; have hG9 : Hid _ := hG8; clear hG8)); clear hb2) | (go_at_call 15; refine Calls.mono (HRA.out _ (below_next HBB.out (by first | exact HW2.out | exact al HW2.out _))) ?_; rintro e u3 ⟨v3, o3, rfl, hw3, hL3, hh3, hl3, hb3⟩; have HW3 : Hid (Below wr.heap.size wr u3) := (by first | exact below_next HW2.out hb3 | exact below_next (al HW2.out _) hb3); have hS3 : Below wr.heap.size wr u3 := HW3.out; obtain ⟨a3, c3, e3, -, -, -, r3, -⟩ := OwnR.val hw3; subst e3; have HR33 : Hid (RdR u3 a3 o3) := r3; have HR31 : Hid (RdR u3 a1 o1) := RdR.below HR21.out (by first | exact hb3 | exact below_next (al (Below.refl _ _) _) hb3); have HR32 : Hid (RdR u3 a2 o2) := RdR.below HR22.out (by first | exact hb3 | exact below_next (al (Below.refl _ _) _) hb3); have HM3 : Hid (LPk l1 l2 i0 3 o3) := ⟨hL3, hh3⟩; clear hw3 r3 hl3 hL3 hh3; (try (have hG8 := (hb3.block _ (Array.getElem?_eq_some_iff.1 hG9.out).1).trans hG9.out; clear hG9; have hG9 : Hid _ := hG8; clear hG8)); clear hb3) | (go_at_call 16; refine Calls.mono (HRM.out _ (below_next HBB.out (by first | exact HW3.out | exact al HW3.out _))) ?_; rintro e u4 ⟨v4, o4, rfl, hw4, hh4, hl4, hb4⟩; have HW4 : Hid (Below wr.heap.size wr u4) := (by first | exact below_next HW3.out hb4 | exact below_next (al HW3.out _) hb4); have hS4 : Below wr.heap.size wr u4 := HW4.out; obtain ⟨a4, c4, e4, -, -, -, r4, -⟩ := OwnR.val hw4; subst e4; have HR44 : Hid (RdR u4 a4 o4) := r4; have HR41 : Hid (RdR u4 a1 o1) := RdR.below HR31.out (by first | exact hb4 | exact below_next (al (Below.refl _ _) _) hb4); have HR42 : Hid (RdR u4 a2 o2) := RdR.below HR32.out (by first | exact hb4 | exact below_next (al (Below.refl _ _) _) hb4); have HR43 : Hid (RdR u4 a3 o3) := RdR.below HR33.out (by first | exact hb4 | exact below_next (al (Below.refl _ _) _) hb4); have HM4 : Hid (LPk l1 l2 i0 4 o4) := hh4; clear hw4 r4 hl4 hh4; (try (have hG8 := (hb4.block _ (Array.getElem?_eq_some_iff.1 hG9.out).1).trans hG9.out; clear hG9; have hG9 : Hid _ := hG8; clear hG8)); clear hb4)
                      go_wp2_with fail
                      refine hK.out _ _ (by with_reducible first | assumption | exact (Below.refl _ _).drew | exact al (Below.refl _ _).drew _ | exact (al (Below.refl _ _) _).drew | exact al (by assumption) _) ?_
                      clear hK K
                      intro hHeld2
                      clear hHeld
                      have hHeld := hHeld2
                      clear hHeld2
                      try simp only [Act.put, List.setIfInBounds_toArray, List.set_cons_zero, List.set_cons_succ]
                      refine take_at (i := 12) 150 (v := ?_) rfl rfl (by kernel_rfl) (by kernel_rfl) (by kernel_rfl) (fun _ _ _ h => h) (by rfl) ?_ hHeld ?_
                      rotate_left
                      · (intro w hSw; (try dsimp only at hSw); go_simp; try with_reducible rfl)
                      simp only [Act.put, List.setIfInBounds_toArray, List.set_cons_zero, List.set_cons_succ]
                      refine run_at (i := 14) rfl (by kernel_rfl) (by rfl) (fun K hK => ?_)
                      simp only [List.getElem_toArray, List.getElem_cons_zero, List.getElem_cons_succ]
                      (refine wpo_store5 (W := wr) _ _ rfl _ _ _ _ _ _ (by rfl) (by rfl) (by simp [Value.oneCell']) _ _ _ _ _ _ hG9.out (by first | exact HW4.out | exact al HW4.out _) (by first | exact Nat.le_refl _ | exact HW1.out.size | exact HW2.out.size | exact HW3.out.size | exact HW4.out.size) ?_; intro z9 hz9 hc9 hg9; have HC9 : Hid _ := hc9; have HZ9 : Hid (Below wr.heap.size wr z9) := hz9; have HR91 : Hid (RdR z9 a1 o1) := (by first | exact RdR.st5 HR41.out hG9.out hg9 | exact RdR.st5 (RdR.below HR41.out (al (Below.refl _ _) _)) hG9.out hg9); have HR92 : Hid (RdR z9 a2 o2) := (by first | exact RdR.st5 HR42.out hG9.out hg9 | exact RdR.st5 (RdR.below HR42.out (al (Below.refl _ _) _)) hG9.out hg9); have HR93 : Hid (RdR z9 a3 o3) := (by first | exact RdR.st5 HR43.out hG9.out hg9 | exact RdR.st5 (RdR.below HR43.out (al (Below.refl _ _) _)) hG9.out hg9); have HR94 : Hid (RdR z9 a4 o4) := (by first | exact RdR.st5 HR44.out hG9.out hg9 | exact RdR.st5 (RdR.below HR44.out (al (Below.refl _ _) _)) hG9.out hg9); clear hc9 hg9 hG9)
                      refine hK.out _ _ (by with_reducible first | assumption | exact (Below.refl _ _).drew | exact al (Below.refl _ _).drew _ | exact (al (Below.refl _ _) _).drew | exact al (by assumption) _) ?_
                      clear hK K
                      intro hHeld2
                      clear hHeld
                      have hHeld := hHeld2
                      clear hHeld2
                      try simp only [Act.put, List.setIfInBounds_toArray, List.set_cons_zero, List.set_cons_succ]
                      refine wpAnyH_done (by kernel_rfl) ?_ _
                      refine NoPanic.normal ?_
                  rotate_left 4
                  refine AllReadyH.cons (o := _) rfl (fun K hK => ?_) AllReadyH.nil
                  focus
                    rw [if_pos (by rfl)]
                    simp only [List.getElem_toArray, List.getElem_cons_zero, List.getElem_cons_succ]
                    go_simp
                    go_wp2_with fail
                    refine hK.out _ _ (by with_reducible first | assumption | exact (Below.refl _ _).drew | exact al (Below.refl _ _).drew _ | exact (al (Below.refl _ _) _).drew | exact al (by assumption) _) ?_
                    clear hK K
                    intro hHeld2
                    clear hHeld
                    have hHeld := hHeld2
                    clear hHeld2
                    try simp only [Act.put, List.setIfInBounds_toArray, List.set_cons_zero, List.set_cons_succ]
                    (first | (have hG9 : Hid _ := alloc_at hHeld) | (have hG9 : Hid _ := alloc_atd hHeld))
                    refine run_at (i := 2) rfl (by kernel_rfl) (by rfl) (fun K hK => ?_)
                    simp only [List.getElem_toArray, List.getElem_cons_zero, List.getElem_cons_succ]
                    go_simp
                    first | (go_at_call 13; refine Calls.mono (HRL.out _ (below_next HBB.out (by first | exact (Below.refl _ _).drew | exact al (Below.refl _ _).drew _ | exact (al (Below.refl _ _) _).drew))) ?_; rintro e u1 ⟨v1, o1, rfl, hw1, hL1, hh1, hl1, hb1⟩; have HW1 : Hid (Below wr.heap.size wr u1) := (by first | exact below_next (Below.refl _ _).drew hb1 | exact below_next (al (Below.refl _ _).drew _) hb1 | exact below_next (al (Below.refl _ _) _).drew hb1); have hS1 : Below wr.heap.size wr u1 := HW1.out; obtain ⟨a1, c1, e1, -, -, -, r1, -⟩ := OwnR.val hw1; subst e1; have HR11 : Hid (RdR u1 a1 o1) := r1; have HM1 : Hid (LPk l1 l2 i0 1 o1) := ⟨hL1, hh1⟩; clear hw1 r1 hl1 hL1 hh1; (try (have hG8 := (hb1.block _ (Array.getElem?_eq_some_iff.1 hG9.out).1).trans hG9.out; clear hG9; have hG9 : Hid _ := hG8; clear hG8)); clear hb1) | (go_at_call 14; refine Calls.mono (HRU.out _ (below_next HBB.out (by first | exact HW1.out | exact al HW1.out _))) ?_; rintro e u2 ⟨v2, o2, rfl, hw2, hL2, hh2, hl2, hb2⟩; have HW2 : Hid (Below wr.heap.size wr u2) := (by first | exact below_next HW1.out hb2 | exact below_next (al HW1.out _) hb2); have hS2 : Below wr.heap.size wr u2 := HW2.out; obtain ⟨a2, c2, e2, -, -, -, r2, -⟩ := OwnR.val hw2; subst e2; have HR22 : Hid (RdR u2 a2 o2) := r2; have HR21 : Hid (RdR u2 a1 o1) := RdR.below HR11.out (by first | exact hb2 | exact below_next (al (Below.refl _ _) _) hb2); have HM2 : Hid (LPk l1 l2 i0 2 o2) := ⟨hL2, hh2⟩; clear hw2 r2 hl2 hL2 hh2; (try (have hG8 := (hb2.block _ (Array.getElem?_eq_some_iff.1 hG9.out).1).trans hG9.out; clear hG9; have hG9 : Hid _ := hG8; clear hG8)); clear hb2) | (go_at_call 15; refine Calls.mono (HRA.out _ (below_next HBB.out (by first | exact HW2.out | exact al HW2.out _))) ?_; rintro e u3 ⟨v3, o3, rfl, hw3, hL3, hh3, hl3, hb3⟩; have HW3 : Hid (Below wr.heap.size wr u3) := (by first | exact below_next HW2.out hb3 | exact below_next (al HW2.out _) hb3); have hS3 : Below wr.heap.size wr u3 := HW3.out; obtain ⟨a3, c3, e3, -, -, -, r3, -⟩ := OwnR.val hw3; subst e3; have HR33 : Hid (RdR u3 a3 o3) := r3; have HR31 : Hid (RdR u3 a1 o1) := RdR.below HR21.out (by first | exact hb3 | exact below_next (al (Below.refl _ _) _) hb3); have HR32 : Hid (RdR u3 a2 o2) := RdR.below HR22.out (by first | exact hb3 | exact below_next (al (Below.refl _ _) _) hb3); have HM3 : Hid (LPk l1 l2 i0 3 o3) := ⟨hL3, hh3⟩; clear hw3 r3 hl3 hL3 hh3; (try (have hG8 := (hb3.block _ (Array.getElem?_eq_some_iff.1 hG9.out).1).trans hG9.out; clear hG9; have hG9 : Hid _ := hG8; clear hG8)); clear hb3) | (go_at_call 16; refine Calls.mono (HRM.out _ (below_next HBB.out (by first | exact HW3.out | exact al HW3.out _))) ?_; rintro e u4 ⟨v4, o4, rfl, hw4, hh4, hl4, hb4⟩; have HW4 : Hid (Below wr.heap.size wr u4) := (by first | exact below_next HW3.out hb4 | exact below_next (al HW3.out _) hb4); have hS4 : Below wr.heap.size wr u4 := HW4.out; obtain ⟨a4, c4, e4, -, -, -, r4, -⟩ := OwnR.val hw4; subst e4; have HR44 : Hid (RdR u4 a4 o4) := r4; have HR41 : Hid (RdR u4 a1 o1) := RdR.below HR31.out (by first | exact hb4 | exact below_next (al (Below.refl _ _) _) hb4); have HR42 : Hid (RdR u4 a2 o2) := RdR.below HR32.out (by first | exact hb4 | exact below_next (al (Below.refl _ _) _) hb4); have HR43 : Hid (RdR u4 a3 o3) := RdR.below HR33.out (by first | exact hb4 | exact below_next (al (Below.refl _ _) _) hb4); have HM4 : Hid (LPk l1 l2 i0 4 o4) := hh4; clear hw4 r4 hl4 hh4; (try (have hG8 := (hb4.block _ (Array.getElem?_eq_some_iff.1 hG9.out).1).trans hG9.out; clear hG9; have hG9 : Hid _ := hG8; clear hG8)); clear hb4)
                    go_wp2_with fail
                    refine hK.out _ _ (by with_reducible first | assumption | exact (Below.refl _ _).drew | exact al (Below.refl _ _).drew _ | exact (al (Below.refl _ _) _).drew | exact al (by assumption) _) ?_
                    clear hK K
                    intro hHeld2
                    clear hHeld
                    have hHeld := hHeld2
                    clear hHeld2
                    try simp only [Act.put, List.setIfInBounds_toArray, List.set_cons_zero, List.set_cons_succ]
                    refine run_at (i := 6) rfl (by kernel_rfl) (by rfl) (fun K hK => ?_)
                    simp only [List.getElem_toArray, List.getElem_cons_zero, List.getElem_cons_succ]
                    go_simp
                    first | (go_at_call 13; refine Calls.mono (HRL.out _ (below_next HBB.out (by first | exact (Below.refl _ _).drew | exact al (Below.refl _ _).drew _ | exact (al (Below.refl _ _) _).drew))) ?_; rintro e u1 ⟨v1, o1, rfl, hw1, hL1, hh1, hl1, hb1⟩; have HW1 : Hid (Below wr.heap.size wr u1) := (by first | exact below_next (Below.refl _ _).drew hb1 | exact below_next (al (Below.refl _ _).drew _) hb1 | exact below_next (al (Below.refl _ _) _).drew hb1); have hS1 : Below wr.heap.size wr u1 := HW1.out; obtain ⟨a1, c1, e1, -, -, -, r1, -⟩ := OwnR.val hw1; subst e1; have HR11 : Hid (RdR u1 a1 o1) := r1; have HM1 : Hid (LPk l1 l2 i0 1 o1) := ⟨hL1, hh1⟩; clear hw1 r1 hl1 hL1 hh1; (try (have hG8 := (hb1.block _ (Array.getElem?_eq_some_iff.1 hG9.out).1).trans hG9.out; clear hG9; have hG9 : Hid _ := hG8; clear hG8)); clear hb1) | (go_at_call 14; refine Calls.mono (HRU.out _ (below_next HBB.out (by first | exact HW1.out | exact al HW1.out _))) ?_; rintro e u2 ⟨v2, o2, rfl, hw2, hL2, hh2, hl2, hb2⟩; have HW2 : Hid (Below wr.heap.size wr u2) := (by first | exact below_next HW1.out hb2 | exact below_next (al HW1.out _) hb2); have hS2 : Below wr.heap.size wr u2 := HW2.out; obtain ⟨a2, c2, e2, -, -, -, r2, -⟩ := OwnR.val hw2; subst e2; have HR22 : Hid (RdR u2 a2 o2) := r2; have HR21 : Hid (RdR u2 a1 o1) := RdR.below HR11.out (by first | exact hb2 | exact below_next (al (Below.refl _ _) _) hb2); have HM2 : Hid (LPk l1 l2 i0 2 o2) := ⟨hL2, hh2⟩; clear hw2 r2 hl2 hL2 hh2; (try (have hG8 := (hb2.block _ (Array.getElem?_eq_some_iff.1 hG9.out).1).trans hG9.out; clear hG9; have hG9 : Hid _ := hG8; clear hG8)); clear hb2) | (go_at_call 15; refine Calls.mono (HRA.out _ (below_next HBB.out (by first | exact HW2.out | exact al HW2.out _))) ?_; rintro e u3 ⟨v3, o3, rfl, hw3, hL3, hh3, hl3, hb3⟩; have HW3 : Hid (Below wr.heap.size wr u3) := (by first | exact below_next HW2.out hb3 | exact below_next (al HW2.out _) hb3); have hS3 : Below wr.heap.size wr u3 := HW3.out; obtain ⟨a3, c3, e3, -, -, -, r3, -⟩ := OwnR.val hw3; subst e3; have HR33 : Hid (RdR u3 a3 o3) := r3; have HR31 : Hid (RdR u3 a1 o1) := RdR.below HR21.out (by first | exact hb3 | exact below_next (al (Below.refl _ _) _) hb3); have HR32 : Hid (RdR u3 a2 o2) := RdR.below HR22.out (by first | exact hb3 | exact below_next (al (Below.refl _ _) _) hb3); have HM3 : Hid (LPk l1 l2 i0 3 o3) := ⟨hL3, hh3⟩; clear hw3 r3 hl3 hL3 hh3; (try (have hG8 := (hb3.block _ (Array.getElem?_eq_some_iff.1 hG9.out).1).trans hG9.out; clear hG9; have hG9 : Hid _ := hG8; clear hG8)); clear hb3) | (go_at_call 16; refine Calls.mono (HRM.out _ (below_next HBB.out (by first | exact HW3.out | exact al HW3.out _))) ?_; rintro e u4 ⟨v4, o4, rfl, hw4, hh4, hl4, hb4⟩; have HW4 : Hid (Below wr.heap.size wr u4) := (by first | exact below_next HW3.out hb4 | exact below_next (al HW3.out _) hb4); have hS4 : Below wr.heap.size wr u4 := HW4.out; obtain ⟨a4, c4, e4, -, -, -, r4, -⟩ := OwnR.val hw4; subst e4; have HR44 : Hid (RdR u4 a4 o4) := r4; have HR41 : Hid (RdR u4 a1 o1) := RdR.below HR31.out (by first | exact hb4 | exact below_next (al (Below.refl _ _) _) hb4); have HR42 : Hid (RdR u4 a2 o2) := RdR.below HR32.out (by first | exact hb4 | exact below_next (al (Below.refl _ _) _) hb4); have HR43 : Hid (RdR u4 a3 o3) := RdR.below HR33.out (by first | exact hb4 | exact below_next (al (Below.refl _ _) _) hb4); have HM4 : Hid (LPk l1 l2 i0 4 o4) := hh4; clear hw4 r4 hl4 hh4; (try (have hG8 := (hb4.block _ (Array.getElem?_eq_some_iff.1 hG9.out).1).trans hG9.out; clear hG9; have hG9 : Hid _ := hG8; clear hG8)); clear hb4)
                    go_wp2_with fail
                    refine hK.out _ _ (by with_reducible first | assumption | exact (Below.refl _ _).drew | exact al (Below.refl _ _).drew _ | exact (al (Below.refl _ _) _).drew | exact al (by assumption) _) ?_
                    clear hK K
                    intro hHeld2
                    clear hHeld
                    have hHeld := hHeld2
                    clear hHeld2
                    try simp only [Act.put, List.setIfInBounds_toArray, List.set_cons_zero, List.set_cons_succ]
                    refine run_at (i := 9) rfl (by kernel_rfl) (by rfl) (fun K hK => ?_)
                    simp only [List.getElem_toArray, List.getElem_cons_zero, List.getElem_cons_succ]
                    go_simp
                    first | (go_at_call 13; refine Calls.mono (HRL.out _ (below_next HBB.out (by first | exact (Below.refl _ _).drew | exact al (Below.refl _ _).drew _ | exact (al (Below.refl _ _) _).drew))) ?_; rintro e u1 ⟨v1, o1, rfl, hw1, hL1, hh1, hl1, hb1⟩; have HW1 : Hid (Below wr.heap.size wr u1) := (by first | exact below_next (Below.refl _ _).drew hb1 | exact below_next (al (Below.refl _ _).drew _) hb1 | exact below_next (al (Below.refl _ _) _).drew hb1); have hS1 : Below wr.heap.size wr u1 := HW1.out; obtain ⟨a1, c1, e1, -, -, -, r1, -⟩ := OwnR.val hw1; subst e1; have HR11 : Hid (RdR u1 a1 o1) := r1; have HM1 : Hid (LPk l1 l2 i0 1 o1) := ⟨hL1, hh1⟩; clear hw1 r1 hl1 hL1 hh1; (try (have hG8 := (hb1.block _ (Array.getElem?_eq_some_iff.1 hG9.out).1).trans hG9.out; clear hG9; have hG9 : Hid _ := hG8; clear hG8)); clear hb1) | (go_at_call 14; refine Calls.mono (HRU.out _ (below_next HBB.out (by first | exact HW1.out | exact al HW1.out _))) ?_; rintro e u2 ⟨v2, o2, rfl, hw2, hL2, hh2, hl2, hb2⟩; have HW2 : Hid (Below wr.heap.size wr u2) := (by first | exact below_next HW1.out hb2 | exact below_next (al HW1.out _) hb2); have hS2 : Below wr.heap.size wr u2 := HW2.out; obtain ⟨a2, c2, e2, -, -, -, r2, -⟩ := OwnR.val hw2; subst e2; have HR22 : Hid (RdR u2 a2 o2) := r2; have HR21 : Hid (RdR u2 a1 o1) := RdR.below HR11.out (by first | exact hb2 | exact below_next (al (Below.refl _ _) _) hb2); have HM2 : Hid (LPk l1 l2 i0 2 o2) := ⟨hL2, hh2⟩; clear hw2 r2 hl2 hL2 hh2; (try (have hG8 := (hb2.block _ (Array.getElem?_eq_some_iff.1 hG9.out).1).trans hG9.out; clear hG9; have hG9 : Hid _ := hG8; clear hG8)); clear hb2) | (go_at_call 15; refine Calls.mono (HRA.out _ (below_next HBB.out (by first | exact HW2.out | exact al HW2.out _))) ?_; rintro e u3 ⟨v3, o3, rfl, hw3, hL3, hh3, hl3, hb3⟩; have HW3 : Hid (Below wr.heap.size wr u3) := (by first | exact below_next HW2.out hb3 | exact below_next (al HW2.out _) hb3); have hS3 : Below wr.heap.size wr u3 := HW3.out; obtain ⟨a3, c3, e3, -, -, -, r3, -⟩ := OwnR.val hw3; subst e3; have HR33 : Hid (RdR u3 a3 o3) := r3; have HR31 : Hid (RdR u3 a1 o1) := RdR.below HR21.out (by first | exact hb3 | exact below_next (al (Below.refl _ _) _) hb3); have HR32 : Hid (RdR u3 a2 o2) := RdR.below HR22.out (by first | exact hb3 | exact below_next (al (Below.refl _ _) _) hb3); have HM3 : Hid (LPk l1 l2 i0 3 o3) := ⟨hL3, hh3⟩; clear hw3 r3 hl3 hL3 hh3; (try (have hG8 := (hb3.block _ (Array.getElem?_eq_some_iff.1 hG9.out).1).trans hG9.out; clear hG9; have hG9 : Hid _ := hG8; clear hG8)); clear hb3) | (go_at_call 16; refine Calls.mono (HRM.out _ (below_next HBB.out (by first | exact HW3.out | exact al HW3.out _))) ?_; rintro e u4 ⟨v4, o4, rfl, hw4, hh4, hl4, hb4⟩; have HW4 : Hid (Below wr.heap.size wr u4) := (by first | exact below_next HW3.out hb4 | exact below_next (al HW3.out _) hb4); have hS4 : Below wr.heap.size wr u4 := HW4.out; obtain ⟨a4, c4, e4, -, -, -, r4, -⟩ := OwnR.val hw4; subst e4; have HR44 : Hid (RdR u4 a4 o4) := r4; have HR41 : Hid (RdR u4 a1 o1) := RdR.below HR31.out (by first | exact hb4 | exact below_next (al (Below.refl _ _) _) hb4); have HR42 : Hid (RdR u4 a2 o2) := RdR.below HR32.out (by first | exact hb4 | exact below_next (al (Below.refl _ _) _) hb4); have HR43 : Hid (RdR u4 a3 o3) := RdR.below HR33.out (by first | exact hb4 | exact below_next (al (Below.refl _ _) _) hb4); have HM4 : Hid (LPk l1 l2 i0 4 o4) := hh4; clear hw4 r4 hl4 hh4; (try (have hG8 := (hb4.block _ (Array.getElem?_eq_some_iff.1 hG9.out).1).trans hG9.out; clear hG9; have hG9 : Hid _ := hG8; clear hG8)); clear hb4)
                    go_wp2_with fail
                    refine hK.out _ _ (by with_reducible first | assumption | exact (Below.refl _ _).drew | exact al (Below.refl _ _).drew _ | exact (al (Below.refl _ _) _).drew | exact al (by assumption) _) ?_
                    clear hK K
                    intro hHeld2
                    clear hHeld
                    have hHeld := hHeld2
                    clear hHeld2
                    try simp only [Act.put, List.setIfInBounds_toArray, List.set_cons_zero, List.set_cons_succ]
                    refine run_at (i := 11) rfl (by kernel_rfl) (by rfl) (fun K hK => ?_)
                    simp only [List.getElem_toArray, List.getElem_cons_zero, List.getElem_cons_succ]
                    go_simp
                    first | (go_at_call 13; refine Calls.mono (HRL.out _ (below_next HBB.out (by first | exact (Below.refl _ _).drew | exact al (Below.refl _ _).drew _ | exact (al (Below.refl _ _) _).drew))) ?_; rintro e u1 ⟨v1, o1, rfl, hw1, hL1, hh1, hl1, hb1⟩; have HW1 : Hid (Below wr.heap.size wr u1) := (by first | exact below_next (Below.refl _ _).drew hb1 | exact below_next (al (Below.refl _ _).drew _) hb1 | exact below_next (al (Below.refl _ _) _).drew hb1); have hS1 : Below wr.heap.size wr u1 := HW1.out; obtain ⟨a1, c1, e1, -, -, -, r1, -⟩ := OwnR.val hw1; subst e1; have HR11 : Hid (RdR u1 a1 o1) := r1; have HM1 : Hid (LPk l1 l2 i0 1 o1) := ⟨hL1, hh1⟩; clear hw1 r1 hl1 hL1 hh1; (try (have hG8 := (hb1.block _ (Array.getElem?_eq_some_iff.1 hG9.out).1).trans hG9.out; clear hG9; have hG9 : Hid _ := hG8; clear hG8)); clear hb1) | (go_at_call 14; refine Calls.mono (HRU.out _ (below_next HBB.out (by first | exact HW1.out | exact al HW1.out _))) ?_; rintro e u2 ⟨v2, o2, rfl, hw2, hL2, hh2, hl2, hb2⟩; have HW2 : Hid (Below wr.heap.size wr u2) := (by first | exact below_next HW1.out hb2 | exact below_next (al HW1.out _) hb2); have hS2 : Below wr.heap.size wr u2 := HW2.out; obtain ⟨a2, c2, e2, -, -, -, r2, -⟩ := OwnR.val hw2; subst e2; have HR22 : Hid (RdR u2 a2 o2) := r2; have HR21 : Hid (RdR u2 a1 o1) := RdR.below HR11.out (by first | exact hb2 | exact below_next (al (Below.refl _ _) _) hb2); have HM2 : Hid (LPk l1 l2 i0 2 o2) := ⟨hL2, hh2⟩; clear hw2 r2 hl2 hL2 hh2; (try (have hG8 := (hb2.block _ (Array.getElem?_eq_some_iff.1 hG9.out).1).trans hG9.out; clear hG9; have hG9 : Hid _ := hG8; clear hG8)); clear hb2) | (go_at_call 15; refine Calls.mono (HRA.out _ (below_next HBB.out (by first | exact HW2.out | exact al HW2.out _))) ?_; rintro e u3 ⟨v3, o3, rfl, hw3, hL3, hh3, hl3, hb3⟩; have HW3 : Hid (Below wr.heap.size wr u3) := (by first | exact below_next HW2.out hb3 | exact below_next (al HW2.out _) hb3); have hS3 : Below wr.heap.size wr u3 := HW3.out; obtain ⟨a3, c3, e3, -, -, -, r3, -⟩ := OwnR.val hw3; subst e3; have HR33 : Hid (RdR u3 a3 o3) := r3; have HR31 : Hid (RdR u3 a1 o1) := RdR.below HR21.out (by first | exact hb3 | exact below_next (al (Below.refl _ _) _) hb3); have HR32 : Hid (RdR u3 a2 o2) := RdR.below HR22.out (by first | exact hb3 | exact below_next (al (Below.refl _ _) _) hb3); have HM3 : Hid (LPk l1 l2 i0 3 o3) := ⟨hL3, hh3⟩; clear hw3 r3 hl3 hL3 hh3; (try (have hG8 := (hb3.block _ (Array.getElem?_eq_some_iff.1 hG9.out).1).trans hG9.out; clear hG9; have hG9 : Hid _ := hG8; clear hG8)); clear hb3) | (go_at_call 16; refine Calls.mono (HRM.out _ (below_next HBB.out (by first | exact HW3.out | exact al HW3.out _))) ?_; rintro e u4 ⟨v4, o4, rfl, hw4, hh4, hl4, hb4⟩; have HW4 : Hid (Below wr.heap.size wr u4) := (by first | exact below_next HW3.out hb4 | exact below_next (al HW3.out _) hb4); have hS4 : Below wr.heap.size wr u4 := HW4.out; obtain ⟨a4, c4, e4, -, -, -, r4, -⟩ := OwnR.val hw4; subst e4; have HR44 : Hid (RdR u4 a4 o4) := r4; have HR41 : Hid (RdR u4 a1 o1) := RdR.below HR31.out (by first | exact hb4 | exact below_next (al (Below.refl _ _) _) hb4); have HR42 : Hid (RdR u4 a2 o2) := RdR.below HR32.out (by first | exact hb4 | exact below_next (al (Below.refl _ _) _) hb4); have HR43 : Hid (RdR u4 a3 o3) := RdR.below HR33.out (by first | exact hb4 | exact below_next (al (Below.refl _ _) _) hb4); have HM4 : Hid (LPk l1 l2 i0 4 o4) := hh4; clear hw4 r4 hl4 hh4; (try (have hG8 := (hb4.block _ (Array.getElem?_eq_some_iff.1 hG9.out).1).trans hG9.out; clear hG9; have hG9 : Hid _ := hG8; clear hG8)); clear hb4)
                    go_wp2_with fail
                    refine hK.out _ _ (by with_reducible first | assumption | exact (Below.refl _ _).drew | exact al (Below.refl _ _).drew _ | exact (al (Below.refl _ _) _).drew | exact al (by assumption) _) ?_
                    clear hK K
                    intro hHeld2
                    clear hHeld
                    have hHeld := hHeld2
                    clear hHeld2
                    try simp only [Act.put, List.setIfInBounds_toArray, List.set_cons_zero, List.set_cons_succ]
                    refine take_at (i := 12) 150 (v := ?_) rfl rfl (by kernel_rfl) (by kernel_rfl) (by kernel_rfl) (fun _ _ _ h => h) (by rfl) ?_ hHeld ?_
                    rotate_left
                    · (intro w hSw; (try dsimp only at hSw); go_simp; try with_reducible rfl)
                    simp only [Act.put, List.setIfInBounds_toArray, List.set_cons_zero, List.set_cons_succ]
                    refine run_at (i := 14) rfl (by kernel_rfl) (by rfl) (fun K hK => ?_)
                    simp only [List.getElem_toArray, List.getElem_cons_zero, List.getElem_cons_succ]
                    (refine wpo_store5 (W := wr) _ _ rfl _ _ _ _ _ _ (by rfl) (by rfl) (by simp [Value.oneCell']) _ _ _ _ _ _ hG9.out (by first | exact HW4.out | exact al HW4.out _) (by first | exact Nat.le_refl _ | exact HW1.out.size | exact HW2.out.size | exact HW3.out.size | exact HW4.out.size) ?_; intro z9 hz9 hc9 hg9; have HC9 : Hid _ := hc9; have HZ9 : Hid (Below wr.heap.size wr z9) := hz9; have HR91 : Hid (RdR z9 a1 o1) := (by first | exact RdR.st5 HR41.out hG9.out hg9 | exact RdR.st5 (RdR.below HR41.out (al (Below.refl _ _) _)) hG9.out hg9); have HR92 : Hid (RdR z9 a2 o2) := (by first | exact RdR.st5 HR42.out hG9.out hg9 | exact RdR.st5 (RdR.below HR42.out (al (Below.refl _ _) _)) hG9.out hg9); have HR93 : Hid (RdR z9 a3 o3) := (by first | exact RdR.st5 HR43.out hG9.out hg9 | exact RdR.st5 (RdR.below HR43.out (al (Below.refl _ _) _)) hG9.out hg9); have HR94 : Hid (RdR z9 a4 o4) := (by first | exact RdR.st5 HR44.out hG9.out hg9 | exact RdR.st5 (RdR.below HR44.out (al (Below.refl _ _) _)) hG9.out hg9); clear hc9 hg9 hG9)
                    refine hK.out _ _ (by with_reducible first | assumption | exact (Below.refl _ _).drew | exact al (Below.refl _ _).drew _ | exact (al (Below.refl _ _) _).drew | exact al (by assumption) _) ?_
                    clear hK K
                    intro hHeld2
                    clear hHeld
                    have hHeld := hHeld2
                    clear hHeld2
                    try simp only [Act.put, List.setIfInBounds_toArray, List.set_cons_zero, List.set_cons_succ]
                    refine wpAnyH_done (by kernel_rfl) ?_ _
                    refine NoPanic.normal ?_
                  all_goals
                    obtain ⟨r, hr⟩ : ∃ r : Nat, r = k % 5 := ⟨_, rfl⟩
                    obtain ⟨aV, nV, cV, oV, hcV, hRV, hLV, hnV⟩ := pick5 (r := r) (by omega) HC9.out HN1.out.2.1 (HRD1.out z9 (HBW.out z9 (below_next HBB.out HZ9.out))).2 HR91.out HR92.out HR93.out HR94.out HM1.out HM2.out HM3.out HM4.out
                    have hrd : Int.tmod (k : Int) 5 = (r : Int) := by rw [hr]; rfl
                    have hrw : wrap64 (r : Int) = (r : Int) := wrap64_small (by omega)
                    have HLK : Hid (LPk l1 l2 i0 r out0) := by rw [hr]; exact HLO.out.1
                    have HSM : Hid (∀ u, Below z9.heap.size z9 u → Calls Tryz.prog 17 #[.slice aL L cL, .slice aV nV cV] u fun e u' => e = .returned (.bool true) ∧ Below u.heap.size u u') := fun u hu => same_t aL aV L nV cL cV out0 oV u HLO.out.2.1 hnV (HRL0.out u (below_next HZ9.out hu)) (hRV.below hu) (by have := HLO.out; omega) (LPk_uniq HLK.out hLV)
                    have hcVA : ∀ u, Below z9.heap.size z9 u → u.cell? ⟨_, r, none⟩ = some (.slice aV nV cV) := fun u hu => (hu.cell (World.block_lt_of_cell? z9 _ hcV)).trans hcV
                    have hr5 : r < 5 := by omega
                    have hri : (r : Int) < 5 := by omega
                    have hr0 : (0 : Int) ≤ (r : Int) := by omega
                    have hki : (k : Int) < 15 := by omega
                    have hk0 : (0 : Int) ≤ (k : Int) := by omega
                    clear hr hcV hRV hLV hnV
                    go_wp2_with fail
                    refine wp_region_noPanic ?_
                    refine wp_region_held_drew (S := (fun u => Below z9.heap.size z9 u)) (by kernel_rfl) (by with_reducible first | assumption | exact (Below.refl _ _).drew) (fun hHeld => ?_)
                    refine take_at (i := 0) 151 (v := ?_) rfl rfl (by kernel_rfl) (by kernel_rfl) (by kernel_rfl) (fun _ _ _ h => h) (by rfl) ?_ hHeld ?_
                    rotate_left
                    · (intro w hSw; (try dsimp only at hSw); go_simp; try with_reducible rfl)
                    simp only [Act.put, List.setIfInBounds_toArray, List.set_cons_zero, List.set_cons_succ]
                    refine take_at (i := 1) 152 (v := ?_) rfl rfl (by kernel_rfl) (by kernel_rfl) (by kernel_rfl) (fun _ _ _ h => h) (by rfl) ?_ hHeld ?_
                    rotate_left
                    · (intro w hSw; (try dsimp only at hSw); go_simp; try with_reducible rfl)
                    simp only [Act.put, List.setIfInBounds_toArray, List.set_cons_zero, List.set_cons_succ]
                    refine take_at (i := 2) 153 (v := ?_) rfl rfl (by kernel_rfl) (by kernel_rfl) (by kernel_rfl) (fun _ _ _ h => h) (by rfl) ?_ hHeld ?_
                    rotate_left
                    · (intro w hSw; (try dsimp only at hSw); go_simp; try with_reducible rfl)
                    simp only [Act.put, List.setIfInBounds_toArray, List.set_cons_zero, List.set_cons_succ]
                    refine take_at (i := 3) 154 (v := ?_) rfl rfl (by kernel_rfl) (by kernel_rfl) (by kernel_rfl) (fun _ _ _ h => h) (by rfl) ?_ hHeld ?_
                    rotate_left
                    · (intro w hSw; have h7 := hcLA w (below_next HZ9.out hSw); (try dsimp only at hSw); go_simp; try with_reducible rfl)
                    simp only [Act.put, List.setIfInBounds_toArray, List.set_cons_zero, List.set_cons_succ]
                    refine take_at (i := 4) 155 (v := ?_) rfl rfl (by kernel_rfl) (by kernel_rfl) (by kernel_rfl) (fun _ _ _ h => h) (by rfl) ?_ hHeld ?_
                    rotate_left
                    · (intro w hSw; (try dsimp only at hSw); go_simp; try with_reducible rfl)
                    simp only [Act.put, List.setIfInBounds_toArray, List.set_cons_zero, List.set_cons_succ]
                    refine take_at (i := 5) 156 (v := ?_) rfl rfl (by kernel_rfl) (by kernel_rfl) (by kernel_rfl) (fun _ _ _ h => h) (by rfl) ?_ hHeld ?_
                    rotate_left
                    · (intro w hSw; (try dsimp only at hSw); go_simp; try with_reducible rfl)
                    simp only [Act.put, List.setIfInBounds_toArray, List.set_cons_zero, List.set_cons_succ]
                    refine take_at (i := 6) 157 (v := ?_) rfl rfl (by kernel_rfl) (by kernel_rfl) (by kernel_rfl) (fun _ _ _ h => h) (by rfl) ?_ hHeld ?_
                    rotate_left
                    · (intro w hSw; (try dsimp only at hSw); go_simp; try with_reducible rfl)
                    simp only [Act.put, List.setIfInBounds_toArray, List.set_cons_zero, List.set_cons_succ]
                    refine take_at (i := 7) 158 (v := ?_) rfl rfl (by kernel_rfl) (by kernel_rfl) (by kernel_rfl) (fun _ _ _ h => h) (by rfl) ?_ hHeld ?_
                    rotate_left
                    · (intro w hSw; have h7 := hcVA w hSw; (try dsimp only at hSw); go_simp; try with_reducible rfl)
                    simp only [Act.put, List.setIfInBounds_toArray, List.set_cons_zero, List.set_cons_succ]
                    refine run_at (i := 8) rfl (by kernel_rfl) (by rfl) (fun K hK => ?_)
                    simp only [List.getElem_toArray, List.getElem_cons_zero, List.getElem_cons_succ]
                    go_simp
                    (go_at_call 17; refine Calls.mono (HSM.out _ (Below.refl _ _).drew) ?_; rintro e u9 ⟨rfl, hb9⟩; have hS9 : Below z9.heap.size z9 u9 := below_next (Below.refl _ _).drew hb9; have HU9 : Hid (Below wr.heap.size wr u9) := below_next HZ9.out hS9; clear hb9)
                    go_wp2_with fail
                    refine hK.out _ _ (by with_reducible first | assumption | exact (Below.refl _ _).drew) ?_
                    clear hK K
                    intro hHeld2
                    clear hHeld
                    have hHeld := hHeld2
                    clear hHeld2
                    try simp only [Act.put, List.setIfInBounds_toArray, List.set_cons_zero, List.set_cons_succ]
                    refine take_at (i := 9) 160 (v := ?_) rfl rfl (by kernel_rfl) (by kernel_rfl) (by kernel_rfl) (fun _ _ _ h => h) (by rfl) ?_ hHeld ?_
                    rotate_left
                    · (intro w hSw; (try dsimp only at hSw); go_simp; try with_reducible rfl)
                    simp only [Act.put, List.setIfInBounds_toArray, List.set_cons_zero, List.set_cons_succ]
                    refine wpAnyH_done (by kernel_rfl) ?_ _
                    refine NoPanic.normal ?_
                    clear hcVA hcLA hrd hrw hr5 hri hr0 hv8A hv8 HSM HLK
                    go_wp2
                    go_roundw
                    case rel =>
                      iterate 38 (apply Exists.intro)
                      refine And.intro ?_ rfl
                      exact ⟨k + 1, by omega, by go_num, below_next HBK.out HU9.out⟩
                    case measure => simp [intOf]; omega
              · obtain rfl : 15 = k := by omega
                clear HPW2 HNM2
                as_aux_lemma =>
                  go_wp2
                  go_loopw [22, 23] (fun i _ wq => ∃ (k : Nat) (F' : KeyS → RowS), k ≤ 6 ∧ i = .int .i64 (k : Int) ∧ Fw B wq F' ∧ SameS F F' ∧ MkS 0 mfT F' k 0) (fun i _ _ => 6 - (intOf i).toNat)
                  case atStart => exact ⟨0, F, Nat.zero_le _, rfl, HNM.out.d, SameS.refl F, MkS.start _ _ _⟩
                  case round =>
                    obtain ⟨k, F', hk4, rfl, hd, hsv, hmk⟩ := hrel
                    have HDM : Hid _ := hd
                    have HSM : Hid _ := hsv
                    have HMM : Hid _ := hmk
                    have HNK : Hid _ := HNM.out.same HSM.out HDM.out
                    clear hd hsv hmk
                    by_cases hlt4 : k < 6
                    · have hcG := HNK.out.cellT k hlt4
                      obtain ⟨a1, c1, e1, hc1, g1⟩ := HDM.out.slv (0, k)
                      obtain ⟨L, hL⟩ : ∃ L, L = (F' (0, k)).n := ⟨_, rfl⟩
                      rw [← hL] at e1 hc1 g1
                      rw [e1] at hcG
                      have hlen : L ≤ 1000000 := by have := HLN.out.t k hlt4; rw [hL, HSM.out.n]; exact this
                      have HMI : Hid (MiS B wr F F' 6 0 k 0 mfT mfT (.slice a1 L c1) L 1) := ⟨HDM.out, HSM.out, HMM.out, fun e => by omega, e1, hL.symm, by rw [HSM.out.s]; exact (HNM.out.et k hlt4).2⟩
                      have HG1 : Hid (0 < L → ∃ g, a1 = some ⟨g, 0, none⟩) := fun hp => by obtain ⟨g, e, -⟩ := g1 hp; exact ⟨g, e⟩
                      have hk0 : (0 : Int) ≤ (k : Int) := by omega
                      have hki : (k : Int) < 6 := by omega
                      have hw1 : IntKind.i64.wrap ((k : Int) + 1) = (k : Int) + 1 := by rw [IntKind.wrap_i64]; omega
                      have hw2 : IntKind.u8.wrap ((k : Int) + 1) = (k : Int) + 1 := by rw [IntKind.wrap_u8]; omega
                      clear hL e1 g1 hc1 HDM HSM HMM HNK 
                      go_wp2
                      go_loopw [23] (fun j wq => ∃ (t : Nat) (F' : KeyS → RowS), t ≤ L ∧ j = .int .i64 (t : Int) ∧ MiS B wq F F' 6 0 k t mfT mfT (.slice a1 L c1) L 1) (fun j _ => L - (intOf j).toNat)
                      case atStart => exact ⟨0, F', Nat.zero_le _, rfl, HMI.out⟩
                      case round =>
                        clear hcG HMI
                        obtain ⟨t, F', ht, rfl, hmi⟩ := hrel
                        have hcG := (HNM.out.same hmi.sv hmi.d).cellT k hlt4
                        rw [hmi.vk] at hcG
                        by_cases hlt5 : t < L
                        · obtain ⟨g, rfl⟩ := HG1.out (by omega)
                          obtain ⟨a9, c9, e9, hc9, g9⟩ := hmi.d.slv (0, k)
                          rw [hmi.lk, hmi.sk] at g9
                          rw [hmi.lk] at e9
                          obtain ⟨g', e8, h8⟩ := g9 (by omega)
                          rw [hmi.vk] at e9
                          cases e9
                          cases e8
                          have hxl := (hmi.d.fam.own (0, k)).1
                          rw [hmi.lk, hmi.sk] at hxl
                          obtain ⟨hct, hfz⟩ := h8 t (by omega)
                          obtain ⟨x9, hx9⟩ : ∃ x, (F' (0, k)).xs[t]? = some x := ⟨_, List.getElem?_eq_getElem (by rw [hxl]; omega)⟩
                          rw [hx9] at hct
                          clear hx9
                          have HMI : Hid _ := hmi
                          clear g9 h8 hmi hc9 hxl
                          go_wp2
                          skip
                          go_roundw
                          case rel =>
                            obtain ⟨F9, h9⟩ := HMI.out.set (by decide) g c1 rfl hlt5 [.int .u8 ((k : Int) + 1)] (by rfl) (by rfl)
                            rw [setCells_one] at h9
                            exact ⟨t + 1, F9, by omega, by go_num, h9⟩
                          case measure => simp [intOf]; omega
                        · obtain rfl : L = t := by omega
                          have HMI : Hid _ := hmi
                          clear hmi
                          go_wp2
                          go_roundw
                          case rel => exact ⟨k + 1, F', by omega, by go_num, HMI.out.d, HMI.out.sv, HMI.out.mt.next (by rw [HMI.out.lk]; exact Nat.le_refl _)⟩
                          case measure => simp [intOf]; omega
                    · obtain rfl : 6 = k := by omega
                      clear HNK
                      go_wp2
                      go_loopw [24, 25] (fun i _ wq => ∃ (k : Nat) (F' : KeyS → RowS), k ≤ 15 ∧ i = .int .i64 (k : Int) ∧ Fw B wq F' ∧ SameS F F' ∧ MkS 1 mfL F' k 0 ∧ MkS 0 mfT F' 6 0) (fun i _ _ => 15 - (intOf i).toNat)
                      case atStart => exact ⟨0, F', Nat.zero_le _, rfl, HDM.out, HSM.out, MkS.start _ _ _, HMM.out⟩
                      case round =>
                        obtain ⟨k, F', hk4, rfl, hd, hsv, hmk, hex⟩ := hrel
                        have HDM : Hid _ := hd
                        have HSM : Hid _ := hsv
                        have HMM : Hid _ := hmk
                        have HXM : Hid _ := hex
                        clear hex
                        have HNK : Hid _ := HNM.out.same HSM.out HDM.out
                        clear hd hsv hmk
                        by_cases hlt4 : k < 15
                        · have hcG := HNK.out.cellL k hlt4
                          obtain ⟨a1, c1, e1, hc1, g1⟩ := HDM.out.slv (1, k)
                          obtain ⟨L, hL⟩ : ∃ L, L = (F' (1, k)).n := ⟨_, rfl⟩
                          rw [← hL] at e1 hc1 g1
                          rw [e1] at hcG
                          have hlen : L ≤ 1000000 := by have := HLN.out.l k hlt4; rw [hL, HSM.out.n]; exact this
                          have HMI : Hid (MiS B wr F F' 6 1 k 0 mfL mfT (.slice a1 L c1) L 2) := ⟨HDM.out, HSM.out, HMM.out, fun _ => HXM.out, e1, hL.symm, by rw [HSM.out.s]; exact (HNM.out.el k hlt4).2⟩
                          have HG1 : Hid (0 < L → ∃ g, a1 = some ⟨g, 0, none⟩) := fun hp => by obtain ⟨g, e, -⟩ := g1 hp; exact ⟨g, e⟩
                          have hk0 : (0 : Int) ≤ (k : Int) := by omega
                          have hki : (k : Int) < 15 := by omega
                          have hw1 : IntKind.i64.wrap (1000 + (k : Int)) = 1000 + (k : Int) := by rw [IntKind.wrap_i64]; omega
                          clear hL e1 g1 hc1 HDM HSM HMM HNK HXM
                          go_wp2
                          go_loopw [25] (fun j wq => ∃ (t : Nat) (F' : KeyS → RowS), t ≤ L ∧ j = .int .i64 (t : Int) ∧ MiS B wq F F' 6 1 k t mfL mfT (.slice a1 L c1) L 2) (fun j _ => L - (intOf j).toNat)
                          case atStart => exact ⟨0, F', Nat.zero_le _, rfl, HMI.out⟩
                          case round =>
                            clear hcG HMI
                            obtain ⟨t, F', ht, rfl, hmi⟩ := hrel
                            have hcG := (HNM.out.same hmi.sv hmi.d).cellL k hlt4
                            rw [hmi.vk] at hcG
                            by_cases hlt5 : t < L
                            · obtain ⟨g, rfl⟩ := HG1.out (by omega)
                              obtain ⟨a9, c9, e9, hc9, g9⟩ := hmi.d.slv (1, k)
                              rw [hmi.lk, hmi.sk] at g9
                              rw [hmi.lk] at e9
                              obtain ⟨g', e8, h8⟩ := g9 (by omega)
                              rw [hmi.vk] at e9
                              cases e9
                              cases e8
                              have hxl := (hmi.d.fam.own (1, k)).1
                              rw [hmi.lk, hmi.sk] at hxl
                              obtain ⟨hct, hfz⟩ := h8 (t * 2) (by omega)
                              obtain ⟨hct2, hfz2⟩ := h8 (t * 2 + 1) (by omega)
                              obtain ⟨x9, hx9⟩ : ∃ x, (F' (1, k)).xs[t * 2]? = some x := ⟨_, List.getElem?_eq_getElem (by rw [hxl]; omega)⟩
                              obtain ⟨x8, hx8⟩ : ∃ x, (F' (1, k)).xs[t * 2 + 1]? = some x := ⟨_, List.getElem?_eq_getElem (by rw [hxl]; omega)⟩
                              rw [hx9] at hct
                              rw [hx8] at hct2
                              clear hx9 hx8
                              have HMI : Hid _ := hmi
                              clear g9 h8 hmi hc9 hxl
                              go_wp2
                              skip
                              go_roundw
                              case rel =>
                                obtain ⟨F9, h9⟩ := HMI.out.set (by decide) g c1 rfl hlt5 [.int .i64 (1000 + (k : Int)), .int .i64 0] (by rfl) (by rfl)
                                skip
                                exact ⟨t + 1, F9, by omega, by go_num, h9⟩
                              case measure => simp [intOf]; omega
                            · obtain rfl : L = t := by omega
                              have HMI : Hid _ := hmi
                              clear hmi
                              go_wp2
                              go_roundw
                              case rel => exact ⟨k + 1, F', by omega, by go_num, HMI.out.d, HMI.out.sv, HMI.out.mt.next (by rw [HMI.out.lk]; exact Nat.le_refl _), HMI.out.ex rfl⟩
                              case measure => simp [intOf]; omega
                        · obtain rfl : 15 = k := by omega
                          clear HNK
                          as_aux_lemma =>
                            obtain ⟨F2, hF2⟩ : ∃ F2, F2 = F' := ⟨_, rfl⟩
                            subst hF2
                            have HNG : Hid _ := HNM.out.same HSM.out HDM.out
                            have HL2 : Hid (Ln F2 6 15) := ⟨fun i hi => by rw [HSM.out.n]; exact HLN.out.t i hi, fun i hi => by rw [HSM.out.n]; exact HLN.out.l i hi⟩
                            have HMK : Hid (MkS 0 mfT F2 6 0 ∧ MkS 1 mfL F2 15 0) := ⟨HXM.out, HMM.out⟩
                            clear HSM HDM HXM HMM HNM HLN
                            go_wp2
                            go_loopw [26, 27, 28] (fun i _ _ wq => ∃ (k : Nat), k ≤ 6 ∧ i = .int .i64 (k : Int) ∧ Nm B wq F2 6 15 Gt ct Gl cl) (fun i _ _ _ => 6 - (intOf i).toNat)
                            case atStart => exact ⟨0, Nat.zero_le _, rfl, HNG.out⟩
                            case round =>
                              obtain ⟨k, hk6, rfl, hnm⟩ := hrel
                              have HNG : Hid _ := hnm
                              clear hnm
                              by_cases hlt6 : k < 6
                              · have hcG := HNG.out.cellT k hlt6
                                obtain ⟨a1, c1, e1, hc1, g1⟩ := HNG.out.d.slv (0, k)
                                obtain ⟨L, hL⟩ : ∃ L, L = (F2 (0, k)).n := ⟨_, rfl⟩
                                rw [← hL] at e1
                                have hlen : L ≤ 1000000 := by have := HL2.out.t k hlt6; rw [hL]; exact this
                                rw [e1] at hcG
                                have HMO : Hid (MoS B wr F2 (0, k) (.slice a1 L c1) L (F2 (0, k)).xs) := by have h9 := MoS.start HNG.out.d (0, k); rw [e1, ← hL] at h9; exact h9
                                have HTY : Hid ((F2 (0, k)).e = 5 ∧ (F2 (0, k)).s = 1) := HNG.out.et k hlt6
                                have hk0 : (0 : Int) ≤ (k : Int) := by omega
                                have hki : (k : Int) < 6 := by omega
                                have HNF : Hid (∀ z, Fw B z F2 → Nm B z F2 6 15 Gt ct Gl cl) := fun z hz => HNG.out.same (SameS.refl F2) hz
                                clear hL e1 g1 hc1 HNG
                                go_wp2
                                go_loopw [27, 28] (fun mo j wq => ∃ (v : Value) (t : Nat) (ms : List Value), v = mo ∧ t ≤ 64 ∧ j = .int .i64 (t : Int) ∧ MoS B wq F2 (0, k) v (L + t) ms) (fun _ j _ => 64 - (intOf j).toNat)
                                case atStart => exact ⟨_, 0, _, rfl, Nat.zero_le _, rfl, HMO.out⟩
                                case round =>
                                  clear hcG HMO
                                  obtain ⟨vm, t, ms, rfl, ht, rfl, hmo⟩ := hrel
                                  by_cases hlt7 : t < 64
                                  · obtain ⟨X, hX⟩ : ∃ X : World, X = wr.alloc (.cells #[.int .u8 222] 5) := ⟨_, rfl⟩
                                    have hXb : Below wr.heap.size wr X := by rw [hX]; exact al (Below.refl _ _) _
                                    have hXr : X.heap[wr.heap.size]? = some (.cells ([.int .u8 222]).toArray 5 (0, 0)) := by rw [hX]; exact heap_alloc_new wr _
                                    have HMX : Hid _ := hmo.below hXb
                                    clear hmo hXb
                                    go_wp2_with (at_builtin; rw [← hX]; refine wp_appMS rfl _ _ 23 5 (.int .u8 0) 1 1 Tryz.underlying23 info5 rfl (by decide) (by decide) rfl HMX.out HTY.out.1 HTY.out.2 rfl wr.heap.size 1 [.int .u8 222] rfl rfl hXr (by intro u hu; simp at hu; first | (subst hu; rfl) | (rcases hu with rfl | rfl <;> rfl)) (by omega) ?_; intro v3 w3 hmo3)
                                    have HM3 : Hid _ := hmo3
                                    clear hmo3
                                    go_wp2
                                    go_roundw
                                    case rel =>
                                      iterate 9 (apply Exists.intro)
                                      refine And.intro ?_ rfl
                                      exact ⟨_, t + 1, ms ++ [.int .u8 222], rfl, by omega, by go_num, HM3.out⟩
                                    case measure => simp [intOf]; omega
                                  · obtain rfl : 64 = t := by omega
                                    have HMO : Hid _ := hmo
                                    clear hmo
                                    go_wp2
                                    go_roundw
                                    case rel => exact ⟨k + 1, by omega, by go_num, HNF.out _ HMO.out.d⟩
                                    case measure => simp [intOf]; omega
                              · obtain rfl : 6 = k := by omega
                                go_wp2
                                go_loopw [29, 30, 31] (fun i _ _ wq => ∃ (k : Nat), k ≤ 15 ∧ i = .int .i64 (k : Int) ∧ Nm B wq F2 6 15 Gt ct Gl cl) (fun i _ _ _ => 15 - (intOf i).toNat)
                                case atStart => exact ⟨0, Nat.zero_le _, rfl, HNG.out⟩
                                case round =>
                                  obtain ⟨k, hk6, rfl, hnm⟩ := hrel
                                  have HNG : Hid _ := hnm
                                  clear hnm
                                  by_cases hlt6 : k < 15
                                  · have hcG := HNG.out.cellL k hlt6
                                    obtain ⟨a1, c1, e1, hc1, g1⟩ := HNG.out.d.slv (1, k)
                                    obtain ⟨L, hL⟩ : ∃ L, L = (F2 (1, k)).n := ⟨_, rfl⟩
                                    rw [← hL] at e1
                                    have hlen : L ≤ 1000000 := by have := HL2.out.l k hlt6; rw [hL]; exact this
                                    rw [e1] at hcG
                                    have HMO : Hid (MoS B wr F2 (1, k) (.slice a1 L c1) L (F2 (1, k)).xs) := by have h9 := MoS.start HNG.out.d (1, k); rw [e1, ← hL] at h9; exact h9
                                    have HTY : Hid ((F2 (1, k)).e = tR ∧ (F2 (1, k)).s = 2) := HNG.out.el k hlt6
                                    have hk0 : (0 : Int) ≤ (k : Int) := by omega
                                    have hki : (k : Int) < 15 := by omega
                                    have HNF : Hid (∀ z, Fw B z F2 → Nm B z F2 6 15 Gt ct Gl cl) := fun z hz => HNG.out.same (SameS.refl F2) hz
                                    clear hL e1 g1 hc1 HNG
                                    go_wp2
                                    go_loopw [30, 31] (fun mo j wq => ∃ (v : Value) (t : Nat) (ms : List Value), v = mo ∧ t ≤ 64 ∧ j = .int .i64 (t : Int) ∧ MoS B wq F2 (1, k) v (L + t) ms) (fun _ j _ => 64 - (intOf j).toNat)
                                    case atStart => exact ⟨_, 0, _, rfl, Nat.zero_le _, rfl, HMO.out⟩
                                    case round =>
                                      clear hcG HMO
                                      obtain ⟨vm, t, ms, rfl, ht, rfl, hmo⟩ := hrel
                                      by_cases hlt7 : t < 64
                                      · obtain ⟨X, hX⟩ : ∃ X : World, X = wr.alloc (.cells #[.int .i64 7, .int .i64 0] tR) := ⟨_, rfl⟩
                                        have hXb : Below wr.heap.size wr X := by rw [hX]; exact al (Below.refl _ _) _
                                        have hXr : X.heap[wr.heap.size]? = some (.cells ([.int .i64 7, .int .i64 0]).toArray tR (0, 0)) := by rw [hX]; exact heap_alloc_new wr _
                                        have HMX : Hid _ := hmo.below hXb
                                        clear hmo hXb
                                        go_wp2_with (at_builtin; rw [← hX]; refine wp_appMS rfl _ _ 24 tR (.agg #[.int .i64 0, .int .i64 0]) 2 16 Tryz.underlying24 infoR rfl (by decide) (by decide) rfl HMX.out HTY.out.1 HTY.out.2 rfl wr.heap.size 1 [.int .i64 7, .int .i64 0] rfl rfl hXr (by intro u hu; simp at hu; first | (subst hu; rfl) | (rcases hu with rfl | rfl <;> rfl)) (by omega) ?_; intro v3 w3 hmo3)
                                        have HM3 : Hid _ := hmo3
                                        clear hmo3
                                        go_wp2
                                        go_roundw
                                        case rel =>
                                          iterate 10 (apply Exists.intro)
                                          refine And.intro ?_ rfl
                                          exact ⟨_, t + 1, ms ++ [.int .i64 7, .int .i64 0], rfl, by omega, by go_num, HM3.out⟩
                                        case measure => simp [intOf]; omega
                                      · obtain rfl : 64 = t := by omega
                                        have HMO : Hid _ := hmo
                                        clear hmo
                                        go_wp2
                                        go_roundw
                                        case rel => exact ⟨k + 1, by omega, by go_num, HNF.out _ HMO.out.d⟩
                                        case measure => simp [intOf]; omega
                                  · obtain rfl : 15 = k := by omega
                                    as_aux_lemma =>
                                      go_wp2
                                      go_loopw [32, 33] (fun i _ wq => ∃ (k : Nat), k ≤ 6 ∧ i = .int .i64 (k : Int) ∧ Nm B wq F2 6 15 Gt ct Gl cl) (fun i _ _ => 6 - (intOf i).toNat)
                                      case atStart => exact ⟨0, Nat.zero_le _, rfl, HNG.out⟩
                                      case round =>
                                        obtain ⟨k, hk8, rfl, hnm⟩ := hrel
                                        have HNC : Hid _ := hnm
                                        clear hnm HNG
                                        by_cases hlt8 : k < 6
                                        · have hcG := HNC.out.cellT k hlt8
                                          obtain ⟨a1, c1, e1, hc1, g1⟩ := HNC.out.d.slv (0, k)
                                          obtain ⟨hty, hsz⟩ := HNC.out.et k hlt8
                                          have hmk := HMK.out.1 k
                                          obtain ⟨L, hL⟩ : ∃ L, L = (F2 (0, k)).n := ⟨_, rfl⟩
                                          rw [← hL] at e1 g1
                                          rw [hsz] at g1
                                          rw [e1] at hcG
                                          have hlen : L ≤ 1000000 := by have := HL2.out.t k hlt8; rw [hL]; exact this
                                          have HG1 : Hid _ := g1
                                          have HMQ : Hid (∀ j, j < L → ∀ q, q < 1 → (F2 (0, k)).xs[j * 1 + q]? = (mfT k)[q]?) := fun j hj q hq => by have h9 := hmk j (.inl hlt8) (by rw [← hL]; exact hj) q (by rw [hsz]; exact hq); rw [hsz] at h9; exact h9
                                          have hk0 : (0 : Int) ≤ (k : Int) := by omega
                                          have hki : (k : Int) < 6 := by omega
                                          have hw1 : IntKind.i64.wrap ((k : Int) + 1) = (k : Int) + 1 := by rw [IntKind.wrap_i64]; omega
                                          have hw2 : IntKind.u8.wrap ((k : Int) + 1) = (k : Int) + 1 := by rw [IntKind.wrap_u8]; omega
                                          clear hL e1 g1 hc1 hty hsz hmk
                                          go_wp2
                                          go_loopw [33] (fun j wq => ∃ (t : Nat), t ≤ L ∧ j = .int .i64 (t : Int) ∧ wq = wr) (fun j _ => L - (intOf j).toNat)
                                          case atStart => exact ⟨0, Nat.zero_le _, rfl, rfl⟩
                                          case round =>
                                            obtain ⟨t, ht, rfl, rfl⟩ := hrel
                                            by_cases hlt9 : t < L
                                            · obtain ⟨g, rfl, hg⟩ := HG1.out (by omega)
                                              have hct := (hg t (by omega)).1
                                              have h9 := HMQ.out t hlt9 0 (by decide)
                                              rw [Nat.mul_one, Nat.add_zero] at h9
                                              rw [h9] at hct
                                              simp only [mfT, List.getElem?_cons_zero] at hct
                                              clear h9 hg
                                              go_wp2
                                              go_roundw
                                              case rel => exact ⟨t + 1, by omega, by go_num, by first | rfl | trivial⟩
                                              case measure => simp [intOf]; omega
                                            · obtain rfl : L = t := by omega
                                              go_wp2
                                              go_roundw
                                              case rel => exact ⟨k + 1, by omega, by go_num, HNC.out⟩
                                              case measure => simp [intOf]; omega
                                        · obtain rfl : 6 = k := by omega
                                          have HNG : Hid _ := HNC.out
                                          clear HNC
                                          go_wp2
                                          go_loopw [34, 35] (fun i _ wq => ∃ (k : Nat), k ≤ 15 ∧ i = .int .i64 (k : Int) ∧ Nm B wq F2 6 15 Gt ct Gl cl) (fun i _ _ => 15 - (intOf i).toNat)
                                          case atStart => exact ⟨0, Nat.zero_le _, rfl, HNG.out⟩
                                          case round =>
                                            obtain ⟨k, hk8, rfl, hnm⟩ := hrel
                                            have HNC : Hid _ := hnm
                                            clear hnm HNG
                                            by_cases hlt8 : k < 15
                                            · have hcG := HNC.out.cellL k hlt8
                                              obtain ⟨a1, c1, e1, hc1, g1⟩ := HNC.out.d.slv (1, k)
                                              obtain ⟨hty, hsz⟩ := HNC.out.el k hlt8
                                              have hmk := HMK.out.2 k
                                              obtain ⟨L, hL⟩ : ∃ L, L = (F2 (1, k)).n := ⟨_, rfl⟩
                                              rw [← hL] at e1 g1
                                              rw [hsz] at g1
                                              rw [e1] at hcG
                                              have hlen : L ≤ 1000000 := by have := HL2.out.l k hlt8; rw [hL]; exact this
                                              have HG1 : Hid _ := g1
                                              have HMQ : Hid (∀ j, j < L → ∀ q, q < 2 → (F2 (1, k)).xs[j * 2 + q]? = (mfL k)[q]?) := fun j hj q hq => by have h9 := hmk j (.inl hlt8) (by rw [← hL]; exact hj) q (by rw [hsz]; exact hq); rw [hsz] at h9; exact h9
                                              have hk0 : (0 : Int) ≤ (k : Int) := by omega
                                              have hki : (k : Int) < 15 := by omega
                                              have hw1 : IntKind.i64.wrap (1000 + (k : Int)) = 1000 + (k : Int) := by rw [IntKind.wrap_i64]; omega
                                              clear hL e1 g1 hc1 hty hsz hmk
                                              go_wp2
                                              go_loopw [35] (fun j wq => ∃ (t : Nat), t ≤ L ∧ j = .int .i64 (t : Int) ∧ wq = wr) (fun j _ => L - (intOf j).toNat)
                                              case atStart => exact ⟨0, Nat.zero_le _, rfl, rfl⟩
                                              case round =>
                                                obtain ⟨t, ht, rfl, rfl⟩ := hrel
                                                by_cases hlt9 : t < L
                                                · obtain ⟨g, rfl, hg⟩ := HG1.out (by omega)
                                                  have hct := (hg (t * 2) (by omega)).1
                                                  have hct2 := (hg (t * 2 + 1) (by omega)).1
                                                  have h9 := HMQ.out t hlt9 0 (by decide)
                                                  have h8 := HMQ.out t hlt9 1 (by decide)
                                                  rw [Nat.add_zero] at h9
                                                  rw [h9] at hct
                                                  rw [h8] at hct2
                                                  simp only [mfL, List.getElem?_cons_zero, List.getElem?_cons_succ] at hct hct2
                                                  clear h9 h8 hg
                                                  go_wp2
                                                  go_roundw
                                                  case rel => exact ⟨t + 1, by omega, by go_num, by first | rfl | trivial⟩
                                                  case measure => simp [intOf]; omega
                                                · obtain rfl : L = t := by omega
                                                  go_wp2
                                                  go_roundw
                                                  case rel => exact ⟨k + 1, by omega, by go_num, HNC.out⟩
                                                  case measure => simp [intOf]; omega
                                            · obtain rfl : 15 = k := by omega
                                              have HNG : Hid _ := HNC.out
                                              clear HNC
                                              as_aux_lemma =>
                                                have HB9 : Hid _ := HNG.out.d.bel
                                                have HKE1 : Hid _ := kept_t k1 e1 s1 p1 i1 c1 gd1 dn1 cd1 gg1 gn1 DC1 GC1 da1 dc1 ga1 gc1 ds1 l1 wr HN1.out.1 HN1.out.2.1 HN1.out.2.2.1 HN1.out.2.2.2.1 (HG1.out wr HB9.out).1 (HRD1.out wr (HBW.out wr HB9.out)).1 (HG1.out wr HB9.out).2 (HRD1.out wr (HBW.out wr HB9.out)).2 (by have := HN1.out; omega) (by have := HN1.out; omega)
                                                go_wp2_with (first | (refine wpList_load_g (by rfl) 26 _ rfl bx 0 (by rfl) [.int .i64 k1, .int .u64 e1, .int .u64 s1, .int .i64 p1, .int .i64 i1, .int .i64 c1, .slice (some ⟨gd1, 0, none⟩) dn1 DC1, .int .i64 cd1, .slice (some ⟨gg1, 0, none⟩) gn1 GC1] _ (HBX.out _ HB9.out) Tryz.underlying26 rfl info_un ?_) | (refine wpList_load_g (by rfl) 26 _ rfl w.heap.size 0 (by rfl) [.int .i64 k1, .int .u64 e1, .int .u64 s1, .int .i64 p1, .int .i64 i1, .int .i64 c1, .slice da1 dn1 dc1, .int .i64 cd1, .slice ga1 gn1 gc1] _ (HBU.out _ HB9.out) Tryz.underlying26 rfl info_un ?_))
                                                refine Calls.mono HKE1.out ?_
                                                rintro er z1 ⟨rfl, hb1⟩
                                                have HB10 : Hid _ := below_next HB9.out hb1
                                                clear hb1 HKE1
                                                have HKE2 : Hid _ := kept_t k2 e2 s2 p2 i2 c2 gd2 dn2 cd2 gg2 gn2 DC2 GC2 da2 dc2 ga2 gc2 ds2 l2 z1 HN2.out.1 HN2.out.2.1 HN2.out.2.2.1 HN2.out.2.2.2.1 (HG2.out z1 HB10.out).1 (HRD2.out z1 (HBW.out z1 HB10.out)).1 (HG2.out z1 HB10.out).2 (HRD2.out z1 (HBW.out z1 HB10.out)).2 (by have := HN2.out; omega) (by have := HN2.out; omega)
                                                go_wp2_with (first | (refine wpList_load_g (by rfl) 26 _ rfl by0 0 (by rfl) [.int .i64 k2, .int .u64 e2, .int .u64 s2, .int .i64 p2, .int .i64 i2, .int .i64 c2, .slice (some ⟨gd2, 0, none⟩) dn2 DC2, .int .i64 cd2, .slice (some ⟨gg2, 0, none⟩) gn2 GC2] _ (HBY.out _ HB10.out) Tryz.underlying26 rfl info_un ?_) | (refine wpList_load_g (by rfl) 26 _ rfl (w.heap.size + 1) 0 (by rfl) [.int .i64 k2, .int .u64 e2, .int .u64 s2, .int .i64 p2, .int .i64 i2, .int .i64 c2, .slice da2 dn2 dc2, .int .i64 cd2, .slice ga2 gn2 gc2] _ (HBV.out _ HB10.out) Tryz.underlying26 rfl info_un ?_))
                                                refine Calls.mono HKE2.out ?_
                                                rintro er z2 ⟨rfl, hb2⟩
                                                have HB11 : Hid _ := below_next HB10.out hb2
                                                clear hb2 HKE2 HNG HMK HL2
                                                obtain ⟨hk9, hgx, hhx⟩ := HKB.out z2 HB11.out
                                                obtain ⟨hr9, hl9⟩ := HG1.out z2 HB11.out
                                                have HGX : Hid (gd1 < bx) := hgx
                                                have HXC : Hid (∀ z, z2.grownBy z (some gd1) → z.heap[bx]? = some (.cells #[.int .i64 k1, .int .u64 e1, .int .u64 s1, .int .i64 p1, .int .i64 i1, .int .i64 c1, .slice (some ⟨gd1, 0, none⟩) dn1 DC1, .int .i64 cd1, .slice (some ⟨gg1, 0, none⟩) gn1 GC1] 26 (0, 0))) := fun z hz => (hz.block bx (Array.getElem?_eq_some_iff.1 hhx).1 (fun e => by have h9 := Option.some.inj e; have := HGX.out; omega)).trans hhx
                                                have HLC : Hid (∀ z, z2.grownBy z (some gd1) → RdR z (some ⟨gg1, 0, none⟩) (l1 ++ m3)) := fun z hz => RdR.grown hl9 hz (fun a ha => by cases ha; intro h; simp only at h; exact rd_ne hr9 hl9 h.symm)
                                                have HTC : Hid (∀ z, z2.grownBy z (some gd1) → TabOk z) := fun z hz => (HTB.out z2 (HBW.out z2 HB11.out)).grownD hz (HGW.out)
                                                have HX0 : Hid (XorAt z2 z2 gd1 ds1 0) := ⟨World.grownBy.refl _ _, by simpa [xorL] using hr9, hk9⟩
                                                clear hk9 hgx hhx hr9 hl9
                                                go_wp2
                                                go_loopw [36] (fun i wq => ∃ k : Nat, k ≤ dn1 ∧ i = .int .i64 (k : Int) ∧ XorAt z2 wq gd1 ds1 k) (fun i _ => dn1 - (intOf i).toNat)
                                                case atStart => exact ⟨0, Nat.zero_le _, rfl, HX0.out⟩
                                                case round =>
                                                  obtain ⟨k, hk16, rfl, hxa⟩ := hrel
                                                  have HXA : Hid _ := hxa
                                                  clear hxa HX0
                                                  have hhb := HXC.out wr HXA.out.gr
                                                  have hx6 : wr.cell? ⟨bx, 6, none⟩ = some (.slice (some ⟨gd1, 0, none⟩) dn1 DC1) := by rw [cell_of_row _ _ _ _ _ _ hhb]; rfl
                                                  have hD1 : dn1 ≤ 1048576 := by have h9 := valid_data HV9.out; have := HN1.out.1; simp only at h9; omega
                                                  have HHB : Hid _ := hhb
                                                  clear hhb
                                                  by_cases hlt16 : k < dn1
                                                  · obtain ⟨hct, hfz⟩ := HXA.out.cell (by have := HN1.out.1; omega)
                                                    have hk0 : (0 : Int) ≤ (k : Int) := by omega
                                                    have hki : (k : Int) < (dn1 : Int) := by omega
                                                    have hx6A : ∀ u, Below wr.heap.size wr u → u.cell? ⟨bx, 6, none⟩ = some (.slice (some ⟨gd1, 0, none⟩) dn1 DC1) := fun u hu => (hu.cell (World.block_lt_of_cell? wr _ hx6)).trans hx6
                                                    have hx6S : ∀ (u : World) (v : Value), u.cell? ⟨bx, 6, none⟩ = some (.slice (some ⟨gd1, 0, none⟩) dn1 DC1) → (u.setCell ⟨gd1, k, none⟩ v).cell? ⟨bx, 6, none⟩ = some (.slice (some ⟨gd1, 0, none⟩) dn1 DC1) := fun u v h => cell_apart h (by have := HGX.out; omega)
                                                    have hlt17 : k < ds1.length := by have := HN1.out.1; omega
                                                    go_wp2_with fail
                                                    refine wp_region_noPanic ?_
                                                    refine wp_region_held_drew (S := (fun u => u.cell? ⟨bx, 6, none⟩ = some (.slice (some ⟨gd1, 0, none⟩) dn1 DC1))) (by kernel_rfl) (by first | exact hx6 | assumption | exact hx6S _ _ (by first | exact hx6 | assumption)) (fun hHeld => ?_)
                                                    refine take_at (i := 0) 313 (v := ?_) rfl rfl (by kernel_rfl) (by kernel_rfl) (by kernel_rfl) (fun _ _ _ h => h) (by rfl) ?_ hHeld ?_
                                                    rotate_left
                                                    · (intro w hSw; (try dsimp only at hSw); go_simp; try with_reducible rfl)
                                                    simp only [Act.put, List.setIfInBounds_toArray, List.set_cons_zero, List.set_cons_succ]
                                                    refine take_at (i := 1) 314 (v := ?_) rfl rfl (by kernel_rfl) (by kernel_rfl) (by kernel_rfl) (fun _ _ _ h => h) (by rfl) ?_ hHeld ?_
                                                    rotate_left
                                                    · (intro w hSw; (try dsimp only at hSw); go_simp; try with_reducible rfl)
                                                    simp only [Act.put, List.setIfInBounds_toArray, List.set_cons_zero, List.set_cons_succ]
                                                    refine take_at (i := 2) 315 (v := ?_) rfl rfl (by kernel_rfl) (by kernel_rfl) (by kernel_rfl) (fun _ _ _ h => h) (by rfl) ?_ hHeld ?_
                                                    rotate_left
                                                    · (intro w hSw; (try dsimp only at hSw); go_simp; try with_reducible rfl)
                                                    simp only [Act.put, List.setIfInBounds_toArray, List.set_cons_zero, List.set_cons_succ]
                                                    refine take_at (i := 3) 316 (v := ?_) rfl rfl (by kernel_rfl) (by kernel_rfl) (by kernel_rfl) (fun _ _ _ h => h) (by rfl) ?_ hHeld ?_
                                                    rotate_left
                                                    · (intro w hSw; (try dsimp only at hSw); go_simp; try with_reducible rfl)
                                                    simp only [Act.put, List.setIfInBounds_toArray, List.set_cons_zero, List.set_cons_succ]
                                                    refine take_at (i := 4) 317 (v := ?_) rfl rfl (by kernel_rfl) (by kernel_rfl) (by kernel_rfl) (fun _ _ _ h => h) (by rfl) ?_ hHeld ?_
                                                    rotate_left
                                                    · (intro w hSw; (try dsimp only at hSw); go_simp; try with_reducible rfl)
                                                    simp only [Act.put, List.setIfInBounds_toArray, List.set_cons_zero, List.set_cons_succ]
                                                    refine take_at (i := 5) 318 (v := ?_) rfl rfl (by kernel_rfl) (by kernel_rfl) (by kernel_rfl) (fun _ _ _ h => h) (by rfl) ?_ hHeld ?_
                                                    rotate_left
                                                    · (intro w hSw; (try dsimp only at hSw); go_simp; try with_reducible rfl)
                                                    simp only [Act.put, List.setIfInBounds_toArray, List.set_cons_zero, List.set_cons_succ]
                                                    refine take_at (i := 6) 319 (v := ?_) rfl rfl (by kernel_rfl) (by kernel_rfl) (by kernel_rfl) (fun _ _ _ h => h) (by rfl) ?_ hHeld ?_
                                                    rotate_left
                                                    · (intro w hSw; (try dsimp only at hSw); go_simp; try with_reducible rfl)
                                                    simp only [Act.put, List.setIfInBounds_toArray, List.set_cons_zero, List.set_cons_succ]
                                                    refine val_at (i := 7) 320 (v := ?_) rfl rfl (by kernel_rfl) (by rfl) ?_ ?_ ?_
                                                    rotate_left
                                                    · (go_simp; try with_reducible rfl)
                                                    · (first | exact hx6 | assumption | exact hx6S _ _ (by first | exact hx6 | assumption))
                                                    intro hHeld2
                                                    clear hHeld
                                                    have hHeld := hHeld2
                                                    clear hHeld2
                                                    simp only [Act.put, List.setIfInBounds_toArray, List.set_cons_zero, List.set_cons_succ]
                                                    refine take_at (i := 8) 321 (v := ?_) rfl rfl (by kernel_rfl) (by kernel_rfl) (by kernel_rfl) (fun _ _ _ h => h) (by rfl) ?_ hHeld ?_
                                                    rotate_left
                                                    · (intro w hSw; (try dsimp only at hSw); go_simp; try with_reducible rfl)
                                                    simp only [Act.put, List.setIfInBounds_toArray, List.set_cons_zero, List.set_cons_succ]
                                                    refine take_at (i := 9) 322 (v := ?_) rfl rfl (by kernel_rfl) (by kernel_rfl) (by kernel_rfl) (fun _ _ _ h => h) (by rfl) ?_ hHeld ?_
                                                    rotate_left
                                                    · (intro w hSw; (try dsimp only at hSw); go_simp; try with_reducible rfl)
                                                    simp only [Act.put, List.setIfInBounds_toArray, List.set_cons_zero, List.set_cons_succ]
                                                    refine run_at (i := 10) rfl (by kernel_rfl) (by rfl) (fun K hK => ?_)
                                                    simp only [List.getElem_toArray, List.getElem_cons_zero, List.getElem_cons_succ]
                                                    go_simp
                                                    go_wp2_with fail
                                                    refine hK.out _ _ (by first | exact hx6 | assumption | exact hx6S _ _ (by first | exact hx6 | assumption)) ?_
                                                    clear hK K
                                                    intro hHeld2
                                                    clear hHeld
                                                    have hHeld := hHeld2
                                                    clear hHeld2
                                                    try simp only [Act.put, List.setIfInBounds_toArray, List.set_cons_zero, List.set_cons_succ]
                                                    refine wpAnyH_done (by kernel_rfl) ?_ _
                                                    refine NoPanic.normal ?_
                                                    all_goals
                                                      go_wp2
                                                      go_roundw
                                                      case rel => exact ⟨k + 1, by omega, by go_num, (HXA.out.below (Below.refl _ _).drew).step hlt17 _ (by rw [show (85 : Int) = (((85 : UInt8).toNat : Nat) : Int) from rfl, u8_xor_ints])⟩
                                                      case measure => simp [intOf]; omega
                                                  · obtain rfl : dn1 = k := by omega
                                                    obtain ⟨hsA, hsB⟩ : 1 ≤ s1 ∧ s1 ≤ 281474976710655 := HV9.out.1.2
                                                    have hx2 : wr.cell? ⟨bx, 2, none⟩ = some (.int .u64 s1) := by rw [cell_of_row _ _ _ _ _ _ HHB.out]; rfl
                                                    have hf2 : wr.frozen? ⟨bx, 2, none⟩ = false := by simp [World.frozen?, HHB.out]
                                                    obtain ⟨Y0, hY0⟩ : ∃ Y : World, Y = wr.setCell ⟨bx, 2, none⟩ (.int .u64 (1 + s1 % 7)) := ⟨_, rfl⟩
                                                    have HY0 : Hid (Y0.heap[bx]? = some (.cells #[.int .i64 k1, .int .u64 e1, .int .u64 (1 + s1 % 7), .int .i64 p1, .int .i64 i1, .int .i64 c1, .slice (some ⟨gd1, 0, none⟩) dn1 DC1, .int .i64 cd1, .slice (some ⟨gg1, 0, none⟩) gn1 GC1] 26 (0, 0))) := (show Y0.heap[bx]? = some (.cells #[.int .i64 k1, .int .u64 e1, .int .u64 (1 + s1 % 7), .int .i64 p1, .int .i64 i1, .int .i64 c1, .slice (some ⟨gd1, 0, none⟩) dn1 DC1, .int .i64 cd1, .slice (some ⟨gg1, 0, none⟩) gn1 GC1] 26 (0, 0)) by rw [hY0, heap_setCell_same wr bx 2 _ _ _ HHB.out]; rfl)
                                                    have hgr : wr.grownBy Y0 (some bx) := by rw [hY0]; exact gset1 _ _ _ _
                                                    have hbg : gd1 ≠ bx := by have := HGX.out; omega
                                                    have HRY : Hid (Rd Y0 (some ⟨gd1, 0, none⟩) (xorL 85 ds1)) := by
                                                      have h9 := HXA.out.rd
                                                      rw [HN1.out.1, List.take_length, List.drop_length, List.nil_append] at h9
                                                      have h8 := Rd.grown h9 hgr (fun a ha => by cases ha; intro h; exact hbg (Option.some.inj h))
                                                      have h7 := Rd.take h8 (xorL 85 ds1).length
                                                      rw [List.take_left' rfl] at h7
                                                      exact h7
                                                    obtain ⟨ys9, r9, hF9⟩ := four k1 e1 (1 + s1 % 7) p1 i1 c1 dn1 cd1 gn1 (xorL 85 ds1) l1 (by rw [xorL_len]; exact HN1.out.1) HN1.out.2.1 (by have := HN1.out; omega)
                                                    have HF9 : Hid _ := hF9
                                                    have HTY : Hid (TabOk Y0) := (HTC.out wr HXA.out.gr).grownD hgr (by have := HGX.out; omega)
                                                    have HLY : Hid (RdR Y0 (some ⟨gg1, 0, none⟩) (l1 ++ m3)) := RdR.grown (HLC.out wr HXA.out.gr) hgr (fun a ha => by cases ha; intro h; simp only at h; exact rdr_ne (HLC.out wr HXA.out.gr) HHB.out (.inr ⟨_, rfl⟩) (by simp [m3]) h)
                                                    have HWY : Hid (Below w.heap.size w Y0) := ((HBW.out z2 HB11.out).grown HXA.out.gr (HBW.out z2 HB11.out).size (fun j hj => by cases hj; exact HGV9.out)).grown hgr (Nat.le_trans (HBW.out z2 HB11.out).size HXA.out.gr.size) (fun j hj => by cases hj; have := HZB.out; omega)
                                                    have HEN : Hid _ := HF9.out.enc (some ⟨gd1, 0, none⟩) DC1 (some ⟨gg1, 0, none⟩) GC1 Y0 HRY.out (fun h => by cases h) (RdR.left HLY.out) (by have := HN1.out; omega) HTY.out
                                                    clear hF9 hgr
                                                    go_wp2_with (first | (rw [← hY0]; (refine wpList_load_g (by rfl) 26 _ rfl bx 0 (by rfl) [.int .i64 k1, .int .u64 e1, .int .u64 (1 + s1 % 7), .int .i64 p1, .int .i64 i1, .int .i64 c1, .slice (some ⟨gd1, 0, none⟩) dn1 DC1, .int .i64 cd1, .slice (some ⟨gg1, 0, none⟩) gn1 GC1] _ (box_range HY0.out) Tryz.underlying26 rfl info_un ?_)))
                                                    (try rw [← hY0])
                                                    refine Calls.mono HEN.out ?_
                                                    rintro er y1 ⟨a8, L8, c8, rfl, hL8, hr8, hb8⟩
                                                    have HR8 : Hid (Rd y1 a8 ys9) := hr8
                                                    have HL8 : Hid (L8 = ys9.length) := hL8
                                                    have HY1 : Hid (y1.heap[bx]? = some (.cells #[.int .i64 k1, .int .u64 e1, .int .u64 (1 + s1 % 7), .int .i64 p1, .int .i64 i1, .int .i64 c1, .slice (some ⟨gd1, 0, none⟩) dn1 DC1, .int .i64 cd1, .slice (some ⟨gg1, 0, none⟩) gn1 GC1] 26 (0, 0))) := (hb8.block bx (Array.getElem?_eq_some_iff.1 HY0.out).1).trans HY0.out
                                                    have HW1 : Hid _ := below_next HWY.out hb8
                                                    have HRE : Hid _ := HF9.out.renc (some ⟨gd1, 0, none⟩) DC1 (some ⟨gg1, 0, none⟩) GC1 y1 (HRY.out.below hb8) (fun h => by cases h) (RdR.left (RdR.below HLY.out hb8))
                                                    clear hr8 hL8 hb8 HEN
                                                    go_wp2_with (first | (refine wpList_load_g (by rfl) 26 _ rfl bx 0 (by rfl) [.int .i64 k1, .int .u64 e1, .int .u64 (1 + s1 % 7), .int .i64 p1, .int .i64 i1, .int .i64 c1, .slice (some ⟨gd1, 0, none⟩) dn1 DC1, .int .i64 cd1, .slice (some ⟨gg1, 0, none⟩) gn1 GC1] _ (box_range HY1.out) Tryz.underlying26 rfl info_un ?_))
                                                    refine Calls.mono HRE.out ?_
                                                    rintro er y2 ⟨a7, L7, c7, rfl, hL7, hr7, hb7⟩
                                                    have hr8 : Rd y2 a8 ys9 := Rd.below HR8.out hb7
                                                    have hL8 := HL8.out
                                                    have HW2 : Hid _ := below_next HW1.out hb7
                                                    have hv8 := conv_rd' hr8 _ c8 hL8
                                                    have hv7 := conv_rd' hr7 _ c7 hL7
                                                    clear hr8 hr7 hb7 HRE hL8 hL7
                                                    go_wp2
                                                    go_ret
                                                    exact ⟨by first | rfl | simp, HW2.out⟩
end
end Go.Proofs.YtplncfahpdmcoaaGreatDoor
