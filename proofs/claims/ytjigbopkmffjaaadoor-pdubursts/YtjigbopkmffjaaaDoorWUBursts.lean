import Derived.Test.YtjigbopkmffjaaaDoorUBn
import Derived.Test.YtjigbopkmffjaaaDoorOpen
namespace Go.Proofs.YtjigbopkmffjaaaDoor
set_option linter.unusedVariables false
set_option linter.unusedSimpArgs false
open Go.RowKit
section
set_option maxRecDepth 20000
set_option maxHeartbeats 6400000
theorem pduBursts_a (k e s p i c : Int) (da : Option Addr) (dc : Nat) (ds : List UInt8) (cd : Int) (ga : Option Addr) (gc : Nat) (l : List Rg) (at_ : Int) (mk : Nat) (w : World)
    (hd : Rd w da ds) (hdl : ds.length ≤ dc) (hdn : da = none → dc = 0) (hdc : dc ≤ 140737488351232) (hg : RdR w ga l) (hgl : l.length ≤ gc) (hgc : gc ≤ 8796093021952) (ha0 : -9223372036854775808 ≤ at_) (ha1 : at_ ≤ 9223372036854775807) (hm2 : (mk : Int) ≤ 4294967295) (ht : TabOk w) (hv : ¬ validV ⟨k, e, s, p, i, c, ds, cd, l⟩) :
    Calls Tryd.prog 4 #[.agg #[.int .i64 k, .int .u64 e, .int .u64 s, .int .i64 p, .int .i64 i, .int .i64 c, .slice da ds.length dc, .int .i64 cd, .slice ga l.length gc], .int .i64 at_, .int .u32 (mk : Nat)] w fun er w' => er = .returned (.bool true) ∧ Below w.heap.size w w' := by
  obtain ⟨dn, hdn9⟩ : ∃ dn : Nat, dn = ds.length := ⟨_, rfl⟩
  obtain ⟨gn, hgn9⟩ : ∃ gn : Nat, gn = l.length := ⟨_, rfl⟩
  rw [← hdn9, ← hgn9]
  obtain ⟨DC, hDC⟩ : ∃ DC : Nat, DC = dn + 4 := ⟨_, rfl⟩
  obtain ⟨GC, hGC⟩ : ∃ GC : Nat, GC = gn + 3 := ⟨_, rfl⟩
  have HGV : Hid _ := fun (u : World) (hu : Below w.heap.size w u) => given_t k e s p i c da dn dc cd ga gn gc ds l DC GC u hdn9 hgn9 hDC hGC (hd.below hu) (hg.below hu) (by omega) (by omega)
  have HRD : Hid (∀ u, Below w.heap.size w u → Rd u da ds) := fun u hu => hd.below hu
  have HRG : Hid (∀ u, Below w.heap.size w u → RdR u ga l) := fun u hu => hg.below hu
  have HT : Hid (∀ u, Below w.heap.size w u → TabOk u) := fun u hu => ht.below hu
  have HDN : Hid (da = none → dc = 0) := hdn
  have HLE : Hid (gn ≤ gc ∧ gn ≤ GC ∧ dn = ds.length ∧ gn = l.length ∧ gn ≤ 8796093022208 ∧ dn ≤ 140737488351232) := ⟨by omega, by omega, hdn9, hgn9, by omega, by omega⟩
  have HAT : Hid ((-9223372036854775808 ≤ at_) ∧ (at_ ≤ 9223372036854775807) ∧ (mk : Int) ≤ 4294967295) := ⟨ha0, ha1, hm2⟩
  clear ha0 ha1 hm2
  have HV : Hid (¬ validV ⟨k, e, s, p, i, c, ds, cd, l⟩) := hv
  clear hv
  clear hd hdl hdn hdc hg hgl hgc ht hdn9 hgn9 hDC hGC
  go_enter Tryd.func4, Tryd.ntmps4
  go_wp2_with fail
  refine Calls.mono (small_law _ (HT.out _ (al (Below.refl _ _) _))) ?_
  rintro er1 w1 ⟨rfl, hb1⟩
  have HU1 : Hid (UBx w1 w.heap.size #[.int .i64 k, .int .u64 e, .int .u64 s, .int .i64 p, .int .i64 i, .int .i64 c, .slice da dn dc, .int .i64 cd, .slice ga gn gc]) := (hb1.block w.heap.size (by simp)).trans (heap_alloc_new w _)
  have HB1 : Hid (Below w.heap.size w w1) := below_next (al (Below.refl _ _) _) hb1
  have HS1 : Hid (w.heap.size < w1.heap.size) := (Array.getElem?_eq_some_iff.1 HU1.out).1
  clear hb1
  go_wp2_with (refine wpList_load_g (by rfl) 26 _ rfl w.heap.size 0 (by rfl) [.int .i64 k, .int .u64 e, .int .u64 s, .int .i64 p, .int .i64 i, .int .i64 c, .slice da dn dc, .int .i64 cd, .slice ga gn gc] _ (box_range HU1.out) Tryd.underlying26 rfl info_un ?_)
  refine Calls.mono (HGV.out _ HB1.out) ?_
  rintro er1 w2 ⟨gd, gg, rfl, hr2, hl2, hb2⟩
  have HR2 : Hid (Rd w2 (some ⟨gd, 0, none⟩) ds) := by have h9 := Rd.take hr2 ds.length; rw [List.take_left' rfl] at h9; exact h9
  have HL2 : Hid (RdR w2 (some ⟨gg, 0, none⟩) l) := RdR.left hl2
  have HC2 : Hid (Below w1.heap.size w1 w2) := hb2
  clear hr2 hl2 hb2
  go_wp2_with fail
  refine Calls.mono (encX k e s p i c (some ⟨gd, 0, none⟩) dn DC cd (some ⟨gg, 0, none⟩) gn GC ds l HLE.out.2.2.1 HLE.out.2.2.2.1 HV.out _ HL2.out HLE.out.2.2.2.2.1 HLE.out.2.1) ?_
  rintro er1 w5 ⟨rfl, hb3⟩
  have HC5 : Hid (Below w1.heap.size w1 w5) := below_next HC2.out hb3
  clear hb3
  have HU3 : Hid (UBx w5 w.heap.size #[.int .i64 k, .int .u64 e, .int .u64 s, .int .i64 p, .int .i64 i, .int .i64 c, .slice da dn dc, .int .i64 cd, .slice ga gn gc]) := (HC5.out.block _ HS1.out).trans HU1.out
  go_wp2_with (refine wpList_load_g (by rfl) 26 _ rfl w.heap.size 0 (by rfl) [.int .i64 k, .int .u64 e, .int .u64 s, .int .i64 p, .int .i64 i, .int .i64 c, .slice da dn dc, .int .i64 cd, .slice ga gn gc] _ (box_range HU3.out) Tryd.underlying26 rfl info_un ?_)
  refine Calls.mono (rvalV k e s p i c da dn dc cd ga gn gc ds l HLE.out.2.2.1 HLE.out.2.2.2.1 false ⟨(fun h => by cases h), fun h => absurd h HV.out⟩ _ (HRG.out _ (below_next HB1.out HC5.out)) HLE.out.2.2.2.2.1) ?_
  rintro er1 w6 ⟨rfl, hb6⟩
  have HB6 : Hid (Below w.heap.size w w6) := below_next (below_next HB1.out HC5.out) hb6
  clear hb6
  go_wp2
  go_ret
  exact ⟨rfl, HB6.out⟩
theorem pduBursts_b (k e s p i c : Int) (da : Option Addr) (dc : Nat) (ds : List UInt8) (cd : Int) (ga : Option Addr) (gc : Nat) (l : List Rg) (at_ : Int) (mk : Nat) (w : World)
    (hd : Rd w da ds) (hdl : ds.length ≤ dc) (hdn : da = none → dc = 0) (hdc : dc ≤ 140737488351232) (hg : RdR w ga l) (hgl : l.length ≤ gc) (hgc : gc ≤ 8796093021952) (ha0 : -9223372036854775808 ≤ at_) (ha1 : at_ ≤ 9223372036854775807) (hm2 : (mk : Int) ≤ 4294967295) (ht : TabOk w) (hv : validV ⟨k, e, s, p, i, c, ds, cd, l⟩) (htc : bst at_ mk (encT ⟨k, e, s, p, i, c, ds, cd, l⟩ ++ sealL (encT ⟨k, e, s, p, i, c, ds, cd, l⟩)) 32 = encT ⟨k, e, s, p, i, c, ds, cd, l⟩ ++ sealL (encT ⟨k, e, s, p, i, c, ds, cd, l⟩)) :
    Calls Tryd.prog 4 #[.agg #[.int .i64 k, .int .u64 e, .int .u64 s, .int .i64 p, .int .i64 i, .int .i64 c, .slice da ds.length dc, .int .i64 cd, .slice ga l.length gc], .int .i64 at_, .int .u32 (mk : Nat)] w fun er w' => er = .returned (.bool true) ∧ Below w.heap.size w w' := by
  obtain ⟨dn, hdn9⟩ : ∃ dn : Nat, dn = ds.length := ⟨_, rfl⟩
  obtain ⟨gn, hgn9⟩ : ∃ gn : Nat, gn = l.length := ⟨_, rfl⟩
  rw [← hdn9, ← hgn9]
  obtain ⟨DC, hDC⟩ : ∃ DC : Nat, DC = dn + 4 := ⟨_, rfl⟩
  obtain ⟨GC, hGC⟩ : ∃ GC : Nat, GC = gn + 3 := ⟨_, rfl⟩
  have HGV : Hid _ := fun (u : World) (hu : Below w.heap.size w u) => given_t k e s p i c da dn dc cd ga gn gc ds l DC GC u hdn9 hgn9 hDC hGC (hd.below hu) (hg.below hu) (by omega) (by omega)
  have HRD : Hid (∀ u, Below w.heap.size w u → Rd u da ds) := fun u hu => hd.below hu
  have HRG : Hid (∀ u, Below w.heap.size w u → RdR u ga l) := fun u hu => hg.below hu
  have HT : Hid (∀ u, Below w.heap.size w u → TabOk u) := fun u hu => ht.below hu
  have HDN : Hid (da = none → dc = 0) := hdn
  have HLE : Hid (gn ≤ gc ∧ gn ≤ GC ∧ dn = ds.length ∧ gn = l.length ∧ gn ≤ 8796093022208 ∧ dn ≤ 140737488351232) := ⟨by omega, by omega, hdn9, hgn9, by omega, by omega⟩
  have HAT : Hid ((-9223372036854775808 ≤ at_) ∧ (at_ ≤ 9223372036854775807) ∧ (mk : Int) ≤ 4294967295) := ⟨ha0, ha1, hm2⟩
  clear ha0 ha1 hm2
  have HV : Hid (validV ⟨k, e, s, p, i, c, ds, cd, l⟩) := hv
  have HTC : Hid (bst at_ mk (encT ⟨k, e, s, p, i, c, ds, cd, l⟩ ++ sealL (encT ⟨k, e, s, p, i, c, ds, cd, l⟩)) 32 = encT ⟨k, e, s, p, i, c, ds, cd, l⟩ ++ sealL (encT ⟨k, e, s, p, i, c, ds, cd, l⟩)) := htc
  clear hv htc
  clear hd hdl hdn hdc hg hgl hgc ht hdn9 hgn9 hDC hGC
  go_enter Tryd.func4, Tryd.ntmps4
  go_wp2_with fail
  refine Calls.mono (small_law _ (HT.out _ (al (Below.refl _ _) _))) ?_
  rintro er1 w1 ⟨rfl, hb1⟩
  have HU1 : Hid (UBx w1 w.heap.size #[.int .i64 k, .int .u64 e, .int .u64 s, .int .i64 p, .int .i64 i, .int .i64 c, .slice da dn dc, .int .i64 cd, .slice ga gn gc]) := (hb1.block w.heap.size (by simp)).trans (heap_alloc_new w _)
  have HB1 : Hid (Below w.heap.size w w1) := below_next (al (Below.refl _ _) _) hb1
  have HS1 : Hid (w.heap.size < w1.heap.size) := (Array.getElem?_eq_some_iff.1 HU1.out).1
  clear hb1
  go_wp2_with (refine wpList_load_g (by rfl) 26 _ rfl w.heap.size 0 (by rfl) [.int .i64 k, .int .u64 e, .int .u64 s, .int .i64 p, .int .i64 i, .int .i64 c, .slice da dn dc, .int .i64 cd, .slice ga gn gc] _ (box_range HU1.out) Tryd.underlying26 rfl info_un ?_)
  refine Calls.mono (HGV.out _ HB1.out) ?_
  rintro er1 w2 ⟨gd, gg, rfl, hr2, hl2, hb2⟩
  have HR2 : Hid (Rd w2 (some ⟨gd, 0, none⟩) ds) := by have h9 := Rd.take hr2 ds.length; rw [List.take_left' rfl] at h9; exact h9
  have HL2 : Hid (RdR w2 (some ⟨gg, 0, none⟩) l) := RdR.left hl2
  have HC2 : Hid (Below w1.heap.size w1 w2) := hb2
  clear hr2 hl2 hb2
  go_wp2_with fail
  have HXD : Hid (decU (encT ⟨k, e, s, p, i, c, ds, cd, l⟩ ++ sealL (encT ⟨k, e, s, p, i, c, ds, cd, l⟩)) = (⟨k, e, s, p, i, c, ds, cd, l⟩, 0)) := decU_enc _ HV.out
  refine Calls.mono (encV k e s p i c (some ⟨gd, 0, none⟩) dn DC cd (some ⟨gg, 0, none⟩) gn GC ds l HLE.out.2.2.1 HLE.out.2.2.2.1 HV.out _ HR2.out (fun h => by cases h) HL2.out HLE.out.2.2.2.2.1 HLE.out.2.1 (HT.out _ (below_next HB1.out HC2.out))) ?_
  rintro er1 w3 ⟨a3, L3, c3, rfl, hL3, ho3, hb3⟩
  have HO3 : Hid (L3 = (encT ⟨k, e, s, p, i, c, ds, cd, l⟩ ++ sealL (encT ⟨k, e, s, p, i, c, ds, cd, l⟩)).length ∧ L3 ≤ c3 ∧ c3 ≤ 9223372036854775807 ∧ (a3 = none → c3 = 0) ∧ Rd w3 a3 (encT ⟨k, e, s, p, i, c, ds, cd, l⟩ ++ sealL (encT ⟨k, e, s, p, i, c, ds, cd, l⟩))) := ho3.four
  have HC3 : Hid (Below w1.heap.size w1 w3) := below_next HC2.out hb3
  have HXL : Hid ((encT ⟨k, e, s, p, i, c, ds, cd, l⟩ ++ sealL (encT ⟨k, e, s, p, i, c, ds, cd, l⟩)).length ≤ 140737488355328) := encT_len HV.out
  clear hL3 ho3 hb3
  obtain ⟨X, hX⟩ : ∃ X, X = encT ⟨k, e, s, p, i, c, ds, cd, l⟩ ++ sealL (encT ⟨k, e, s, p, i, c, ds, cd, l⟩) := ⟨_, rfl⟩
  rw [← hX] at HO3 HXD HXL
  have HXX : Hid (X = encT ⟨k, e, s, p, i, c, ds, cd, l⟩ ++ sealL (encT ⟨k, e, s, p, i, c, ds, cd, l⟩)) := hX
  clear hX
  rw [← HXX.out] at HTC
  have HU3 : Hid (UBx w3 w.heap.size #[.int .i64 k, .int .u64 e, .int .u64 s, .int .i64 p, .int .i64 i, .int .i64 c, .slice da dn dc, .int .i64 cd, .slice ga gn gc]) := (HC3.out.block _ HS1.out).trans HU1.out
  go_wp2_with (refine wpList_load_g (by rfl) 26 _ rfl w.heap.size 0 (by rfl) [.int .i64 k, .int .u64 e, .int .u64 s, .int .i64 p, .int .i64 i, .int .i64 c, .slice da dn dc, .int .i64 cd, .slice ga gn gc] _ (box_range HU3.out) Tryd.underlying26 rfl info_un ?_)
  refine Calls.mono (rvalV k e s p i c da dn dc cd ga gn gc ds l HLE.out.2.2.1 HLE.out.2.2.2.1 true ⟨fun _ => HV.out, fun _ => rfl⟩ _ (HRG.out _ (below_next HB1.out HC3.out)) HLE.out.2.2.2.2.1) ?_
  rintro er1 w4 ⟨rfl, hb4⟩
  have HC4 : Hid (Below w1.heap.size w1 w4) := below_next HC3.out hb4
  have HR4 : Hid (Rd w4 a3 X) := HO3.out.2.2.2.2.below hb4
  clear hb4
  go_wp2_with fail
  refine Calls.mono (burst_n a3 L3 c3 X HO3.out.1 at_ mk w4 HR4.out HO3.out.2.2.2.1 (by rw [HO3.out.1]; exact HXL.out) HAT.out.1 HAT.out.2.1 HAT.out.2.2) ?_
  rintro er1 w5 ⟨v5, rfl, ho5, hb5⟩
  obtain ⟨a5, c5, rfl, -⟩ := ho5.val
  have HC5 : Hid (Below w1.heap.size w1 w5) := below_next HC4.out hb5
  have HR5 : Hid (Rd w5 a3 X) := HR4.out.below hb5
  obtain ⟨L5, hL5⟩ : ∃ L5, L5 = (bst at_ mk X 32).length := ⟨_, rfl⟩
  rw [← hL5] at ho5 ⊢
  have HO5 : Hid (L5 = (bst at_ mk X 32).length ∧ L5 ≤ c5 ∧ c5 ≤ 9223372036854775807 ∧ (a5 = none → c5 = 0) ∧ Rd w5 a5 (bst at_ mk X 32)) := ho5.four
  have HL5 : Hid (L5 ≤ 140737488355328) := by unfold Hid; rw [hL5, bst_len]; exact HXL.out
  clear ho5 hb5 hL5
  have hss := fun (u : World) (a : Addr) (o : Option Addr) (n c : Nat) => run_store Tryd.prog u a (.slice o n c) .plain rfl
  go_wp2_with fail
  have HDX : Hid (decU (bst at_ mk X 32) = (⟨k, e, s, p, i, c, ds, cd, l⟩, 0)) := by unfold Hid; rw [HTC.out]; exact HXD.out
  refine Calls.mono (decV a5 L5 c5 (bst at_ mk X 32) HO5.out.1 w5 HO5.out.2.2.2.2 HO5.out.2.1 HO5.out.2.2.1 HL5.out (HT.out _ (below_next HB1.out HC5.out)) k e s p i c ds cd l 0 dn gn HLE.out.2.2.1 HLE.out.2.2.2.1 HDX.out) ?_
  rintro er1 w6 ⟨ea, ec, fa, fc, rfl, ho6, hq6, hb6⟩
  have HC6 : Hid (Below w1.heap.size w1 w6) := below_next HC5.out hb6
  have HR6 : Hid (Rd w6 a3 X) := HR5.out.below hb6
  have HT6 : Hid (Rd w6 a5 (bst at_ mk X 32)) := HO5.out.2.2.2.2.below hb6
  have HD6 : Hid (Rd w6 ea ds) := ho6.four.2.2.2.2
  have HQ6 : Hid (RdR w6 fa l) := hq6.rdA.1
  clear ho6 hq6 hb6
  have HU6 : Hid (∀ ob, UBx (w6.alloc ob) w.heap.size #[.int .i64 k, .int .u64 e, .int .u64 s, .int .i64 p, .int .i64 i, .int .i64 c, .slice da dn dc, .int .i64 cd, .slice ga gn gc]) := fun ob => ((below_next HC6.out (al (Below.refl _ _) ob)).block _ HS1.out).trans HU1.out
  have hcv1 := fun (ob : Obj) => conv_rd' (HT6.out.below (al (Below.refl _ _) ob)) L5 c5 HO5.out.1
  rw [HTC.out] at hcv1
  have hcv2 := fun (ob : Obj) => conv_rd' (HR6.out.below (al (Below.refl _ _) ob)) L3 c3 HO3.out.1
  go_wp2_with (first
    | (refine wpList_load_g (by rfl) 26 _ rfl w.heap.size 0 (by rfl) [.int .i64 k, .int .u64 e, .int .u64 s, .int .i64 p, .int .i64 i, .int .i64 c, .slice da dn dc, .int .i64 cd, .slice ga gn gc] _ (box_range (HU6.out _)) Tryd.underlying26 rfl info_un ?_)
    | (refine wpList_load_g (by rfl) 26 _ rfl w6.heap.size 0 (by rfl) [.int .i64 k, .int .u64 e, .int .u64 s, .int .i64 p, .int .i64 i, .int .i64 c, .slice ea dn ec, .int .i64 cd, .slice fa gn fc] _ (box_range (heap_alloc_new w6 _)) Tryd.underlying26 rfl info_un ?_)
    | (go_at_call 12; refine Calls.mono (sameUnit_t k e s p i c da dn dc cd ga gn gc ea ec fa fc ds l _ HLE.out.2.2.1 HLE.out.2.2.2.1 (HRD.out _ (below_next HB1.out (below_next HC6.out (al (Below.refl _ _) _)))) (HD6.out.below (al (Below.refl _ _) _)) (HRG.out _ (below_next HB1.out (below_next HC6.out (al (Below.refl _ _) _)))) (RdR.below HQ6.out (al (Below.refl _ _) _)) HLE.out.2.2.2.2.1 HLE.out.2.2.2.2.2) ?_; rintro er1 w7 ⟨rfl, hb7⟩; have HB7 : Hid (Below w.heap.size w w7) := below_next HB1.out (below_next HC6.out (below_next (al (Below.refl _ _) _) hb7)); clear hb7))
  go_ret
  exact ⟨rfl, HB7.out⟩
theorem pduBursts_c (k e s p i c : Int) (da : Option Addr) (dc : Nat) (ds : List UInt8) (cd : Int) (ga : Option Addr) (gc : Nat) (l : List Rg) (at_ : Int) (mk : Nat) (w : World)
    (hd : Rd w da ds) (hdl : ds.length ≤ dc) (hdn : da = none → dc = 0) (hdc : dc ≤ 140737488351232) (hg : RdR w ga l) (hgl : l.length ≤ gc) (hgc : gc ≤ 8796093021952) (ha0 : -9223372036854775808 ≤ at_) (ha1 : at_ ≤ 9223372036854775807) (hm2 : (mk : Int) ≤ 4294967295) (ht : TabOk w) (hv : validV ⟨k, e, s, p, i, c, ds, cd, l⟩) (htc : ¬ bst at_ mk (encT ⟨k, e, s, p, i, c, ds, cd, l⟩ ++ sealL (encT ⟨k, e, s, p, i, c, ds, cd, l⟩)) 32 = encT ⟨k, e, s, p, i, c, ds, cd, l⟩ ++ sealL (encT ⟨k, e, s, p, i, c, ds, cd, l⟩)) :
    Calls Tryd.prog 4 #[.agg #[.int .i64 k, .int .u64 e, .int .u64 s, .int .i64 p, .int .i64 i, .int .i64 c, .slice da ds.length dc, .int .i64 cd, .slice ga l.length gc], .int .i64 at_, .int .u32 (mk : Nat)] w fun er w' => er = .returned (.bool true) ∧ Below w.heap.size w w' := by
  obtain ⟨dn, hdn9⟩ : ∃ dn : Nat, dn = ds.length := ⟨_, rfl⟩
  obtain ⟨gn, hgn9⟩ : ∃ gn : Nat, gn = l.length := ⟨_, rfl⟩
  rw [← hdn9, ← hgn9]
  obtain ⟨DC, hDC⟩ : ∃ DC : Nat, DC = dn + 4 := ⟨_, rfl⟩
  obtain ⟨GC, hGC⟩ : ∃ GC : Nat, GC = gn + 3 := ⟨_, rfl⟩
  have HGV : Hid _ := fun (u : World) (hu : Below w.heap.size w u) => given_t k e s p i c da dn dc cd ga gn gc ds l DC GC u hdn9 hgn9 hDC hGC (hd.below hu) (hg.below hu) (by omega) (by omega)
  have HRD : Hid (∀ u, Below w.heap.size w u → Rd u da ds) := fun u hu => hd.below hu
  have HRG : Hid (∀ u, Below w.heap.size w u → RdR u ga l) := fun u hu => hg.below hu
  have HT : Hid (∀ u, Below w.heap.size w u → TabOk u) := fun u hu => ht.below hu
  have HDN : Hid (da = none → dc = 0) := hdn
  have HLE : Hid (gn ≤ gc ∧ gn ≤ GC ∧ dn = ds.length ∧ gn = l.length ∧ gn ≤ 8796093022208 ∧ dn ≤ 140737488351232) := ⟨by omega, by omega, hdn9, hgn9, by omega, by omega⟩
  have HAT : Hid ((-9223372036854775808 ≤ at_) ∧ (at_ ≤ 9223372036854775807) ∧ (mk : Int) ≤ 4294967295) := ⟨ha0, ha1, hm2⟩
  clear ha0 ha1 hm2
  have HV : Hid (validV ⟨k, e, s, p, i, c, ds, cd, l⟩) := hv
  have HTC : Hid (¬ bst at_ mk (encT ⟨k, e, s, p, i, c, ds, cd, l⟩ ++ sealL (encT ⟨k, e, s, p, i, c, ds, cd, l⟩)) 32 = encT ⟨k, e, s, p, i, c, ds, cd, l⟩ ++ sealL (encT ⟨k, e, s, p, i, c, ds, cd, l⟩)) := htc
  clear hv htc
  clear hd hdl hdn hdc hg hgl hgc ht hdn9 hgn9 hDC hGC
  go_enter Tryd.func4, Tryd.ntmps4
  go_wp2_with fail
  refine Calls.mono (small_law _ (HT.out _ (al (Below.refl _ _) _))) ?_
  rintro er1 w1 ⟨rfl, hb1⟩
  have HU1 : Hid (UBx w1 w.heap.size #[.int .i64 k, .int .u64 e, .int .u64 s, .int .i64 p, .int .i64 i, .int .i64 c, .slice da dn dc, .int .i64 cd, .slice ga gn gc]) := (hb1.block w.heap.size (by simp)).trans (heap_alloc_new w _)
  have HB1 : Hid (Below w.heap.size w w1) := below_next (al (Below.refl _ _) _) hb1
  have HS1 : Hid (w.heap.size < w1.heap.size) := (Array.getElem?_eq_some_iff.1 HU1.out).1
  clear hb1
  go_wp2_with (refine wpList_load_g (by rfl) 26 _ rfl w.heap.size 0 (by rfl) [.int .i64 k, .int .u64 e, .int .u64 s, .int .i64 p, .int .i64 i, .int .i64 c, .slice da dn dc, .int .i64 cd, .slice ga gn gc] _ (box_range HU1.out) Tryd.underlying26 rfl info_un ?_)
  refine Calls.mono (HGV.out _ HB1.out) ?_
  rintro er1 w2 ⟨gd, gg, rfl, hr2, hl2, hb2⟩
  have HR2 : Hid (Rd w2 (some ⟨gd, 0, none⟩) ds) := by have h9 := Rd.take hr2 ds.length; rw [List.take_left' rfl] at h9; exact h9
  have HL2 : Hid (RdR w2 (some ⟨gg, 0, none⟩) l) := RdR.left hl2
  have HC2 : Hid (Below w1.heap.size w1 w2) := hb2
  clear hr2 hl2 hb2
  go_wp2_with fail
  have HXD : Hid (decU (encT ⟨k, e, s, p, i, c, ds, cd, l⟩ ++ sealL (encT ⟨k, e, s, p, i, c, ds, cd, l⟩)) = (⟨k, e, s, p, i, c, ds, cd, l⟩, 0)) := decU_enc _ HV.out
  refine Calls.mono (encV k e s p i c (some ⟨gd, 0, none⟩) dn DC cd (some ⟨gg, 0, none⟩) gn GC ds l HLE.out.2.2.1 HLE.out.2.2.2.1 HV.out _ HR2.out (fun h => by cases h) HL2.out HLE.out.2.2.2.2.1 HLE.out.2.1 (HT.out _ (below_next HB1.out HC2.out))) ?_
  rintro er1 w3 ⟨a3, L3, c3, rfl, hL3, ho3, hb3⟩
  have HO3 : Hid (L3 = (encT ⟨k, e, s, p, i, c, ds, cd, l⟩ ++ sealL (encT ⟨k, e, s, p, i, c, ds, cd, l⟩)).length ∧ L3 ≤ c3 ∧ c3 ≤ 9223372036854775807 ∧ (a3 = none → c3 = 0) ∧ Rd w3 a3 (encT ⟨k, e, s, p, i, c, ds, cd, l⟩ ++ sealL (encT ⟨k, e, s, p, i, c, ds, cd, l⟩))) := ho3.four
  have HC3 : Hid (Below w1.heap.size w1 w3) := below_next HC2.out hb3
  have HXL : Hid ((encT ⟨k, e, s, p, i, c, ds, cd, l⟩ ++ sealL (encT ⟨k, e, s, p, i, c, ds, cd, l⟩)).length ≤ 140737488355328) := encT_len HV.out
  clear hL3 ho3 hb3
  obtain ⟨X, hX⟩ : ∃ X, X = encT ⟨k, e, s, p, i, c, ds, cd, l⟩ ++ sealL (encT ⟨k, e, s, p, i, c, ds, cd, l⟩) := ⟨_, rfl⟩
  rw [← hX] at HO3 HXD HXL
  have HXX : Hid (X = encT ⟨k, e, s, p, i, c, ds, cd, l⟩ ++ sealL (encT ⟨k, e, s, p, i, c, ds, cd, l⟩)) := hX
  clear hX
  have HDX : Hid (decU (bst at_ mk X 32) = (⟨0, 0, 0, 0, 0, 0, [], 0, []⟩, 13)) := by
    unfold Hid
    rw [HXX.out]
    refine decU_burst _ at_ mk ?_
    by_cases h9 : tch at_ mk (encT ⟨k, e, s, p, i, c, ds, cd, l⟩ ++ sealL (encT ⟨k, e, s, p, i, c, ds, cd, l⟩)).length
    · exact h9
    · exact absurd ((bst_same at_ mk _).2 h9) HTC.out
  rw [← HXX.out] at HTC
  have HU3 : Hid (UBx w3 w.heap.size #[.int .i64 k, .int .u64 e, .int .u64 s, .int .i64 p, .int .i64 i, .int .i64 c, .slice da dn dc, .int .i64 cd, .slice ga gn gc]) := (HC3.out.block _ HS1.out).trans HU1.out
  go_wp2_with (refine wpList_load_g (by rfl) 26 _ rfl w.heap.size 0 (by rfl) [.int .i64 k, .int .u64 e, .int .u64 s, .int .i64 p, .int .i64 i, .int .i64 c, .slice da dn dc, .int .i64 cd, .slice ga gn gc] _ (box_range HU3.out) Tryd.underlying26 rfl info_un ?_)
  refine Calls.mono (rvalV k e s p i c da dn dc cd ga gn gc ds l HLE.out.2.2.1 HLE.out.2.2.2.1 true ⟨fun _ => HV.out, fun _ => rfl⟩ _ (HRG.out _ (below_next HB1.out HC3.out)) HLE.out.2.2.2.2.1) ?_
  rintro er1 w4 ⟨rfl, hb4⟩
  have HC4 : Hid (Below w1.heap.size w1 w4) := below_next HC3.out hb4
  have HR4 : Hid (Rd w4 a3 X) := HO3.out.2.2.2.2.below hb4
  clear hb4
  go_wp2_with fail
  refine Calls.mono (burst_n a3 L3 c3 X HO3.out.1 at_ mk w4 HR4.out HO3.out.2.2.2.1 (by rw [HO3.out.1]; exact HXL.out) HAT.out.1 HAT.out.2.1 HAT.out.2.2) ?_
  rintro er1 w5 ⟨v5, rfl, ho5, hb5⟩
  obtain ⟨a5, c5, rfl, -⟩ := ho5.val
  have HC5 : Hid (Below w1.heap.size w1 w5) := below_next HC4.out hb5
  have HR5 : Hid (Rd w5 a3 X) := HR4.out.below hb5
  obtain ⟨L5, hL5⟩ : ∃ L5, L5 = (bst at_ mk X 32).length := ⟨_, rfl⟩
  rw [← hL5] at ho5 ⊢
  have HO5 : Hid (L5 = (bst at_ mk X 32).length ∧ L5 ≤ c5 ∧ c5 ≤ 9223372036854775807 ∧ (a5 = none → c5 = 0) ∧ Rd w5 a5 (bst at_ mk X 32)) := ho5.four
  have HL5 : Hid (L5 ≤ 140737488355328) := by unfold Hid; rw [hL5, bst_len]; exact HXL.out
  clear ho5 hb5 hL5
  have hss := fun (u : World) (a : Addr) (o : Option Addr) (n c : Nat) => run_store Tryd.prog u a (.slice o n c) .plain rfl
  go_wp2_with fail
  refine Calls.mono (decV a5 L5 c5 (bst at_ mk X 32) HO5.out.1 w5 HO5.out.2.2.2.2 HO5.out.2.1 HO5.out.2.2.1 HL5.out (HT.out _ (below_next HB1.out HC5.out)) 0 0 0 0 0 0 [] 0 [] 13 0 0 rfl rfl HDX.out) ?_
  rintro er1 w6 ⟨ea, ec, fa, fc, rfl, ho6, hq6, hb6⟩
  have HC6 : Hid (Below w1.heap.size w1 w6) := below_next HC5.out hb6
  have HR6 : Hid (Rd w6 a3 X) := HR5.out.below hb6
  have HT6 : Hid (Rd w6 a5 (bst at_ mk X 32)) := HO5.out.2.2.2.2.below hb6
  clear ho6 hq6 hb6
  have hcv1 := fun (ob : Obj) => conv_rd' (HT6.out.below (al (Below.refl _ _) ob)) L5 c5 HO5.out.1
  have hcv2 := fun (ob : Obj) => conv_rd' (HR6.out.below (al (Below.refl _ _) ob)) L3 c3 HO3.out.1
  have hneb : (bst at_ mk X 32 == X) = false := by rw [beq_eq_false_iff_ne]; exact HTC.out
  obtain ⟨Y, hY⟩ : ∃ Y, Y = bst at_ mk X 32 := ⟨_, rfl⟩
  rw [← hY] at hcv1 hneb
  clear hY
  go_wp2_with (first
    | (refine wpList_load_g (by rfl) 26 _ rfl w6.heap.size 0 (by rfl) [.int .i64 0, .int .u64 0, .int .u64 0, .int .i64 0, .int .i64 0, .int .i64 0, .slice ea 0 ec, .int .i64 0, .slice fa 0 fc] _ (box_range (heap_alloc_new w6 _)) Tryd.underlying26 rfl info_un ?_)
    | (go_at_call 12; refine Calls.mono (sameUnit_t 0 0 0 0 0 0 ea 0 ec 0 fa 0 fc none 0 none 0 [] [] _ rfl rfl (Rd.nil _ _) (Rd.nil _ _) (fun j hj => absurd hj (Nat.not_lt_zero _)) (fun j hj => absurd hj (Nat.not_lt_zero _)) (by decide) (by decide)) ?_; rintro er1 w7 ⟨rfl, hb7⟩; have HB7 : Hid (Below w.heap.size w w7) := below_next HB1.out (below_next HC6.out (below_next (al (Below.refl _ _) _) hb7)); clear hb7))
  go_ret
  exact ⟨rfl, HB7.out⟩
end
theorem pduBursts_walk (k e s p i c : Int) (da : Option Addr) (dc : Nat) (ds : List UInt8) (cd : Int) (ga : Option Addr) (gc : Nat) (l : List Rg) (at_ mk : Int) (w : World)
    (hd : Rd w da ds) (hdl : ds.length ≤ dc) (hdn : da = none → dc = 0) (hdc : dc ≤ 140737488351232) (hg : RdR w ga l) (hgl : l.length ≤ gc) (hgc : gc ≤ 8796093021952) (w1 : (Lit.int .i64 at_).wf = true) (w2 : (Lit.int .u32 mk).wf = true) (ht : TabOk w) :
    Calls Tryd.prog 4 #[.agg #[.int .i64 k, .int .u64 e, .int .u64 s, .int .i64 p, .int .i64 i, .int .i64 c, .slice da ds.length dc, .int .i64 cd, .slice ga l.length gc], .int .i64 at_, .int .u32 mk] w fun er w' => er = .returned (.bool true) ∧ Below w.heap.size w w' := by
  obtain ⟨m2, rfl, hm2⟩ := u32_of w2
  obtain ⟨ha0, ha1⟩ := i64_of w1
  by_cases hv : validV ⟨k, e, s, p, i, c, ds, cd, l⟩
  · by_cases htc : bst at_ m2 (encT ⟨k, e, s, p, i, c, ds, cd, l⟩ ++ sealL (encT ⟨k, e, s, p, i, c, ds, cd, l⟩)) 32 = encT ⟨k, e, s, p, i, c, ds, cd, l⟩ ++ sealL (encT ⟨k, e, s, p, i, c, ds, cd, l⟩)
    · exact pduBursts_b k e s p i c da dc ds cd ga gc l at_ m2 w hd hdl hdn hdc hg hgl hgc ha0 ha1 hm2 ht hv htc
    · exact pduBursts_c k e s p i c da dc ds cd ga gc l at_ m2 w hd hdl hdn hdc hg hgl hgc ha0 ha1 hm2 ht hv htc
  · exact pduBursts_a k e s p i c da dc ds cd ga gc l at_ m2 w hd hdl hdn hdc hg hgl hgc ha0 ha1 hm2 ht hv
end Go.Proofs.YtjigbopkmffjaaaDoor
