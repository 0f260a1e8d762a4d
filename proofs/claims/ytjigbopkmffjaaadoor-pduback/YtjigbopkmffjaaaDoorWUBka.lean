import Derived.Test.YtjigbopkmffjaaaDoorUBn
namespace Go.Proofs.YtjigbopkmffjaaaDoor
set_option linter.unusedVariables false
set_option linter.unusedSimpArgs false
open Go.RowKit
section
set_option maxRecDepth 20000
set_option maxHeartbeats 6400000
theorem pduBack_a (k e s p i c : Int) (da : Option Addr) (dc : Nat) (ds : List UInt8) (cd : Int) (ga : Option Addr) (gc : Nat) (l : List Rg) (ta : Option Addr) (tc : Nat) (ts : List UInt8) (w : World)
    (hd : Rd w da ds) (hdl : ds.length ≤ dc) (hdn : da = none → dc = 0) (hdc : dc ≤ 140737488351232) (hg : RdR w ga l) (hgl : l.length ≤ gc) (hgc : gc ≤ 8796093021952) (htd : Rd w ta ts) (htl : ts.length ≤ tc) (htc : tc ≤ 140737488351232) (htn : ta = none → tc = 0) (ht : TabOk w) (hv : validV ⟨k, e, s, p, i, c, ds, cd, l⟩) (hr : (decU (ts ++ sealL ts)).2 = 0) :
    Calls Tryd.prog 3 #[.agg #[.int .i64 k, .int .u64 e, .int .u64 s, .int .i64 p, .int .i64 i, .int .i64 c, .slice da ds.length dc, .int .i64 cd, .slice ga l.length gc], .slice ta ts.length tc] w fun er w' => er = .returned (.bool true) ∧ Below w.heap.size w w' := by
  obtain ⟨dn, hdn9⟩ : ∃ dn : Nat, dn = ds.length := ⟨_, rfl⟩
  obtain ⟨gn, hgn9⟩ : ∃ gn : Nat, gn = l.length := ⟨_, rfl⟩
  rw [← hdn9, ← hgn9]
  obtain ⟨DC, hDC⟩ : ∃ DC : Nat, DC = dn + 4 := ⟨_, rfl⟩
  obtain ⟨GC, hGC⟩ : ∃ GC : Nat, GC = gn + 3 := ⟨_, rfl⟩
  have HGV : Hid _ := fun (u : World) (hu : Below w.heap.size w u) => given_t k e s p i c da dn dc cd ga gn gc ds l DC GC u hdn9 hgn9 hDC hGC (hd.below hu) (hg.below hu) (by omega) (by omega)
  have HRD : Hid (∀ u, Below w.heap.size w u → Rd u da ds) := fun u hu => hd.below hu
  have HRG : Hid (∀ u, Below w.heap.size w u → RdR u ga l) := fun u hu => hg.below hu
  have HT : Hid (∀ u, Below w.heap.size w u → TabOk u) := fun u hu => ht.below hu
  have HDN : Hid (da = none → dc = 0) := hdn
  have HLE : Hid (gn ≤ gc ∧ gn ≤ GC ∧ dn = ds.length ∧ gn = l.length ∧ gn ≤ 8796093022208 ∧ dn ≤ 140737488351232) := ⟨by omega, by omega, hdn9, hgn9, by omega, by omega⟩
  obtain ⟨tn, htn9⟩ : ∃ tn : Nat, tn = ts.length := ⟨_, rfl⟩
  rw [← htn9]
  have HTX : Hid (tn = ts.length ∧ (ta = none → tc = 0) ∧ tn + 4 ≤ 140737488355328) := ⟨htn9, htn, by omega⟩
  have HRT : Hid (∀ u, Below w.heap.size w u → Rd u ta ts) := fun u hu => htd.below hu
  obtain ⟨⟨k2, e2, s2, p2, i2, c2, ds2, cd2, l2⟩, r2, hdec⟩ : ∃ V r2, decU (ts ++ sealL ts) = (V, r2) := ⟨_, _, rfl⟩
  obtain ⟨dn2, hdn2⟩ : ∃ dn : Nat, dn = ds2.length := ⟨_, rfl⟩
  obtain ⟨gn2, hgn2⟩ : ∃ gn : Nat, gn = l2.length := ⟨_, rfl⟩
  have HD2 : Hid (dn2 = ds2.length ∧ gn2 = l2.length ∧ decU (ts ++ sealL ts) = (⟨k2, e2, s2, p2, i2, c2, ds2, cd2, l2⟩, r2)) := ⟨hdn2, hgn2, hdec⟩
  rw [hdec] at hr
  have HNR : Hid (r2 = 0) := hr
  have HV : Hid (validV ⟨k, e, s, p, i, c, ds, cd, l⟩) := hv
  clear htd htl htc htn htn9 hdec hdn2 hgn2 hr hv
  clear hd hdl hdn hdc hg hgl hgc ht hdn9 hgn9 hDC hGC
  go_enter Tryd.func3, Tryd.ntmps3
  go_wp2_with fail
  refine Calls.mono (small_law _ (HT.out _ (al (Below.refl _ _) _))) ?_
  rintro er1 w1 ⟨rfl, hb1⟩
  have HU1 : Hid (UBx w1 w.heap.size #[.int .i64 k, .int .u64 e, .int .u64 s, .int .i64 p, .int .i64 i, .int .i64 c, .slice da dn dc, .int .i64 cd, .slice ga gn gc]) := (hb1.block w.heap.size (by simp)).trans (heap_alloc_new w _)
  have HB1 : Hid (Below w.heap.size w w1) := below_next (al (Below.refl _ _) _) hb1
  have HS1 : Hid (w.heap.size < w1.heap.size) := (Array.getElem?_eq_some_iff.1 HU1.out).1
  clear hb1
  go_wp2_with (refine wpList_load_g (by rfl) 26 _ rfl w.heap.size 0 (by rfl) [.int .i64 k, .int .u64 e, .int .u64 s, .int .i64 p, .int .i64 i, .int .i64 c, .slice da dn dc, .int .i64 cd, .slice ga gn gc] _ (box_range HU1.out) Tryd.underlying26 rfl info_un ?_)
  refine Calls.mono (HGV.out _ HB1.out) ?_
  rintro er1 w2 ⟨gd, gg, rfl, hr2, hl2, hb2⟩
  have HR2 : Hid (Rd w2 (some ⟨gd, 0, none⟩) ds) := by have h9 := Rd.take hr2 ds.length; rw [List.take_left' rfl] at h9; exact h9
  have HL2 : Hid (RdR w2 (some ⟨gg, 0, none⟩) l) := RdR.left hl2
  have HC2 : Hid (Below w1.heap.size w1 w2) := hb2
  clear hr2 hl2 hb2
  go_wp2_with fail
  have HXD : Hid (decU (encT ⟨k, e, s, p, i, c, ds, cd, l⟩ ++ sealL (encT ⟨k, e, s, p, i, c, ds, cd, l⟩)) = (⟨k, e, s, p, i, c, ds, cd, l⟩, 0)) := decU_enc _ HV.out
  refine Calls.mono (encV k e s p i c (some ⟨gd, 0, none⟩) dn DC cd (some ⟨gg, 0, none⟩) gn GC ds l HLE.out.2.2.1 HLE.out.2.2.2.1 HV.out _ HR2.out (fun h => by cases h) HL2.out HLE.out.2.2.2.2.1 HLE.out.2.1 (HT.out _ (below_next HB1.out HC2.out))) ?_
  rintro er1 w3 ⟨a3, L3, c3, rfl, hL3, ho3, hb3⟩
  have HO3 : Hid (L3 = (encT ⟨k, e, s, p, i, c, ds, cd, l⟩ ++ sealL (encT ⟨k, e, s, p, i, c, ds, cd, l⟩)).length ∧ L3 ≤ c3 ∧ c3 ≤ 9223372036854775807 ∧ (a3 = none → c3 = 0) ∧ Rd w3 a3 (encT ⟨k, e, s, p, i, c, ds, cd, l⟩ ++ sealL (encT ⟨k, e, s, p, i, c, ds, cd, l⟩))) := ho3.four
  have HC3 : Hid (Below w1.heap.size w1 w3) := below_next HC2.out hb3
  have HXL : Hid ((encT ⟨k, e, s, p, i, c, ds, cd, l⟩ ++ sealL (encT ⟨k, e, s, p, i, c, ds, cd, l⟩)).length ≤ 140737488355328) := encT_len HV.out
  clear hL3 ho3 hb3
  obtain ⟨X, hX⟩ : ∃ X, X = encT ⟨k, e, s, p, i, c, ds, cd, l⟩ ++ sealL (encT ⟨k, e, s, p, i, c, ds, cd, l⟩) := ⟨_, rfl⟩
  rw [← hX] at HO3 HXD HXL
  have HXX : Hid (X = encT ⟨k, e, s, p, i, c, ds, cd, l⟩ ++ sealL (encT ⟨k, e, s, p, i, c, ds, cd, l⟩)) := hX
  clear hX
  have hss := fun (u : World) (a : Addr) (o : Option Addr) (n c : Nat) => run_store Tryd.prog u a (.slice o n c) .plain rfl
  go_wp2_with fail
  refine Calls.mono (decV a3 L3 c3 X HO3.out.1 w3 HO3.out.2.2.2.2 HO3.out.2.1 HO3.out.2.2.1 (by rw [HO3.out.1]; exact HXL.out) (HT.out _ (below_next HB1.out HC3.out)) k e s p i c ds cd l 0 dn gn HLE.out.2.2.1 HLE.out.2.2.2.1 HXD.out) ?_
  rintro er1 w4 ⟨ea, ec, fa, fc, rfl, ho4, hq4, hb4⟩
  have HD4 : Hid (Rd w4 ea ds) := ho4.four.2.2.2.2
  have HQ4 : Hid (RdR w4 fa l) := hq4.rdA.1
  have HC4 : Hid (Below w1.heap.size w1 w4) := below_next HC3.out hb4
  clear ho4 hq4 hb4
  have HU4 : Hid (∀ ob, UBx (w4.alloc ob) w.heap.size #[.int .i64 k, .int .u64 e, .int .u64 s, .int .i64 p, .int .i64 i, .int .i64 c, .slice da dn dc, .int .i64 cd, .slice ga gn gc]) := fun ob => ((below_next HC4.out (al (Below.refl _ _) ob)).block _ HS1.out).trans HU1.out
  go_wp2_with (first
    | (refine wpList_load_g (by rfl) 26 _ rfl w.heap.size 0 (by rfl) [.int .i64 k, .int .u64 e, .int .u64 s, .int .i64 p, .int .i64 i, .int .i64 c, .slice da dn dc, .int .i64 cd, .slice ga gn gc] _ (box_range (HU4.out _)) Tryd.underlying26 rfl info_un ?_)
    | (refine wpList_load_g (by rfl) 26 _ rfl w4.heap.size 0 (by rfl) [.int .i64 k, .int .u64 e, .int .u64 s, .int .i64 p, .int .i64 i, .int .i64 c, .slice ea dn ec, .int .i64 cd, .slice fa gn fc] _ (box_range (heap_alloc_new w4 _)) Tryd.underlying26 rfl info_un ?_))
  refine Calls.mono (sameUnit_t k e s p i c da dn dc cd ga gn gc ea ec fa fc ds l _ HLE.out.2.2.1 HLE.out.2.2.2.1 (HRD.out _ (below_next HB1.out (below_next HC4.out (al (Below.refl _ _) _)))) (HD4.out.below (al (Below.refl _ _) _)) (HRG.out _ (below_next HB1.out (below_next HC4.out (al (Below.refl _ _) _)))) (RdR.below HQ4.out (al (Below.refl _ _) _)) HLE.out.2.2.2.2.1 HLE.out.2.2.2.2.2) ?_
  rintro er1 w5 ⟨rfl, hb5⟩
  have HC5 : Hid (Below w1.heap.size w1 w5) := below_next HC4.out (below_next (al (Below.refl _ _) _) hb5)
  clear hb5 hss
  go_wp2_with fail
  refine Calls.mono (seal_n ta tn tc ts HTX.out.1 w5 (HRT.out _ (below_next HB1.out HC5.out)) HTX.out.2.1 HTX.out.2.2 (HT.out _ (below_next HB1.out HC5.out))) ?_
  rintro er1 w6 ⟨v6, rfl, ho6, hb6⟩
  obtain ⟨a6, c6, rfl, -⟩ := ho6.val
  have HC6 : Hid (Below w1.heap.size w1 w6) := below_next HC5.out hb6
  obtain ⟨L6, hL6⟩ : ∃ L6, L6 = (ts ++ sealL ts).length := ⟨_, rfl⟩
  rw [← hL6] at ho6 ⊢
  have HO6 : Hid (L6 = (ts ++ sealL ts).length ∧ L6 ≤ c6 ∧ c6 ≤ 9223372036854775807 ∧ (a6 = none → c6 = 0) ∧ Rd w6 a6 (ts ++ sealL ts)) := ho6.four
  have HL6 : Hid (L6 ≤ 140737488355328) := by have h9 := HTX.out.2.2; have h8 := HTX.out.1; unfold Hid; rw [hL6]; simp only [List.length_append]; have : (sealL ts).length = 4 := rfl; omega
  clear ho6 hb6 hL6
  go_wp2_with fail
  refine Calls.mono (decV a6 L6 c6 (ts ++ sealL ts) HO6.out.1 w6 HO6.out.2.2.2.2 HO6.out.2.1 HO6.out.2.2.1 HL6.out (HT.out _ (below_next HB1.out HC6.out)) k2 e2 s2 p2 i2 c2 ds2 cd2 l2 r2 dn2 gn2 HD2.out.1 HD2.out.2.1 HD2.out.2.2) ?_
  rintro er1 w7 ⟨ea2, ec2, fa2, fc2, rfl, ho7, hq7, hb7⟩
  have HD7 : Hid (dn2 = ds2.length ∧ dn2 ≤ ec2 ∧ ec2 ≤ 9223372036854775807 ∧ (ea2 = none → ec2 = 0) ∧ Rd w7 ea2 ds2) := ho7.four
  have HQ7 : Hid (RdR w7 fa2 l2 ∧ gn2 ≤ fc2) := ⟨hq7.rdA.1, hq7.rdA.2.1⟩
  have HC7 : Hid (Below w1.heap.size w1 w7) := below_next HC6.out hb7
  clear ho7 hq7 hb7
  have HU7 : Hid (∀ ob, UBx (w7.alloc ob) w.heap.size #[.int .i64 k, .int .u64 e, .int .u64 s, .int .i64 p, .int .i64 i, .int .i64 c, .slice da dn dc, .int .i64 cd, .slice ga gn gc]) := fun ob => ((below_next HC7.out (al (Below.refl _ _) ob)).block _ HS1.out).trans HU1.out
  have HV7 : Hid _ := fun (u : World) (hu : Below w.heap.size w u) => valV k e s p i c da dn dc cd ga gn gc ds l HLE.out.2.2.1 HLE.out.2.2.2.1 true ⟨fun _ => HV.out, fun _ => rfl⟩ u (HRG.out u hu) HLE.out.2.2.2.2.1 HLE.out.1
  have hss := fun (u : World) (a : Addr) (o : Option Addr) (n c : Nat) => run_store Tryd.prog u a (.slice o n c) .plain rfl
  have hr2 := HNR.out
  subst hr2
  have HI : Hid (validV ⟨k2, e2, s2, p2, i2, c2, ds2, cd2, l2⟩ ∧ ts = encT ⟨k2, e2, s2, p2, i2, c2, ds2, cd2, l2⟩) := decU_inv HD2.out.2.2
  have HGL : Hid (gn2 ≤ 8796093022208) := by have h9 : l2.length ≤ 33 := valid_got HI.out.1; unfold Hid; rw [HD2.out.2.1]; omega
  go_wp2_with (refine wpList_load_g (by rfl) 26 _ rfl w7.heap.size 0 (by rfl) [.int .i64 k2, .int .u64 e2, .int .u64 s2, .int .i64 p2, .int .i64 i2, .int .i64 c2, .slice ea2 dn2 ec2, .int .i64 cd2, .slice fa2 gn2 fc2] _ (box_range (heap_alloc_new w7 _)) Tryd.underlying26 rfl info_un ?_)
  refine Calls.mono (encV k2 e2 s2 p2 i2 c2 ea2 dn2 ec2 cd2 fa2 gn2 fc2 ds2 l2 HD2.out.1 HD2.out.2.1 HI.out.1 _ (HD7.out.2.2.2.2.below (al (Below.refl _ _) _)) HD7.out.2.2.2.1 (RdR.below HQ7.out.1 (al (Below.refl _ _) _)) HGL.out HQ7.out.2 (HT.out _ (below_next HB1.out (below_next HC7.out (al (Below.refl _ _) _))))) ?_
  rintro er1 w8 ⟨a8, L8, c8, rfl, hL8, ho8, hb8⟩
  rw [← HI.out.2] at hL8 ho8
  have HO8 : Hid (L8 = (ts ++ sealL ts).length ∧ Rd w8 a8 (ts ++ sealL ts)) := ⟨hL8, ho8.four.2.2.2.2⟩
  have HC8 : Hid (Below w1.heap.size w1 w8) := below_next HC7.out (below_next (al (Below.refl _ _) _) hb8)
  have HE8 : Hid (Below w7.heap.size w7 w8) := below_next (al (Below.refl _ _) _) hb8
  have HU8 : Hid (UBx w8 w7.heap.size #[.int .i64 k2, .int .u64 e2, .int .u64 s2, .int .i64 p2, .int .i64 i2, .int .i64 c2, .slice ea2 dn2 ec2, .int .i64 cd2, .slice fa2 gn2 fc2]) := (hb8.block w7.heap.size (by simp)).trans (heap_alloc_new w7 _)
  have HS8 : Hid (w7.heap.size < w8.heap.size) := (Array.getElem?_eq_some_iff.1 HU8.out).1
  clear hL8 ho8 hb8 hss
  have HV8 : Hid _ := fun (u : World) (hu : Below w7.heap.size w7 u) => valV k2 e2 s2 p2 i2 c2 ea2 dn2 ec2 cd2 fa2 gn2 fc2 ds2 l2 HD2.out.1 HD2.out.2.1 true ⟨fun _ => HI.out.1, fun _ => rfl⟩ u (RdR.below HQ7.out.1 hu) HGL.out HQ7.out.2
  have hla : ∀ u, Below w8.heap.size w8 u → (Instr.loadAt 26 (.pointer (some ⟨w.heap.size, 0, none⟩))).run Tryd.prog u = .ok (.agg #[.int .i64 k, .int .u64 e, .int .u64 s, .int .i64 p, .int .i64 i, .int .i64 c, .slice da dn dc, .int .i64 cd, .slice ga gn gc]) u := fun u hu => run_loadAt_mid u w.heap.size 0 26 [.int .i64 k, .int .u64 e, .int .u64 s, .int .i64 p, .int .i64 i, .int .i64 c, .slice da dn dc, .int .i64 cd, .slice ga gn gc] _ (box_range (((below_next HC8.out hu).block _ HS1.out).trans HU1.out)) Tryd.underlying26 rfl info_un
  have hlb : ∀ u, Below w8.heap.size w8 u → (Instr.loadAt 26 (.pointer (some ⟨w7.heap.size, 0, none⟩))).run Tryd.prog u = .ok (.agg #[.int .i64 k2, .int .u64 e2, .int .u64 s2, .int .i64 p2, .int .i64 i2, .int .i64 c2, .slice ea2 dn2 ec2, .int .i64 cd2, .slice fa2 gn2 fc2]) u := fun u hu => run_loadAt_mid u w7.heap.size 0 26 [.int .i64 k2, .int .u64 e2, .int .u64 s2, .int .i64 p2, .int .i64 i2, .int .i64 c2, .slice ea2 dn2 ec2, .int .i64 cd2, .slice fa2 gn2 fc2] _ (box_range ((hu.block _ HS8.out).trans HU8.out)) Tryd.underlying26 rfl info_un
  have hcv : ∀ u, Below w8.heap.size w8 u → (convert 23 9 (.slice a8 L8 c8)).run Tryd.prog u = .ok (.string ⟨(ts ++ sealL ts).toArray⟩) u := fun u hu => conv_rd' (HO8.out.2.below hu) L8 c8 HO8.out.1
  go_wp2_with fail
  refine wp_region_noPanic ?_
  refine wp_region_held_drew (S := (fun u => Below w8.heap.size w8 u)) (by kernel_rfl) (by first | exact (Below.refl _ _).drew | assumption) (fun hHeld => ?_)
  refine take_at (i := 0) 53 (v := ?_) rfl rfl (by kernel_rfl) (by kernel_rfl) (by kernel_rfl) (fun _ _ _ h => h) (by rfl) ?_ hHeld ?_
  rotate_left
  · (intro w hSw; (try dsimp only at hSw); go_simp; try with_reducible rfl)
  simp only [Act.put, List.setIfInBounds_toArray, List.set_cons_zero, List.set_cons_succ]
  refine take_at (i := 1) 54 (v := .agg #[.int .i64 k, .int .u64 e, .int .u64 s, .int .i64 p, .int .i64 i, .int .i64 c, .slice da dn dc, .int .i64 cd, .slice ga gn gc]) rfl rfl (by kernel_rfl) (by kernel_rfl) (by kernel_rfl) (fun _ _ _ h => h) (by rfl) ?_ hHeld ?_
  · (intro w hSw; refine exec_load (by rfl) ?_; exact hla w hSw)
  simp only [Act.put, List.setIfInBounds_toArray, List.set_cons_zero, List.set_cons_succ]
  refine run_at (i := 2) rfl (by kernel_rfl) (by rfl) (fun K hK => ?_)
  simp only [List.getElem_toArray, List.getElem_cons_zero, List.getElem_cons_succ]
  go_simp
  first | (go_at_call 14; have h18 := hS10; clear h18; refine Calls.mono (HV8.out _ (below_next HE8.out hS10)) ?_; rintro er1 w11 ⟨rfl, hb11⟩; have hS11 : Below w8.heap.size w8 w11 := below_next hS10 hb11; clear hb11) | (go_at_call 14; refine Calls.mono (HV7.out _ (below_next HB1.out (below_next HC8.out (by first | exact (Below.refl _ _).drew | assumption)))) ?_; rintro er1 w9 ⟨rfl, hb9⟩; have hS9 : Below w8.heap.size w8 w9 := below_next (by first | exact (Below.refl _ _).drew | assumption) hb9; clear hb9) | (go_at_call 13; refine Calls.mono (seal_n ta tn tc ts HTX.out.1 _ (HRT.out _ (below_next HB1.out (below_next HC8.out hS9))) HTX.out.2.1 HTX.out.2.2 (HT.out _ (below_next HB1.out (below_next HC8.out hS9)))) ?_; rintro er1 w10 ⟨v10, rfl, ho10, hb10⟩; obtain ⟨a10, c10, rfl, -⟩ := ho10.val; obtain ⟨L10, hL10⟩ : ∃ L10, L10 = (ts ++ sealL ts).length := ⟨_, rfl⟩; rw [← hL10] at ho10 ⊢; have hS10 : Below w8.heap.size w8 w10 := below_next hS9 hb10; have hcq : (convert 23 9 (.slice a10 L10 c10)).run Tryd.prog w10 = .ok (.string ⟨(ts ++ sealL ts).toArray⟩) w10 := conv_rd' ho10.four.2.2.2.2 _ c10 hL10; clear ho10 hb10 hL10)
  go_wp2_with fail
  refine hK.out _ _ (by first | exact (Below.refl _ _).drew | assumption) ?_
  clear hK K
  intro hHeld2
  clear hHeld
  have hHeld := hHeld2
  clear hHeld2
  try simp only [Act.put, List.setIfInBounds_toArray, List.set_cons_zero, List.set_cons_succ]
  refine take_at (i := 3) 56 (v := ?_) rfl rfl (by kernel_rfl) (by kernel_rfl) (by kernel_rfl) (fun _ _ _ h => h) (by rfl) ?_ hHeld ?_
  rotate_left
  · (intro w hSw; (try dsimp only at hSw); go_simp; try with_reducible rfl)
  simp only [Act.put, List.setIfInBounds_toArray, List.set_cons_zero, List.set_cons_succ]
  refine take_at (i := 4) 57 (v := ?_) rfl rfl (by kernel_rfl) (by kernel_rfl) (by kernel_rfl) (fun _ _ _ h => h) (by rfl) ?_ hHeld ?_
  rotate_left
  · (intro w hSw; (try dsimp only at hSw); go_simp; try with_reducible rfl)
  simp only [Act.put, List.setIfInBounds_toArray, List.set_cons_zero, List.set_cons_succ]
  refine take_at (i := 5) 58 (v := ?_) rfl rfl (by kernel_rfl) (by kernel_rfl) (by kernel_rfl) (fun _ _ _ h => h) (by rfl) ?_ hHeld ?_
  rotate_left
  · (intro w hSw; (try dsimp only at hSw); go_simp; try with_reducible rfl)
  simp only [Act.put, List.setIfInBounds_toArray, List.set_cons_zero, List.set_cons_succ]
  refine take_at (i := 6) 59 (v := ?_) rfl rfl (by kernel_rfl) (by kernel_rfl) (by kernel_rfl) (fun _ _ _ h => h) (by rfl) ?_ hHeld ?_
  rotate_left
  · (intro w hSw; (try dsimp only at hSw); go_simp; try with_reducible rfl)
  simp only [Act.put, List.setIfInBounds_toArray, List.set_cons_zero, List.set_cons_succ]
  refine take_at (i := 7) 60 (v := ?_) rfl rfl (by kernel_rfl) (by kernel_rfl) (by kernel_rfl) (fun _ _ _ h => h) (by rfl) ?_ hHeld ?_
  rotate_left
  · (intro w hSw; (try dsimp only at hSw); go_simp; try with_reducible rfl)
  simp only [Act.put, List.setIfInBounds_toArray, List.set_cons_zero, List.set_cons_succ]
  refine take_at (i := 8) 61 (v := ?_) rfl rfl (by kernel_rfl) (by kernel_rfl) (by kernel_rfl) (fun _ _ _ h => h) (by rfl) ?_ hHeld ?_
  rotate_left
  · (intro w hSw; (try dsimp only at hSw); go_simp; try with_reducible rfl)
  simp only [Act.put, List.setIfInBounds_toArray, List.set_cons_zero, List.set_cons_succ]
  refine take_at (i := 9) 62 (v := ?_) rfl rfl (by kernel_rfl) (by kernel_rfl) (by kernel_rfl) (fun _ _ _ h => h) (by rfl) ?_ hHeld ?_
  rotate_left
  · (intro w hSw; (try dsimp only at hSw); go_simp; try with_reducible rfl)
  simp only [Act.put, List.setIfInBounds_toArray, List.set_cons_zero, List.set_cons_succ]
  refine take_at (i := 10) 63 (v := ?_) rfl rfl (by kernel_rfl) (by kernel_rfl) (by kernel_rfl) (fun _ _ _ h => h) (by rfl) ?_ hHeld ?_
  rotate_left
  · (intro w hSw; have h9 := hcv w hSw; (try dsimp only at hSw); go_simp; try with_reducible rfl)
  simp only [Act.put, List.setIfInBounds_toArray, List.set_cons_zero, List.set_cons_succ]
  refine take_at (i := 11) 64 (v := ?_) rfl rfl (by kernel_rfl) (by kernel_rfl) (by kernel_rfl) (fun _ _ _ h => h) (by rfl) ?_ hHeld ?_
  rotate_left
  · (intro w hSw; (try dsimp only at hSw); go_simp; try with_reducible rfl)
  simp only [Act.put, List.setIfInBounds_toArray, List.set_cons_zero, List.set_cons_succ]
  refine run_at (i := 12) rfl (by kernel_rfl) (by rfl) (fun K hK => ?_)
  simp only [List.getElem_toArray, List.getElem_cons_zero, List.getElem_cons_succ]
  go_simp
  first | (go_at_call 14; have h18 := hS10; clear h18; refine Calls.mono (HV8.out _ (below_next HE8.out hS10)) ?_; rintro er1 w11 ⟨rfl, hb11⟩; have hS11 : Below w8.heap.size w8 w11 := below_next hS10 hb11; clear hb11) | (go_at_call 14; refine Calls.mono (HV7.out _ (below_next HB1.out (below_next HC8.out (by first | exact (Below.refl _ _).drew | assumption)))) ?_; rintro er1 w9 ⟨rfl, hb9⟩; have hS9 : Below w8.heap.size w8 w9 := below_next (by first | exact (Below.refl _ _).drew | assumption) hb9; clear hb9) | (go_at_call 13; refine Calls.mono (seal_n ta tn tc ts HTX.out.1 _ (HRT.out _ (below_next HB1.out (below_next HC8.out hS9))) HTX.out.2.1 HTX.out.2.2 (HT.out _ (below_next HB1.out (below_next HC8.out hS9)))) ?_; rintro er1 w10 ⟨v10, rfl, ho10, hb10⟩; obtain ⟨a10, c10, rfl, -⟩ := ho10.val; obtain ⟨L10, hL10⟩ : ∃ L10, L10 = (ts ++ sealL ts).length := ⟨_, rfl⟩; rw [← hL10] at ho10 ⊢; have hS10 : Below w8.heap.size w8 w10 := below_next hS9 hb10; have hcq : (convert 23 9 (.slice a10 L10 c10)).run Tryd.prog w10 = .ok (.string ⟨(ts ++ sealL ts).toArray⟩) w10 := conv_rd' ho10.four.2.2.2.2 _ c10 hL10; clear ho10 hb10 hL10)
  go_wp2_with fail
  refine hK.out _ _ (by first | exact (Below.refl _ _).drew | assumption) ?_
  clear hK K
  intro hHeld2
  clear hHeld
  have hHeld := hHeld2
  clear hHeld2
  try simp only [Act.put, List.setIfInBounds_toArray, List.set_cons_zero, List.set_cons_succ]
  refine val_at (i := 13) 66 (v := ?_) rfl rfl (by kernel_rfl) (by rfl) ?_ ?_ ?_
  rotate_left
  · (go_simp; try with_reducible rfl)
  · (first | exact (Below.refl _ _).drew | assumption)
  intro hHeld2
  clear hHeld
  have hHeld := hHeld2
  clear hHeld2
  simp only [Act.put, List.setIfInBounds_toArray, List.set_cons_zero, List.set_cons_succ]
  refine take_at (i := 14) 67 (v := ?_) rfl rfl (by kernel_rfl) (by kernel_rfl) (by kernel_rfl) (fun _ _ _ h => h) (by rfl) ?_ hHeld ?_
  rotate_left
  · (intro w hSw; (try dsimp only at hSw); go_simp; try with_reducible rfl)
  simp only [Act.put, List.setIfInBounds_toArray, List.set_cons_zero, List.set_cons_succ]
  refine take_at (i := 15) 68 (v := ?_) rfl rfl (by kernel_rfl) (by kernel_rfl) (by kernel_rfl) (fun _ _ _ h => h) (by rfl) ?_ hHeld ?_
  rotate_left
  · (intro w hSw; (try dsimp only at hSw); go_simp; try with_reducible rfl)
  simp only [Act.put, List.setIfInBounds_toArray, List.set_cons_zero, List.set_cons_succ]
  refine take_at (i := 16) 69 (v := ?_) rfl rfl (by kernel_rfl) (by kernel_rfl) (by kernel_rfl) (fun _ _ _ h => h) (by rfl) ?_ hHeld ?_
  rotate_left
  · (intro w hSw; (try dsimp only at hSw); go_simp; try with_reducible rfl)
  simp only [Act.put, List.setIfInBounds_toArray, List.set_cons_zero, List.set_cons_succ]
  refine take_at (i := 17) 70 (v := .agg #[.int .i64 k2, .int .u64 e2, .int .u64 s2, .int .i64 p2, .int .i64 i2, .int .i64 c2, .slice ea2 dn2 ec2, .int .i64 cd2, .slice fa2 gn2 fc2]) rfl rfl (by kernel_rfl) (by kernel_rfl) (by kernel_rfl) (fun _ _ _ h => h) (by rfl) ?_ hHeld ?_
  · (intro w hSw; refine exec_load (by rfl) ?_; exact hlb w hSw)
  simp only [Act.put, List.setIfInBounds_toArray, List.set_cons_zero, List.set_cons_succ]
  refine run_at (i := 18) rfl (by kernel_rfl) (by rfl) (fun K hK => ?_)
  simp only [List.getElem_toArray, List.getElem_cons_zero, List.getElem_cons_succ]
  go_simp
  first | (go_at_call 14; have h18 := hS10; clear h18; refine Calls.mono (HV8.out _ (below_next HE8.out hS10)) ?_; rintro er1 w11 ⟨rfl, hb11⟩; have hS11 : Below w8.heap.size w8 w11 := below_next hS10 hb11; clear hb11) | (go_at_call 14; refine Calls.mono (HV7.out _ (below_next HB1.out (below_next HC8.out (by first | exact (Below.refl _ _).drew | assumption)))) ?_; rintro er1 w9 ⟨rfl, hb9⟩; have hS9 : Below w8.heap.size w8 w9 := below_next (by first | exact (Below.refl _ _).drew | assumption) hb9; clear hb9) | (go_at_call 13; refine Calls.mono (seal_n ta tn tc ts HTX.out.1 _ (HRT.out _ (below_next HB1.out (below_next HC8.out hS9))) HTX.out.2.1 HTX.out.2.2 (HT.out _ (below_next HB1.out (below_next HC8.out hS9)))) ?_; rintro er1 w10 ⟨v10, rfl, ho10, hb10⟩; obtain ⟨a10, c10, rfl, -⟩ := ho10.val; obtain ⟨L10, hL10⟩ : ∃ L10, L10 = (ts ++ sealL ts).length := ⟨_, rfl⟩; rw [← hL10] at ho10 ⊢; have hS10 : Below w8.heap.size w8 w10 := below_next hS9 hb10; have hcq : (convert 23 9 (.slice a10 L10 c10)).run Tryd.prog w10 = .ok (.string ⟨(ts ++ sealL ts).toArray⟩) w10 := conv_rd' ho10.four.2.2.2.2 _ c10 hL10; clear ho10 hb10 hL10)
  go_wp2_with fail
  refine hK.out _ _ (by first | exact (Below.refl _ _).drew | assumption) ?_
  clear hK K
  intro hHeld2
  clear hHeld
  have hHeld := hHeld2
  clear hHeld2
  try simp only [Act.put, List.setIfInBounds_toArray, List.set_cons_zero, List.set_cons_succ]
  refine take_at (i := 19) 72 (v := ?_) rfl rfl (by kernel_rfl) (by kernel_rfl) (by kernel_rfl) (fun _ _ _ h => h) (by rfl) ?_ hHeld ?_
  rotate_left
  · (intro w hSw; (try dsimp only at hSw); go_simp; try with_reducible rfl)
  simp only [Act.put, List.setIfInBounds_toArray, List.set_cons_zero, List.set_cons_succ]
  refine take_at (i := 20) 73 (v := ?_) rfl rfl (by kernel_rfl) (by kernel_rfl) (by kernel_rfl) (fun _ _ _ h => h) (by rfl) ?_ hHeld ?_
  rotate_left
  · (intro w hSw; (try dsimp only at hSw); go_simp; try with_reducible rfl)
  simp only [Act.put, List.setIfInBounds_toArray, List.set_cons_zero, List.set_cons_succ]
  refine take_at (i := 21) 4 (v := ?_) rfl rfl (by kernel_rfl) (by kernel_rfl) (by kernel_rfl) (fun _ _ _ h => h) (by rfl) ?_ hHeld ?_
  rotate_left
  · (intro w hSw; (try dsimp only at hSw); go_simp; try with_reducible rfl)
  simp only [Act.put, List.setIfInBounds_toArray, List.set_cons_zero, List.set_cons_succ]
  refine wpAnyH_done (by kernel_rfl) ?_ _
  refine NoPanic.normal ?_
  go_wp2
  go_ret
  exact ⟨rfl, below_next HB1.out (below_next HC8.out hS11)⟩
end
end Go.Proofs.YtjigbopkmffjaaaDoor
