import Derived.Test.YtjigbopkmffjaaaDoorUBn
namespace Go.Proofs.YtjigbopkmffjaaaDoor
set_option linter.unusedVariables false
set_option linter.unusedSimpArgs false
open Go.RowKit
section
set_option maxRecDepth 20000
set_option maxHeartbeats 6400000
theorem pduBack_d (k e s p i c : Int) (da : Option Addr) (dc : Nat) (ds : List UInt8) (cd : Int) (ga : Option Addr) (gc : Nat) (l : List Rg) (ta : Option Addr) (tc : Nat) (ts : List UInt8) (w : World)
    (hd : Rd w da ds) (hdl : ds.length ≤ dc) (hdn : da = none → dc = 0) (hdc : dc ≤ 140737488351232) (hg : RdR w ga l) (hgl : l.length ≤ gc) (hgc : gc ≤ 8796093021952) (htd : Rd w ta ts) (htl : ts.length ≤ tc) (htc : tc ≤ 140737488351232) (htn : ta = none → tc = 0) (ht : TabOk w) (hv : ¬ validV ⟨k, e, s, p, i, c, ds, cd, l⟩) (hr : ¬ (decU (ts ++ sealL ts)).2 = 0) :
    Calls Tryd.prog 3 #[.agg #[.int .i64 k, .int .u64 e, .int .u64 s, .int .i64 p, .int .i64 i, .int .i64 c, .slice da ds.length dc, .int .i64 cd, .slice ga l.length gc], .slice ta ts.length tc] w fun er w' => er = .returned (.bool true) ∧ Below w.heap.size w w' := by
  obtain ⟨dn, hdn9⟩ : ∃ dn : Nat, dn = ds.length := ⟨_, rfl⟩
  obtain ⟨gn, hgn9⟩ : ∃ gn : Nat, gn = l.length := ⟨_, rfl⟩
  rw [← hdn9, ← hgn9]
  obtain ⟨DC, hDC⟩ : ∃ DC : Nat, DC = dn + 4 := ⟨_, rfl⟩
  obtain ⟨GC, hGC⟩ : ∃ GC : Nat, GC = gn + 3 := ⟨_, rfl⟩
  have HGV : Hid _ := fun (u : World) (hu : Below w.heap.size w u) => given_t k e s p i c da dn dc cd ga gn gc ds l DC GC u hdn9 hgn9 hDC hGC (hd.below hu) (hg.below hu) (by omega) (by omega)
  have HRD : Hid (∀ u, Below w.heap.size w u → Rd u da ds) := fun u hu => hd.below hu
  have HRG : Hid (∀ u, Below w.heap.size w u → RdR u ga l) := fun u hu => hg.below hu
  have HT : Hid (∀ u, Below w.heap.size w u → TabOk u) := fun u hu => ht.below hu
  have HDN : Hid (da = none → dc = 0) := hdn
  have HLE : Hid (gn ≤ gc ∧ gn ≤ GC ∧ dn = ds.length ∧ gn = l.length ∧ gn ≤ 8796093022208 ∧ dn ≤ 140737488351232) := ⟨by omega, by omega, hdn9, hgn9, by omega, by omega⟩
  obtain ⟨tn, htn9⟩ : ∃ tn : Nat, tn = ts.length := ⟨_, rfl⟩
  rw [← htn9]
  have HTX : Hid (tn = ts.length ∧ (ta = none → tc = 0) ∧ tn + 4 ≤ 140737488355328) := ⟨htn9, htn, by omega⟩
  have HRT : Hid (∀ u, Below w.heap.size w u → Rd u ta ts) := fun u hu => htd.below hu
  obtain ⟨⟨k2, e2, s2, p2, i2, c2, ds2, cd2, l2⟩, r2, hdec⟩ : ∃ V r2, decU (ts ++ sealL ts) = (V, r2) := ⟨_, _, rfl⟩
  obtain ⟨dn2, hdn2⟩ : ∃ dn : Nat, dn = ds2.length := ⟨_, rfl⟩
  obtain ⟨gn2, hgn2⟩ : ∃ gn : Nat, gn = l2.length := ⟨_, rfl⟩
  have HD2 : Hid (dn2 = ds2.length ∧ gn2 = l2.length ∧ decU (ts ++ sealL ts) = (⟨k2, e2, s2, p2, i2, c2, ds2, cd2, l2⟩, r2)) := ⟨hdn2, hgn2, hdec⟩
  rw [hdec] at hr
  have HNR : Hid (¬ r2 = 0) := hr
  have HV : Hid (¬ validV ⟨k, e, s, p, i, c, ds, cd, l⟩) := hv
  clear htd htl htc htn htn9 hdec hdn2 hgn2 hr hv
  clear hd hdl hdn hdc hg hgl hgc ht hdn9 hgn9 hDC hGC
  go_enter Tryd.func3, Tryd.ntmps3
  go_wp2_with fail
  refine Calls.mono (small_law _ (HT.out _ (al (Below.refl _ _) _))) ?_
  rintro er1 w1 ⟨rfl, hb1⟩
  have HU1 : Hid (UBx w1 w.heap.size #[.int .i64 k, .int .u64 e, .int .u64 s, .int .i64 p, .int .i64 i, .int .i64 c, .slice da dn dc, .int .i64 cd, .slice ga gn gc]) := (hb1.block w.heap.size (by simp)).trans (heap_alloc_new w _)
  have HB1 : Hid (Below w.heap.size w w1) := below_next (al (Below.refl _ _) _) hb1
  have HS1 : Hid (w.heap.size < w1.heap.size) := (Array.getElem?_eq_some_iff.1 HU1.out).1
  clear hb1
  go_wp2_with (refine wpList_load_g (by rfl) 26 _ rfl w.heap.size 0 (by rfl) [.int .i64 k, .int .u64 e, .int .u64 s, .int .i64 p, .int .i64 i, .int .i64 c, .slice da dn dc, .int .i64 cd, .slice ga gn gc] _ (box_range HU1.out) Tryd.underlying26 rfl info_un ?_)
  refine Calls.mono (HGV.out _ HB1.out) ?_
  rintro er1 w2 ⟨gd, gg, rfl, hr2, hl2, hb2⟩
  have HR2 : Hid (Rd w2 (some ⟨gd, 0, none⟩) ds) := by have h9 := Rd.take hr2 ds.length; rw [List.take_left' rfl] at h9; exact h9
  have HL2 : Hid (RdR w2 (some ⟨gg, 0, none⟩) l) := RdR.left hl2
  have HC2 : Hid (Below w1.heap.size w1 w2) := hb2
  clear hr2 hl2 hb2
  go_wp2_with fail
  refine Calls.mono (encX k e s p i c (some ⟨gd, 0, none⟩) dn DC cd (some ⟨gg, 0, none⟩) gn GC ds l HLE.out.2.2.1 HLE.out.2.2.2.1 HV.out _ HL2.out HLE.out.2.2.2.2.1 HLE.out.2.1) ?_
  rintro er1 w5 ⟨rfl, hb3⟩
  have HC5 : Hid (Below w1.heap.size w1 w5) := below_next HC2.out hb3
  clear hb3
  go_wp2_with fail
  refine Calls.mono (seal_n ta tn tc ts HTX.out.1 w5 (HRT.out _ (below_next HB1.out HC5.out)) HTX.out.2.1 HTX.out.2.2 (HT.out _ (below_next HB1.out HC5.out))) ?_
  rintro er1 w6 ⟨v6, rfl, ho6, hb6⟩
  obtain ⟨a6, c6, rfl, -⟩ := ho6.val
  have HC6 : Hid (Below w1.heap.size w1 w6) := below_next HC5.out hb6
  obtain ⟨L6, hL6⟩ : ∃ L6, L6 = (ts ++ sealL ts).length := ⟨_, rfl⟩
  rw [← hL6] at ho6 ⊢
  have HO6 : Hid (L6 = (ts ++ sealL ts).length ∧ L6 ≤ c6 ∧ c6 ≤ 9223372036854775807 ∧ (a6 = none → c6 = 0) ∧ Rd w6 a6 (ts ++ sealL ts)) := ho6.four
  have HL6 : Hid (L6 ≤ 140737488355328) := by have h9 := HTX.out.2.2; have h8 := HTX.out.1; unfold Hid; rw [hL6]; simp only [List.length_append]; have : (sealL ts).length = 4 := rfl; omega
  clear ho6 hb6 hL6
  go_wp2_with fail
  refine Calls.mono (decV a6 L6 c6 (ts ++ sealL ts) HO6.out.1 w6 HO6.out.2.2.2.2 HO6.out.2.1 HO6.out.2.2.1 HL6.out (HT.out _ (below_next HB1.out HC6.out)) k2 e2 s2 p2 i2 c2 ds2 cd2 l2 r2 dn2 gn2 HD2.out.1 HD2.out.2.1 HD2.out.2.2) ?_
  rintro er1 w7 ⟨ea2, ec2, fa2, fc2, rfl, ho7, hq7, hb7⟩
  have HD7 : Hid (dn2 = ds2.length ∧ dn2 ≤ ec2 ∧ ec2 ≤ 9223372036854775807 ∧ (ea2 = none → ec2 = 0) ∧ Rd w7 ea2 ds2) := ho7.four
  have HQ7 : Hid (RdR w7 fa2 l2 ∧ gn2 ≤ fc2) := ⟨hq7.rdA.1, hq7.rdA.2.1⟩
  have HC7 : Hid (Below w1.heap.size w1 w7) := below_next HC6.out hb7
  clear ho7 hq7 hb7
  have HU7 : Hid (∀ ob, UBx (w7.alloc ob) w.heap.size #[.int .i64 k, .int .u64 e, .int .u64 s, .int .i64 p, .int .i64 i, .int .i64 c, .slice da dn dc, .int .i64 cd, .slice ga gn gc]) := fun ob => ((below_next HC7.out (al (Below.refl _ _) ob)).block _ HS1.out).trans HU1.out
  have HV7 : Hid _ := fun (u : World) (hu : Below w.heap.size w u) => valV k e s p i c da dn dc cd ga gn gc ds l HLE.out.2.2.1 HLE.out.2.2.2.1 false ⟨(fun h => by cases h), fun h => absurd h HV.out⟩ u (HRG.out u hu) HLE.out.2.2.2.2.1 HLE.out.1
  have hss := fun (u : World) (a : Addr) (o : Option Addr) (n c : Nat) => run_store Tryd.prog u a (.slice o n c) .plain rfl
  have hr2 := HNR.out
  have hr2b : (r2 == 0) = false := by simpa using hr2
  go_wp2_with (first
    | (refine wpList_load_g (by rfl) 26 _ rfl w.heap.size 0 (by rfl) [.int .i64 k, .int .u64 e, .int .u64 s, .int .i64 p, .int .i64 i, .int .i64 c, .slice da dn dc, .int .i64 cd, .slice ga gn gc] _ (box_range (HU7.out _)) Tryd.underlying26 rfl info_un ?_)
    | (go_at_call 14; refine Calls.mono (HV7.out _ (below_next HB1.out (below_next HC7.out (al (Below.refl _ _) _)))) ?_; rintro er1 w8 ⟨rfl, hb8⟩; have HB8 : Hid (Below w.heap.size w w8) := below_next (below_next HB1.out (below_next HC7.out (al (Below.refl _ _) _))) hb8; clear hb8))
  go_ret
  exact ⟨rfl, HB8.out⟩
end
end Go.Proofs.YtjigbopkmffjaaaDoor
