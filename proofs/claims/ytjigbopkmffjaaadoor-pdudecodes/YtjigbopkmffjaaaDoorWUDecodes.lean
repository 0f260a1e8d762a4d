import Derived.Test.YtjigbopkmffjaaaDoorUPr
import Derived.Test.YtjigbopkmffjaaaDoorUXd
import Derived.Test.YtjigbopkmffjaaaDoorUBn
namespace Go.Proofs.YtjigbopkmffjaaaDoor
set_option linter.unusedVariables false
set_option linter.unusedSimpArgs false
open Go.RowKit
theorem rdecV (ao : Option Addr) (n cap : Nat) (xs : List UInt8) (hn : n = xs.length) (w : World) (hx : Rd w ao xs) (hlc : n ≤ cap) (hcm : cap ≤ 9223372036854775807) (hl : n ≤ 140737488355328) (k e s p i c : Int) (ds : List UInt8) (cd : Int) (l : List Rg) (r : Int) (dn gn : Nat) (hdn : dn = ds.length) (hgn : gn = l.length) (hd : decU xs = (⟨k, e, s, p, i, c, ds, cd, l⟩, r)) :
    Calls Tryd.prog 20 #[.slice ao n cap] w fun er w' => ∃ da dc ga gc, er = .returned (.tuple #[.agg #[.int .i64 k, .int .u64 e, .int .u64 s, .int .i64 p, .int .i64 i, .int .i64 c, .slice da dn dc, .int .i64 cd, .slice ga gn gc], .int .i64 r]) ∧ Own w' w.heap.size (.slice da dn dc) ds ∧ OwnR w' w.heap.size (.slice ga gn gc) l ∧ Below w.heap.size w w' := by
  subst hdn hgn
  refine (rdecode_t ao n cap xs hn w hx hlc hcm hl).mono ?_
  rw [hd]
  rintro er w' ⟨da, dc, ga, gc, h1, h2, h3, h4⟩
  exact ⟨da, dc, ga, gc, h1, h2, h3, h4⟩
theorem stays_q (g n N : Nat) (bo : Option Addr) (cap' : Nat) (xs : List UInt8) (hn : n = xs.length) (hN : N = n + 4) (w : World) (hy : Rd w (some ⟨g, 0, none⟩) (xs ++ m4)) (hx : Rd w bo xs) (hl : n ≤ 140737488351232) :
    Calls Tryd.prog 21 #[.slice (some ⟨g, 0, none⟩) n N, .slice bo n cap'] w fun e w' => e = .returned (.bool true) ∧ Below w.heap.size w w' := by
  subst hN hn
  exact (stays_t g bo cap' xs w hy hx hl).mono fun _ _ h => h
theorem decU_len {xs : List UInt8} {u : Un} {r : Int} (h : decU xs = (u, r)) : u.data.length ≤ 1024 ∧ u.got.length ≤ 33 := by
  unfold decU at h
  by_cases h0 : (unS xs).2 = 0
  · rw [if_pos h0] at h
    by_cases h1 : rEnd (readU ((unS xs).1, 0)).2.1 (readU ((unS xs).1, 0)).2.2 = 0
    · rw [if_pos h1] at h
      simp only [Prod.mk.injEq] at h
      have hf : (readU ((unS xs).1, 0)).2.2 = 0 := by
        unfold rEnd at h1
        by_cases hf : (readU ((unS xs).1, 0)).2.2 = 0
        · exact hf
        · rw [if_neg hf] at h1; exact h1
      have h2 : readU ((unS xs).1, 0) = ((readU ((unS xs).1, 0)).1, (readU ((unS xs).1, 0)).2.1, 0) := by
        generalize readU ((unS xs).1, 0) = z at hf ⊢
        obtain ⟨z1, z2, z3⟩ := z
        simp only at hf
        rw [hf]
      have hv := (readU_inv h2).1
      rw [h.1] at hv
      exact ⟨valid_data hv, valid_got hv⟩
    · rw [if_neg h1] at h
      simp only [Prod.mk.injEq] at h
      rw [← h.1]
      exact ⟨by decide, by decide⟩
  · rw [if_neg h0] at h
    simp only [Prod.mk.injEq] at h
    rw [← h.1]
    exact ⟨by decide, by decide⟩
section
set_option maxRecDepth 20000
set_option maxHeartbeats 3200000
theorem pduDecodes_walk (ta : Option Addr) (tc : Nat) (ts : List UInt8) (w : World) (htd : Rd w ta ts) (htl : ts.length ≤ tc) (htc : tc ≤ 140737488351232) (htn : ta = none → tc = 0) (ht : TabOk w) :
    Calls Tryd.prog 6 #[.slice ta ts.length tc] w fun er w' => er = .returned (.bool true) ∧ Below w.heap.size w w' := by
  obtain ⟨tn, htn9⟩ : ∃ tn : Nat, tn = ts.length := ⟨_, rfl⟩
  rw [← htn9]
  obtain ⟨TN, hTN⟩ : ∃ TN : Nat, TN = tn + 4 := ⟨_, rfl⟩
  have HBY : Hid _ := bytes_n ta tn tc ts htn9 TN hTN w htd (by omega)
  have HTX : Hid (tn = ts.length ∧ tn ≤ tc ∧ tc ≤ 9223372036854775807 ∧ tn ≤ 140737488355328 ∧ tn ≤ TN ∧ TN ≤ 9223372036854775807) := ⟨htn9, by omega, by omega, by omega, by omega, by omega⟩
  have HRT : Hid (∀ u, Below w.heap.size w u → Rd u ta ts) := fun u hu => htd.below hu
  have HT : Hid (∀ u, Below w.heap.size w u → TabOk u) := fun u hu => ht.below hu
  obtain ⟨⟨k, e, s, p, i, c, ds, cd, l⟩, r, hdec⟩ : ∃ V r2, decU ts = (V, r2) := ⟨_, _, rfl⟩
  obtain ⟨dn, hdn⟩ : ∃ dn : Nat, dn = ds.length := ⟨_, rfl⟩
  obtain ⟨gn, hgn⟩ : ∃ gn : Nat, gn = l.length := ⟨_, rfl⟩
  have HD2 : Hid (dn = ds.length ∧ gn = l.length ∧ decU ts = (⟨k, e, s, p, i, c, ds, cd, l⟩, r)) := ⟨hdn, hgn, hdec⟩
  have HDL : Hid (dn ≤ 1024 ∧ gn ≤ 33) := by have h9 := decU_len hdec; unfold Hid; rw [hdn, hgn]; exact h9
  have HSY : Hid _ := fun (g : Nat) (u : World) (h1 : Rd u (some ⟨g, 0, none⟩) (ts ++ m4)) (hu : Below w.heap.size w u) => stays_q g tn TN ta tc ts htn9 hTN u h1 (htd.below hu) (by omega)
  clear htd htl htc htn htn9 ht hdec hdn hgn hTN
  go_enter Tryd.func6, Tryd.ntmps6
  go_wp2_with fail
  refine Calls.mono HBY.out ?_
  rintro er1 w1 ⟨g, rfl, hgg, hr1, hb1⟩
  have HR1 : Hid (Rd w1 (some ⟨g, 0, none⟩) (ts ++ m4)) := hr1
  have HX1 : Hid (Rd w1 (some ⟨g, 0, none⟩) ts) := by have h9 := Rd.take hr1 ts.length; rw [List.take_left' rfl] at h9; exact h9
  have HB1 : Hid (Below w.heap.size w w1) := hb1
  clear hgg hr1 hb1
  go_wp2_with fail
  refine Calls.mono (decV (some ⟨g, 0, none⟩) tn TN ts HTX.out.1 w1 HX1.out HTX.out.2.2.2.2.1 HTX.out.2.2.2.2.2 HTX.out.2.2.2.1 (HT.out _ HB1.out) k e s p i c ds cd l r dn gn HD2.out.1 HD2.out.2.1 HD2.out.2.2) ?_
  rintro er1 w2 ⟨ea, ec, fa, fc, rfl, ho2, hq2, hb2⟩
  have HO2 : Hid (Rd w2 ea ds) := ho2.four.2.2.2.2
  have HQ2 : Hid (RdR w2 fa l) := hq2.rdA.1
  have HB2 : Hid (Below w1.heap.size w1 w2) := hb2
  clear ho2 hq2 hb2
  have hss := fun (u : World) (a : Addr) (o : Option Addr) (n c : Nat) => run_store Tryd.prog u a (.slice o n c) .plain rfl
  go_wp2_with fail
  refine Calls.mono (rdecV ta tn tc ts HTX.out.1 _ (HRT.out _ (below_next HB1.out (below_next HB2.out (al (Below.refl _ _) _)))) HTX.out.2.1 HTX.out.2.2.1 HTX.out.2.2.2.1 k e s p i c ds cd l r dn gn HD2.out.1 HD2.out.2.1 HD2.out.2.2) ?_
  rintro er1 w3 ⟨ea2, ec2, fa2, fc2, rfl, ho3, hq3, hb3⟩
  have HO3 : Hid (Rd w3 ea2 ds) := ho3.four.2.2.2.2
  have HQ3 : Hid (RdR w3 fa2 l) := hq3.rdA.1
  have HU3 : Hid (UBx w3 w2.heap.size #[.int .i64 k, .int .u64 e, .int .u64 s, .int .i64 p, .int .i64 i, .int .i64 c, .slice ea dn ec, .int .i64 cd, .slice fa gn fc]) := (hb3.block w2.heap.size (by simp)).trans (heap_alloc_new w2 _)
  have HC3 : Hid (Below w2.heap.size w2 w3) := below_next (al (Below.refl _ _) _) hb3
  clear ho3 hq3 hb3
  have HU4 : Hid (∀ ob, UBx (w3.alloc ob) w2.heap.size #[.int .i64 k, .int .u64 e, .int .u64 s, .int .i64 p, .int .i64 i, .int .i64 c, .slice ea dn ec, .int .i64 cd, .slice fa gn fc]) := fun ob => ((al (Below.refl _ _) ob).block _ (Array.getElem?_eq_some_iff.1 HU3.out).1).trans HU3.out
  go_wp2_with (first
    | (refine wpList_load_g (by rfl) 26 _ rfl w2.heap.size 0 (by rfl) [.int .i64 k, .int .u64 e, .int .u64 s, .int .i64 p, .int .i64 i, .int .i64 c, .slice ea dn ec, .int .i64 cd, .slice fa gn fc] _ (box_range (HU4.out _)) Tryd.underlying26 rfl info_un ?_)
    | (refine wpList_load_g (by rfl) 26 _ rfl w3.heap.size 0 (by rfl) [.int .i64 k, .int .u64 e, .int .u64 s, .int .i64 p, .int .i64 i, .int .i64 c, .slice ea2 dn ec2, .int .i64 cd, .slice fa2 gn fc2] _ (box_range (heap_alloc_new w3 _)) Tryd.underlying26 rfl info_un ?_)
    | (go_at_call 12; refine Calls.mono (sameUnit_t k e s p i c ea dn ec cd fa gn fc ea2 ec2 fa2 fc2 ds l _ HD2.out.1 HD2.out.2.1 (HO2.out.below (below_next HC3.out (al (Below.refl _ _) _))) (HO3.out.below (al (Below.refl _ _) _)) (RdR.below HQ2.out (below_next HC3.out (al (Below.refl _ _) _))) (RdR.below HQ3.out (al (Below.refl _ _) _)) (by have := HDL.out; omega) (by have := HDL.out; omega)) ?_; rintro er1 w4 ⟨rfl, hb4⟩; have HC4 : Hid (Below w1.heap.size w1 w4) := below_next HB2.out (below_next HC3.out (below_next (al (Below.refl _ _) _) hb4)); clear hb4)
    | (go_at_call 21; refine Calls.mono (HSY.out g w4 (HR1.out.below HC4.out) (below_next HB1.out HC4.out)) ?_; rintro er1 w5 ⟨rfl, hb5⟩; have HB5 : Hid (Below w.heap.size w w5) := below_next (below_next HB1.out HC4.out) hb5; clear hb5))
  go_ret
  exact ⟨rfl, HB5.out⟩
end
end Go.Proofs.YtjigbopkmffjaaaDoor
