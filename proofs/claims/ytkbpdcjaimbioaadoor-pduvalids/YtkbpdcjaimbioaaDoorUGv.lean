import Derived.Test.YtkbpdcjaimbioaaDoorULs
import Derived.Test.YtkbpdcjaimbioaaDoorGLaw
namespace Go.Proofs.YtkbpdcjaimbioaaDoor
set_option linter.unusedVariables false
set_option linter.unusedSimpArgs false
open Go.RowKit
theorem RdR.left {w : World} {ao : Option Addr} {xs ys : List Rg} (h : RdR w ao (xs ++ ys)) : RdR w ao xs := fun j hj => by
  obtain ⟨b, o, h1, h2, h3⟩ := h j (by rw [List.length_append]; omega)
  rw [List.getElem_append_left hj] at h2 h3
  exact ⟨b, o, h1, h2, h3⟩
section
set_option maxRecDepth 20000
set_option maxHeartbeats 6400000
theorem sameUnit_t (k e s p i c : Int) (da : Option Addr) (dn dc : Nat) (cd : Int) (ga : Option Addr) (gn gc : Nat) (da2 : Option Addr) (dc2 : Nat) (ga2 : Option Addr) (gc2 : Nat) (ds : List UInt8) (l : List Rg) (w : World) (hdn : dn = ds.length) (hgn : gn = l.length) (hd : Rd w da ds) (hd2 : Rd w da2 ds) (hg : RdR w ga l) (hg2 : RdR w ga2 l) (hl : gn ≤ 8796093022208) (hdl : dn ≤ 140737488351232) :
    Calls Tryd.prog 12 #[.agg #[.int .i64 k, .int .u64 e, .int .u64 s, .int .i64 p, .int .i64 i, .int .i64 c, .slice da dn dc, .int .i64 cd, .slice ga gn gc], .agg #[.int .i64 k, .int .u64 e, .int .u64 s, .int .i64 p, .int .i64 i, .int .i64 c, .slice da2 dn dc2, .int .i64 cd, .slice ga2 gn gc2]] w fun e w' => e = .returned (.bool true) ∧ Below w.heap.size w w' := by
  have hcv := fun (u : World) (hu : Below w.heap.size w u) => conv_rd' (n := dn) (cap := dc) (hd.below hu) hdn
  have hcv2 := fun (u : World) (hu : Below w.heap.size w u) => conv_rd' (n := dn) (cap := dc2) (hd2.below hu) hdn
  have hv1 := hcv _ (al (al (Below.refl _ w) (.cells #[.int .i64 k, .int .u64 e, .int .u64 s, .int .i64 p, .int .i64 i, .int .i64 c, .slice da dn dc, .int .i64 cd, .slice ga gn gc] 26 (0, 0))) (.cells #[.int .i64 k, .int .u64 e, .int .u64 s, .int .i64 p, .int .i64 i, .int .i64 c, .slice da2 dn dc2, .int .i64 cd, .slice ga2 gn gc2] 26 (0, 0)))
  have hv2 := hcv2 _ (al (al (Below.refl _ w) (.cells #[.int .i64 k, .int .u64 e, .int .u64 s, .int .i64 p, .int .i64 i, .int .i64 c, .slice da dn dc, .int .i64 cd, .slice ga gn gc] 26 (0, 0))) (.cells #[.int .i64 k, .int .u64 e, .int .u64 s, .int .i64 p, .int .i64 i, .int .i64 c, .slice da2 dn dc2, .int .i64 cd, .slice ga2 gn gc2] 26 (0, 0)))
  have HS : Hid _ := fun (u : World) (hu : Below w.heap.size w u) => same_t ga ga2 gn gn gc gc2 l l u hgn hgn (hg.below hu) (hg2.below hu) hl rfl
  clear hcv hcv2 hd hd2 hg hg2 hdn hgn
  go_enter Tryd.func12, Tryd.ntmps12
  go_wp2_with (go_at_call 26; refine Calls.mono (HS.out _ (al (al (Below.refl _ _) _) _)) ?_; rintro e1 w1 ⟨rfl, hb1⟩; have HB1 : Hid (Below w.heap.size w w1) := below_next (al (al (Below.refl _ _) _) _) hb1; clear hb1)
  go_ret
  exact ⟨rfl, HB1.out⟩

theorem kept_t (k e s p i c : Int) (gd : Nat) (dn : Nat) (cd : Int) (gg : Nat) (gn : Nat) (DC GC : Nat) (da2 : Option Addr) (dc2 : Nat) (ga2 : Option Addr) (gc2 : Nat) (ds : List UInt8) (l : List Rg) (w : World) (hdn : dn = ds.length) (hgn : gn = l.length) (hDC : DC = dn + 4) (hGC : GC = gn + 3) (hd : Rd w (some ⟨gd, 0, none⟩) (ds ++ m4)) (hd2 : Rd w da2 ds) (hg : RdR w (some ⟨gg, 0, none⟩) (l ++ m3)) (hg2 : RdR w ga2 l) (hl : gn ≤ 8796093022200) (hdl : dn ≤ 140737488351232) :
    Calls Tryd.prog 18 #[.agg #[.int .i64 k, .int .u64 e, .int .u64 s, .int .i64 p, .int .i64 i, .int .i64 c, .slice (some ⟨gd, 0, none⟩) dn DC, .int .i64 cd, .slice (some ⟨gg, 0, none⟩) gn GC], .agg #[.int .i64 k, .int .u64 e, .int .u64 s, .int .i64 p, .int .i64 i, .int .i64 c, .slice da2 dn dc2, .int .i64 cd, .slice ga2 gn gc2]] w fun e w' => e = .returned (.bool true) ∧ Below w.heap.size w w' := by
  have HSU : Hid _ := fun (u : World) (hu : Below w.heap.size w u) => sameUnit_t k e s p i c (some ⟨gd, 0, none⟩) dn DC cd (some ⟨gg, 0, none⟩) gn GC da2 dc2 ga2 gc2 ds l u hdn hgn (by have h9 := Rd.take (hd.below hu) ds.length; rw [List.take_left' rfl] at h9; exact h9) (hd2.below hu) (RdR.left (hg.below hu)) (hg2.below hu) (by omega) hdl
  have HST : Hid (∀ u, Below w.heap.size w u → Calls Tryd.prog 21 #[.slice (some ⟨gd, 0, none⟩) dn DC, .slice da2 dn dc2] u fun e w' => e = .returned (.bool true) ∧ Below u.heap.size u w') := fun u hu => by rw [hDC, hdn]; exact stays_t gd da2 dc2 ds u (hd.below hu) (hd2.below hu) (by omega)
  have HRE : Hid (∀ u, Below w.heap.size w u → Calls Tryd.prog 45 #[.slice (some ⟨gg, 0, none⟩) gn GC, .slice ga2 gn gc2] u fun e w' => e = .returned (.bool true) ∧ Below u.heap.size u w') := fun u hu => rest_t gg ga2 gn GC gc2 l u hgn hGC (hg.below hu) (hg2.below hu) hl
  have HX : Hid (∀ u, Below (w.heap.size + 2) ((w.alloc (.cells #[.int .i64 k, .int .u64 e, .int .u64 s, .int .i64 p, .int .i64 i, .int .i64 c, .slice (some ⟨gd, 0, none⟩) dn DC, .int .i64 cd, .slice (some ⟨gg, 0, none⟩) gn GC] 26 (0, 0))).alloc (.cells #[.int .i64 k, .int .u64 e, .int .u64 s, .int .i64 p, .int .i64 i, .int .i64 c, .slice da2 dn dc2, .int .i64 cd, .slice ga2 gn gc2] 26 (0, 0))) u → u.rangeAt w.heap.size 0 [.int .i64 k, .int .u64 e, .int .u64 s, .int .i64 p, .int .i64 i, .int .i64 c, .slice (some ⟨gd, 0, none⟩) dn DC, .int .i64 cd, .slice (some ⟨gg, 0, none⟩) gn GC] ∧ u.rangeAt (w.heap.size + 1) 0 [.int .i64 k, .int .u64 e, .int .u64 s, .int .i64 p, .int .i64 i, .int .i64 c, .slice da2 dn dc2, .int .i64 cd, .slice ga2 gn gc2]) := fun u hu => by
    refine ⟨range_below (range_below (range_box w [.int .i64 k, .int .u64 e, .int .u64 s, .int .i64 p, .int .i64 i, .int .i64 c, .slice (some ⟨gd, 0, none⟩) dn DC, .int .i64 cd, .slice (some ⟨gg, 0, none⟩) gn GC] 26) (al (Below.refl _ _) _)) (by rw [heap_alloc_size1', heap_alloc_size1']; exact hu), ?_⟩
    have h9 := range_box (w.alloc (.cells #[.int .i64 k, .int .u64 e, .int .u64 s, .int .i64 p, .int .i64 i, .int .i64 c, .slice (some ⟨gd, 0, none⟩) dn DC, .int .i64 cd, .slice (some ⟨gg, 0, none⟩) gn GC] 26 (0, 0))) [.int .i64 k, .int .u64 e, .int .u64 s, .int .i64 p, .int .i64 i, .int .i64 c, .slice da2 dn dc2, .int .i64 cd, .slice ga2 gn gc2] 26
    rw [heap_alloc_size1'] at h9
    exact range_below h9 (by rw [heap_alloc_size1', heap_alloc_size1']; exact hu)
  have HB0 : Hid (Below (w.heap.size + 2) ((w.alloc (.cells #[.int .i64 k, .int .u64 e, .int .u64 s, .int .i64 p, .int .i64 i, .int .i64 c, .slice (some ⟨gd, 0, none⟩) dn DC, .int .i64 cd, .slice (some ⟨gg, 0, none⟩) gn GC] 26 (0, 0))).alloc (.cells #[.int .i64 k, .int .u64 e, .int .u64 s, .int .i64 p, .int .i64 i, .int .i64 c, .slice da2 dn dc2, .int .i64 cd, .slice ga2 gn gc2] 26 (0, 0))) ((w.alloc (.cells #[.int .i64 k, .int .u64 e, .int .u64 s, .int .i64 p, .int .i64 i, .int .i64 c, .slice (some ⟨gd, 0, none⟩) dn DC, .int .i64 cd, .slice (some ⟨gg, 0, none⟩) gn GC] 26 (0, 0))).alloc (.cells #[.int .i64 k, .int .u64 e, .int .u64 s, .int .i64 p, .int .i64 i, .int .i64 c, .slice da2 dn dc2, .int .i64 cd, .slice ga2 gn gc2] 26 (0, 0)))) := Below.refl _ _
  have HW : Hid (∀ u, Below (w.heap.size + 2) ((w.alloc (.cells #[.int .i64 k, .int .u64 e, .int .u64 s, .int .i64 p, .int .i64 i, .int .i64 c, .slice (some ⟨gd, 0, none⟩) dn DC, .int .i64 cd, .slice (some ⟨gg, 0, none⟩) gn GC] 26 (0, 0))).alloc (.cells #[.int .i64 k, .int .u64 e, .int .u64 s, .int .i64 p, .int .i64 i, .int .i64 c, .slice da2 dn dc2, .int .i64 cd, .slice ga2 gn gc2] 26 (0, 0))) u → Below w.heap.size w u) := fun u hu => (al (al (Below.refl _ w) _) _).trans (hu.mono (by omega))
  clear hd hd2 hg hg2 hdn hgn hDC hGC
  go_enter Tryd.func18, Tryd.ntmps18
  go_wp2_with (first
    | (refine wpList_load_g (by rfl) 26 _ rfl w.heap.size 0 (by rfl) [.int .i64 k, .int .u64 e, .int .u64 s, .int .i64 p, .int .i64 i, .int .i64 c, .slice (some ⟨gd, 0, none⟩) dn DC, .int .i64 cd, .slice (some ⟨gg, 0, none⟩) gn GC] _ (HX.out _ HB0.out).1 Tryd.underlying26 rfl info_un ?_)
    | (refine wpList_load_g (by rfl) 26 _ rfl (w.heap.size + 1) 0 (by rfl) [.int .i64 k, .int .u64 e, .int .u64 s, .int .i64 p, .int .i64 i, .int .i64 c, .slice da2 dn dc2, .int .i64 cd, .slice ga2 gn gc2] _ (HX.out _ HB0.out).2 Tryd.underlying26 rfl info_un ?_)
    | (go_at_call 12; refine Calls.mono (HSU.out _ (HW.out _ HB0.out)) ?_; rintro e1 w1 ⟨rfl, hb1⟩; have HB1 : Hid (Below (w.heap.size + 2) ((w.alloc (.cells #[.int .i64 k, .int .u64 e, .int .u64 s, .int .i64 p, .int .i64 i, .int .i64 c, .slice (some ⟨gd, 0, none⟩) dn DC, .int .i64 cd, .slice (some ⟨gg, 0, none⟩) gn GC] 26 (0, 0))).alloc (.cells #[.int .i64 k, .int .u64 e, .int .u64 s, .int .i64 p, .int .i64 i, .int .i64 c, .slice da2 dn dc2, .int .i64 cd, .slice ga2 gn gc2] 26 (0, 0))) w1) := (by have h9 := hb1; rw [heap_alloc_size1', heap_alloc_size1'] at h9; exact h9); have hc16 : w1.cell? ⟨w.heap.size, 6, none⟩ = some (.slice (some ⟨gd, 0, none⟩) dn DC) := (HX.out _ HB1.out).1 6 _ rfl; have hc26 : w1.cell? ⟨w.heap.size + 1, 6, none⟩ = some (.slice da2 dn dc2) := (HX.out _ HB1.out).2 6 _ rfl; clear hb1)
    | (go_at_call 21; refine Calls.mono (HST.out _ (HW.out _ HB1.out)) ?_; rintro e1 w2 ⟨rfl, hb2⟩; have HB2 : Hid (Below (w.heap.size + 2) ((w.alloc (.cells #[.int .i64 k, .int .u64 e, .int .u64 s, .int .i64 p, .int .i64 i, .int .i64 c, .slice (some ⟨gd, 0, none⟩) dn DC, .int .i64 cd, .slice (some ⟨gg, 0, none⟩) gn GC] 26 (0, 0))).alloc (.cells #[.int .i64 k, .int .u64 e, .int .u64 s, .int .i64 p, .int .i64 i, .int .i64 c, .slice da2 dn dc2, .int .i64 cd, .slice ga2 gn gc2] 26 (0, 0))) w2) := HB1.out.trans (hb2.mono (by have h9 := HB1.out.size; rw [heap_alloc_size1', heap_alloc_size1'] at h9; exact h9)); have hc18 : w2.cell? ⟨w.heap.size, 8, none⟩ = some (.slice (some ⟨gg, 0, none⟩) gn GC) := (HX.out _ HB2.out).1 8 _ rfl; have hc28 : w2.cell? ⟨w.heap.size + 1, 8, none⟩ = some (.slice ga2 gn gc2) := (HX.out _ HB2.out).2 8 _ rfl; clear hb2)
    | (go_at_call 45; refine Calls.mono (HRE.out _ (HW.out _ HB2.out)) ?_; rintro e1 w3 ⟨rfl, hb3⟩; have HB3 : Hid (Below w.heap.size w w3) := below_next (HW.out _ HB2.out) hb3; clear hb3))
  go_ret
  exact ⟨rfl, HB3.out⟩

end
end Go.Proofs.YtkbpdcjaimbioaaDoor
