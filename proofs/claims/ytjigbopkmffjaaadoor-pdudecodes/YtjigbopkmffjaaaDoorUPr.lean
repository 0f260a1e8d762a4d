import Derived.Test.YtjigbopkmffjaaaDoorUGs
import Derived.Test.YtjigbopkmffjaaaDoorGLaw
namespace Go.Proofs.YtjigbopkmffjaaaDoor
set_option linter.unusedVariables false
set_option linter.unusedSimpArgs false
open Go.RowKit
section
set_option maxRecDepth 20000
set_option maxHeartbeats 6400000
theorem kept_t (k e s p i c : Int) (gd : Nat) (dn : Nat) (cd : Int) (gg : Nat) (gn : Nat) (DC GC : Nat) (da2 : Option Addr) (dc2 : Nat) (ga2 : Option Addr) (gc2 : Nat) (ds : List UInt8) (l : List Rg) (w : World) (hdn : dn = ds.length) (hgn : gn = l.length) (hDC : DC = dn + 4) (hGC : GC = gn + 3) (hd : Rd w (some ⟨gd, 0, none⟩) (ds ++ m4)) (hd2 : Rd w da2 ds) (hg : RdR w (some ⟨gg, 0, none⟩) (l ++ m3)) (hg2 : RdR w ga2 l) (hl : gn ≤ 8796093022200) (hdl : dn ≤ 140737488351232) :
    Calls Tryd.prog 18 #[.agg #[.int .i64 k, .int .u64 e, .int .u64 s, .int .i64 p, .int .i64 i, .int .i64 c, .slice (some ⟨gd, 0, none⟩) dn DC, .int .i64 cd, .slice (some ⟨gg, 0, none⟩) gn GC], .agg #[.int .i64 k, .int .u64 e, .int .u64 s, .int .i64 p, .int .i64 i, .int .i64 c, .slice da2 dn dc2, .int .i64 cd, .slice ga2 gn gc2]] w fun e w' => e = .returned (.bool true) ∧ Below w.heap.size w w' := by
  have HSU : Hid _ := fun (u : World) (hu : Below w.heap.size w u) => sameUnit_t k e s p i c (some ⟨gd, 0, none⟩) dn DC cd (some ⟨gg, 0, none⟩) gn GC da2 dc2 ga2 gc2 ds l u hdn hgn (by have h9 := Rd.take (hd.below hu) ds.length; rw [List.take_left' rfl] at h9; exact h9) (hd2.below hu) (RdR.left (hg.below hu)) (hg2.below hu) (by omega) hdl
  have HST : Hid (∀ u, Below w.heap.size w u → Calls Tryd.prog 21 #[.slice (some ⟨gd, 0, none⟩) dn DC, .slice da2 dn dc2] u fun e w' => e = .returned (.bool true) ∧ Below u.heap.size u w') := fun u hu => by rw [hDC, hdn]; exact stays_t gd da2 dc2 ds u (hd.below hu) (hd2.below hu) (by omega)
  have HRE : Hid (∀ u, Below w.heap.size w u → Calls Tryd.prog 45 #[.slice (some ⟨gg, 0, none⟩) gn GC, .slice ga2 gn gc2] u fun e w' => e = .returned (.bool true) ∧ Below u.heap.size u w') := fun u hu => rest_t gg ga2 gn GC gc2 l u hgn hGC (hg.below hu) (hg2.below hu) hl
  have HX : Hid (∀ u, Below (w.heap.size + 2) ((w.alloc (.cells #[.int .i64 k, .int .u64 e, .int .u64 s, .int .i64 p, .int .i64 i, .int .i64 c, .slice (some ⟨gd, 0, none⟩) dn DC, .int .i64 cd, .slice (some ⟨gg, 0, none⟩) gn GC] 26 (0, 0))).alloc (.cells #[.int .i64 k, .int .u64 e, .int .u64 s, .int .i64 p, .int .i64 i, .int .i64 c, .slice da2 dn dc2, .int .i64 cd, .slice ga2 gn gc2] 26 (0, 0))) u → u.rangeAt w.heap.size 0 [.int .i64 k, .int .u64 e, .int .u64 s, .int .i64 p, .int .i64 i, .int .i64 c, .slice (some ⟨gd, 0, none⟩) dn DC, .int .i64 cd, .slice (some ⟨gg, 0, none⟩) gn GC] ∧ u.rangeAt (w.heap.size + 1) 0 [.int .i64 k, .int .u64 e, .int .u64 s, .int .i64 p, .int .i64 i, .int .i64 c, .slice da2 dn dc2, .int .i64 cd, .slice ga2 gn gc2]) := fun u hu => by
    refine ⟨range_below (range_below (range_box w [.int .i64 k, .int .u64 e, .int .u64 s, .int .i64 p, .int .i64 i, .int .i64 c, .slice (some ⟨gd, 0, none⟩) dn DC, .int .i64 cd, .slice (some ⟨gg, 0, none⟩) gn GC] 26) (al (Below.refl _ _) _)) (by rw [heap_alloc_size1', heap_alloc_size1']; exact hu), ?_⟩
    have h9 := range_box (w.alloc (.cells #[.int .i64 k, .int .u64 e, .int .u64 s, .int .i64 p, .int .i64 i, .int .i64 c, .slice (some ⟨gd, 0, none⟩) dn DC, .int .i64 cd, .slice (some ⟨gg, 0, none⟩) gn GC] 26 (0, 0))) [.int .i64 k, .int .u64 e, .int .u64 s, .int .i64 p, .int .i64 i, .int .i64 c, .slice da2 dn dc2, .int .i64 cd, .slice ga2 gn gc2] 26
    rw [heap_alloc_size1'] at h9
    exact range_below h9 (by rw [heap_alloc_size1', heap_alloc_size1']; exact hu)
  have HB0 : Hid (Below (w.heap.size + 2) ((w.alloc (.cells #[.int .i64 k, .int .u64 e, .int .u64 s, .int .i64 p, .int .i64 i, .int .i64 c, .slice (some ⟨gd, 0, none⟩) dn DC, .int .i64 cd, .slice (some ⟨gg, 0, none⟩) gn GC] 26 (0, 0))).alloc (.cells #[.int .i64 k, .int .u64 e, .int .u64 s, .int .i64 p, .int .i64 i, .int .i64 c, .slice da2 dn dc2, .int .i64 cd, .slice ga2 gn gc2] 26 (0, 0))) ((w.alloc (.cells #[.int .i64 k, .int .u64 e, .int .u64 s, .int .i64 p, .int .i64 i, .int .i64 c, .slice (some ⟨gd, 0, none⟩) dn DC, .int .i64 cd, .slice (some ⟨gg, 0, none⟩) gn GC] 26 (0, 0))).alloc (.cells #[.int .i64 k, .int .u64 e, .int .u64 s, .int .i64 p, .int .i64 i, .int .i64 c, .slice da2 dn dc2, .int .i64 cd, .slice ga2 gn gc2] 26 (0, 0)))) := Below.refl _ _
  have HW : Hid (∀ u, Below (w.heap.size + 2) ((w.alloc (.cells #[.int .i64 k, .int .u64 e, .int .u64 s, .int .i64 p, .int .i64 i, .int .i64 c, .slice (some ⟨gd, 0, none⟩) dn DC, .int .i64 cd, .slice (some ⟨gg, 0, none⟩) gn GC] 26 (0, 0))).alloc (.cells #[.int .i64 k, .int .u64 e, .int .u64 s, .int .i64 p, .int .i64 i, .int .i64 c, .slice da2 dn dc2, .int .i64 cd, .slice ga2 gn gc2] 26 (0, 0))) u → Below w.heap.size w u) := fun u hu => (al (al (Below.refl _ w) _) _).trans (hu.mono (by omega))
  clear hd hd2 hg hg2 hdn hgn hDC hGC
  go_enter Tryd.func18, Tryd.ntmps18
  go_wp2_with (first
    | (refine wpList_load_g (by rfl) 26 _ rfl w.heap.size 0 (by rfl) [.int .i64 k, .int .u64 e, .int .u64 s, .int .i64 p, .int .i64 i, .int .i64 c, .slice (some ⟨gd, 0, none⟩) dn DC, .int .i64 cd, .slice (some ⟨gg, 0, none⟩) gn GC] _ (HX.out _ HB0.out).1 Tryd.underlying26 rfl info_un ?_)
    | (refine wpList_load_g (by rfl) 26 _ rfl (w.heap.size + 1) 0 (by rfl) [.int .i64 k, .int .u64 e, .int .u64 s, .int .i64 p, .int .i64 i, .int .i64 c, .slice da2 dn dc2, .int .i64 cd, .slice ga2 gn gc2] _ (HX.out _ HB0.out).2 Tryd.underlying26 rfl info_un ?_)
    | (go_at_call 12; refine Calls.mono (HSU.out _ (HW.out _ HB0.out)) ?_; rintro e1 w1 ⟨rfl, hb1⟩; have HB1 : Hid (Below (w.heap.size + 2) ((w.alloc (.cells #[.int .i64 k, .int .u64 e, .int .u64 s, .int .i64 p, .int .i64 i, .int .i64 c, .slice (some ⟨gd, 0, none⟩) dn DC, .int .i64 cd, .slice (some ⟨gg, 0, none⟩) gn GC] 26 (0, 0))).alloc (.cells #[.int .i64 k, .int .u64 e, .int .u64 s, .int .i64 p, .int .i64 i, .int .i64 c, .slice da2 dn dc2, .int .i64 cd, .slice ga2 gn gc2] 26 (0, 0))) w1) := (by have h9 := hb1; rw [heap_alloc_size1', heap_alloc_size1'] at h9; exact h9); have hc16 : w1.cell? ⟨w.heap.size, 6, none⟩ = some (.slice (some ⟨gd, 0, none⟩) dn DC) := (HX.out _ HB1.out).1 6 _ rfl; have hc26 : w1.cell? ⟨w.heap.size + 1, 6, none⟩ = some (.slice da2 dn dc2) := (HX.out _ HB1.out).2 6 _ rfl; clear hb1)
    | (go_at_call 21; refine Calls.mono (HST.out _ (HW.out _ HB1.out)) ?_; rintro e1 w2 ⟨rfl, hb2⟩; have HB2 : Hid (Below (w.heap.size + 2) ((w.alloc (.cells #[.int .i64 k, .int .u64 e, .int .u64 s, .int .i64 p, .int .i64 i, .int .i64 c, .slice (some ⟨gd, 0, none⟩) dn DC, .int .i64 cd, .slice (some ⟨gg, 0, none⟩) gn GC] 26 (0, 0))).alloc (.cells #[.int .i64 k, .int .u64 e, .int .u64 s, .int .i64 p, .int .i64 i, .int .i64 c, .slice da2 dn dc2, .int .i64 cd, .slice ga2 gn gc2] 26 (0, 0))) w2) := HB1.out.trans (hb2.mono (by have h9 := HB1.out.size; rw [heap_alloc_size1', heap_alloc_size1'] at h9; exact h9)); have hc18 : w2.cell? ⟨w.heap.size, 8, none⟩ = some (.slice (some ⟨gg, 0, none⟩) gn GC) := (HX.out _ HB2.out).1 8 _ rfl; have hc28 : w2.cell? ⟨w.heap.size + 1, 8, none⟩ = some (.slice ga2 gn gc2) := (HX.out _ HB2.out).2 8 _ rfl; clear hb2)
    | (go_at_call 45; refine Calls.mono (HRE.out _ (HW.out _ HB2.out)) ?_; rintro e1 w3 ⟨rfl, hb3⟩; have HB3 : Hid (Below w.heap.size w w3) := below_next (HW.out _ HB2.out) hb3; clear hb3))
  go_ret
  exact ⟨rfl, HB3.out⟩

end
end Go.Proofs.YtjigbopkmffjaaaDoor
namespace Go.Proofs.YtjigbopkmffjaaaDoor
set_option linter.unusedVariables false
set_option linter.unusedSimpArgs false
open Go.RowKit
theorem RdR.grown {w w' : World} {ao : Option Addr} {xs : List Rg} {r : Nat} (h : RdR w ao xs) (hg : w.grownBy w' (some r)) (hne : ∀ a, ao = some a → a.block ≠ r) : RdR w' ao xs := fun j hj => by
  obtain ⟨b, o, h1, h2, h3⟩ := h j hj
  have h9 : (some b : Option Nat) ≠ some r := fun e => hne _ h1 (by cases e; rfl)
  exact ⟨b, o, h1, hg.cell h2 h9, hg.cell h3 h9⟩
theorem bytes_n (ao : Option Addr) (n cap : Nat) (xs : List UInt8) (hn : n = xs.length) (N : Nat) (hN : N = n + 4) (w : World) (hx : Rd w ao xs) (hl : n ≤ 140737488351232) :
    Calls Tryd.prog 19 #[.slice ao n cap] w fun e w' => ∃ g, e = .returned (.slice (some ⟨g, 0, none⟩) n N) ∧ w.heap.size ≤ g ∧ Rd w' (some ⟨g, 0, none⟩) (xs ++ m4) ∧ Below w.heap.size w w' := by
  subst hn hN
  exact bytes_any ao cap xs w hx hl
theorem ranges_n (ao : Option Addr) (n cap : Nat) (xs : List Rg) (hn : n = xs.length) (N : Nat) (hN : N = n + 3) (w : World) (hx : RdR w ao xs) (hl : n ≤ 8796093022200) :
    Calls Tryd.prog 33 #[.slice ao n cap] w fun e w' => ∃ g, e = .returned (.slice (some ⟨g, 0, none⟩) n N) ∧ w.heap.size ≤ g ∧ RdR w' (some ⟨g, 0, none⟩) (xs ++ m3) ∧ Below w.heap.size w w' := by
  subst hN
  exact ranges_t ao n cap xs w hn hx hl
section
set_option maxRecDepth 20000
set_option maxHeartbeats 6400000
theorem given_t (k e s p i c : Int) (da : Option Addr) (dn dc : Nat) (cd : Int) (ga : Option Addr) (gn gc : Nat) (ds : List UInt8) (l : List Rg) (DC GC : Nat) (w : World) (hdn : dn = ds.length) (hgn : gn = l.length) (hDC : DC = dn + 4) (hGC : GC = gn + 3) (hd : Rd w da ds) (hg : RdR w ga l) (hl : gn ≤ 8796093022200) (hdl : dn ≤ 140737488351232) :
    Calls Tryd.prog 10 #[.agg #[.int .i64 k, .int .u64 e, .int .u64 s, .int .i64 p, .int .i64 i, .int .i64 c, .slice da dn dc, .int .i64 cd, .slice ga gn gc]] w fun er w' => ∃ gd gg, er = .returned (.agg #[.int .i64 k, .int .u64 e, .int .u64 s, .int .i64 p, .int .i64 i, .int .i64 c, .slice (some ⟨gd, 0, none⟩) dn DC, .int .i64 cd, .slice (some ⟨gg, 0, none⟩) gn GC]) ∧ Rd w' (some ⟨gd, 0, none⟩) (ds ++ m4) ∧ RdR w' (some ⟨gg, 0, none⟩) (l ++ m3) ∧ Below w.heap.size w w' := by
  have HBY : Hid (∀ u, Below w.heap.size w u → Calls Tryd.prog 19 #[.slice da dn dc] u fun e w' => ∃ g, e = .returned (.slice (some ⟨g, 0, none⟩) dn DC) ∧ u.heap.size ≤ g ∧ Rd w' (some ⟨g, 0, none⟩) (ds ++ m4) ∧ Below u.heap.size u w') := fun u hu => bytes_n da dn dc ds hdn DC hDC u (hd.below hu) hdl
  have HRA : Hid (∀ u, Below w.heap.size w u → Calls Tryd.prog 33 #[.slice ga gn gc] u fun e w' => ∃ g, e = .returned (.slice (some ⟨g, 0, none⟩) gn GC) ∧ u.heap.size ≤ g ∧ RdR w' (some ⟨g, 0, none⟩) (l ++ m3) ∧ Below u.heap.size u w') := fun u hu => ranges_n ga gn gc l hgn GC hGC u (hg.below hu) hl
  have HW2 : Hid (Below w.heap.size w ((w.alloc (.cells #[.int .i64 k, .int .u64 e, .int .u64 s, .int .i64 p, .int .i64 i, .int .i64 c, .slice da dn dc, .int .i64 cd, .slice ga gn gc] 26 (0, 0))).alloc (.cells #[.int .i64 0, .int .u64 0, .int .u64 0, .int .i64 0, .int .i64 0, .int .i64 0, .slice none 0 0, .int .i64 0, .slice none 0 0] 26 (0, 0)))) := al (al (Below.refl _ w) _) _
  have HA2 : Hid (((w.alloc (.cells #[.int .i64 k, .int .u64 e, .int .u64 s, .int .i64 p, .int .i64 i, .int .i64 c, .slice da dn dc, .int .i64 cd, .slice ga gn gc] 26 (0, 0))).alloc (.cells #[.int .i64 0, .int .u64 0, .int .u64 0, .int .i64 0, .int .i64 0, .int .i64 0, .slice none 0 0, .int .i64 0, .slice none 0 0] 26 (0, 0))).heap[w.heap.size]? = some (.cells #[.int .i64 k, .int .u64 e, .int .u64 s, .int .i64 p, .int .i64 i, .int .i64 c, .slice da dn dc, .int .i64 cd, .slice ga gn gc] 26 (0, 0))) := ((al (Below.refl _ _) _).block w.heap.size (by simp)).trans (heap_alloc_new w _)
  have HZ2 : Hid (((w.alloc (.cells #[.int .i64 k, .int .u64 e, .int .u64 s, .int .i64 p, .int .i64 i, .int .i64 c, .slice da dn dc, .int .i64 cd, .slice ga gn gc] 26 (0, 0))).alloc (.cells #[.int .i64 0, .int .u64 0, .int .u64 0, .int .i64 0, .int .i64 0, .int .i64 0, .slice none 0 0, .int .i64 0, .slice none 0 0] 26 (0, 0))).heap[w.heap.size + 1]? = some (.cells #[.int .i64 0, .int .u64 0, .int .u64 0, .int .i64 0, .int .i64 0, .int .i64 0, .slice none 0 0, .int .i64 0, .slice none 0 0] 26 (0, 0))) := by
    have h9 := heap_alloc_new (w.alloc (.cells #[.int .i64 k, .int .u64 e, .int .u64 s, .int .i64 p, .int .i64 i, .int .i64 c, .slice da dn dc, .int .i64 cd, .slice ga gn gc] 26 (0, 0))) (.cells #[.int .i64 0, .int .u64 0, .int .u64 0, .int .i64 0, .int .i64 0, .int .i64 0, .slice none 0 0, .int .i64 0, .slice none 0 0] 26 (0, 0))
    rw [heap_alloc_size1'] at h9
    exact h9
  have hsl := fun (u : World) (a : Addr) (x : Option Addr) (n c : Nat) => run_store Tryd.prog u a (.slice x n c) .plain rfl
  have H2s : Hid (((w.alloc (.cells #[.int .i64 k, .int .u64 e, .int .u64 s, .int .i64 p, .int .i64 i, .int .i64 c, .slice da dn dc, .int .i64 cd, .slice ga gn gc] 26 (0, 0))).alloc (.cells #[.int .i64 0, .int .u64 0, .int .u64 0, .int .i64 0, .int .i64 0, .int .i64 0, .slice none 0 0, .int .i64 0, .slice none 0 0] 26 (0, 0))).heap.size = w.heap.size + 2) := by unfold Hid; simp
  clear hd hg hdn hgn hDC hGC
  go_enter Tryd.func10, Tryd.ntmps10
  go_wp2_with fail
  refine Calls.mono (HBY.out _ HW2.out) ?_
  rintro e1 w1 ⟨gd, rfl, hgd, hr1, hb1⟩
  have HA1 : Hid (w1.heap[w.heap.size]? = some (.cells #[.int .i64 k, .int .u64 e, .int .u64 s, .int .i64 p, .int .i64 i, .int .i64 c, .slice da dn dc, .int .i64 cd, .slice ga gn gc] 26 (0, 0))) := (hb1.block w.heap.size (by have := H2s.out; omega)).trans HA2.out
  have HZ1 : Hid (w1.heap[w.heap.size + 1]? = some (.cells #[.int .i64 0, .int .u64 0, .int .u64 0, .int .i64 0, .int .i64 0, .int .i64 0, .slice none 0 0, .int .i64 0, .slice none 0 0] 26 (0, 0))) := (hb1.block (w.heap.size + 1) (by have := H2s.out; omega)).trans HZ2.out
  have HR1 : Hid (Rd w1 (some ⟨gd, 0, none⟩) (ds ++ m4)) := hr1
  have HB1 : Hid (Below w.heap.size w w1) := below_next HW2.out hb1
  have HGD : Hid (w.heap.size + 2 ≤ gd) := by have := H2s.out; unfold Hid; omega
  have hc61 : w1.cell? ⟨w.heap.size, 6, none⟩ = some (.slice da dn dc) := by rw [cell_of_row _ _ _ _ _ _ HA1.out]; rfl
  have hc81 : w1.cell? ⟨w.heap.size, 8, none⟩ = some (.slice ga gn gc) := by rw [cell_of_row _ _ _ _ _ _ HA1.out]; rfl
  have hf61 : w1.frozen? ⟨w.heap.size, 6, none⟩ = false := by simp [World.frozen?, HA1.out]
  have HS1 : Hid (w.heap.size + 2 ≤ w1.heap.size) := by have h9 := hb1.size; have := H2s.out; unfold Hid; omega
  clear hsl
  go_wp2_with fail
  obtain ⟨x1, hx1⟩ : ∃ x1 : World, x1 = w1.setCell ⟨w.heap.size, 6, none⟩ (.slice (some ⟨gd, 0, none⟩) dn DC) := ⟨_, rfl⟩
  rw [← hx1]
  have HG1 : Hid (w1.grownBy x1 (some w.heap.size)) := by unfold Hid; rw [hx1]; exact gset1 _ _ _ _
  have HAx : Hid (x1.heap[w.heap.size]? = some (.cells #[.int .i64 k, .int .u64 e, .int .u64 s, .int .i64 p, .int .i64 i, .int .i64 c, .slice (some ⟨gd, 0, none⟩) dn DC, .int .i64 cd, .slice ga gn gc] 26 (0, 0))) := by unfold Hid; rw [hx1, heap_setCell_same w1 w.heap.size 6 _ _ _ HA1.out]; rfl
  have HZx : Hid (x1.heap[w.heap.size + 1]? = some (.cells #[.int .i64 0, .int .u64 0, .int .u64 0, .int .i64 0, .int .i64 0, .int .i64 0, .slice none 0 0, .int .i64 0, .slice none 0 0] 26 (0, 0))) := by unfold Hid; rw [hx1, heap_setCell_other _ _ _ _ (show w.heap.size + 1 ≠ w.heap.size by omega)]; exact HZ1.out
  have HBx : Hid (Below w.heap.size w x1) := HB1.out.grown HG1.out HB1.out.size (fun j hj => by cases hj; exact Nat.le_refl _)
  have HRx : Hid (Rd x1 (some ⟨gd, 0, none⟩) (ds ++ m4)) := Rd.grown HR1.out HG1.out (fun a ha => by cases ha; intro h; have h9 := Option.some.inj h; have := HGD.out; simp only at h9; omega)
  have hc8x : x1.cell? ⟨w.heap.size, 8, none⟩ = some (.slice ga gn gc) := by rw [cell_of_row _ _ _ _ _ _ HAx.out]; rfl
  have HSx : Hid (w.heap.size + 2 ≤ x1.heap.size) := Nat.le_trans HS1.out HG1.out.size
  clear hgd hr1 hb1 hx1 hc61 hc81 hf61
  refine Calls.mono (HRA.out _ HBx.out) ?_
  rintro e1 w2 ⟨gg, rfl, hgg, hr2, hb2⟩
  have HA3 : Hid (w2.heap[w.heap.size]? = some (.cells #[.int .i64 k, .int .u64 e, .int .u64 s, .int .i64 p, .int .i64 i, .int .i64 c, .slice (some ⟨gd, 0, none⟩) dn DC, .int .i64 cd, .slice ga gn gc] 26 (0, 0))) := (hb2.block w.heap.size (by have := HSx.out; omega)).trans HAx.out
  have HZ3 : Hid (w2.heap[w.heap.size + 1]? = some (.cells #[.int .i64 0, .int .u64 0, .int .u64 0, .int .i64 0, .int .i64 0, .int .i64 0, .slice none 0 0, .int .i64 0, .slice none 0 0] 26 (0, 0))) := (hb2.block (w.heap.size + 1) (by have := HSx.out; omega)).trans HZx.out
  have HGG : Hid (w.heap.size + 2 ≤ gg) := by have := HSx.out; unfold Hid; omega
  have hc82 : w2.cell? ⟨w.heap.size, 8, none⟩ = some (.slice ga gn gc) := by rw [cell_of_row _ _ _ _ _ _ HA3.out]; rfl
  have hf82 : w2.frozen? ⟨w.heap.size, 8, none⟩ = false := by simp [World.frozen?, HA3.out]
  obtain ⟨x2, hx2⟩ : ∃ x2 : World, x2 = w2.setCell ⟨w.heap.size, 8, none⟩ (.slice (some ⟨gg, 0, none⟩) gn GC) := ⟨_, rfl⟩
  have HG2 : Hid (w2.grownBy x2 (some w.heap.size)) := by unfold Hid; rw [hx2]; exact gset1 _ _ _ _
  have HAy : Hid (x2.heap[w.heap.size]? = some (.cells #[.int .i64 k, .int .u64 e, .int .u64 s, .int .i64 p, .int .i64 i, .int .i64 c, .slice (some ⟨gd, 0, none⟩) dn DC, .int .i64 cd, .slice (some ⟨gg, 0, none⟩) gn GC] 26 (0, 0))) := by unfold Hid; rw [hx2, heap_setCell_same w2 w.heap.size 8 _ _ _ HA3.out]; rfl
  have HZy : Hid (x2.heap[w.heap.size + 1]? = some (.cells #[.int .i64 0, .int .u64 0, .int .u64 0, .int .i64 0, .int .i64 0, .int .i64 0, .slice none 0 0, .int .i64 0, .slice none 0 0] 26 (0, 0))) := by unfold Hid; rw [hx2, heap_setCell_other _ _ _ _ (show w.heap.size + 1 ≠ w.heap.size by omega)]; exact HZ3.out
  have HB2 : Hid (Below w.heap.size w w2) := below_next HBx.out hb2
  have HBy : Hid (Below w.heap.size w x2) := HB2.out.grown HG2.out HB2.out.size (fun j hj => by cases hj; exact Nat.le_refl _)
  have HRy : Hid (Rd x2 (some ⟨gd, 0, none⟩) (ds ++ m4)) := Rd.grown (HRx.out.below hb2) HG2.out (fun a ha => by cases ha; intro h; have h9 := Option.some.inj h; have := HGD.out; simp only at h9; omega)
  have HLy : Hid (RdR x2 (some ⟨gg, 0, none⟩) (l ++ m3)) := RdR.grown hr2 HG2.out (fun a ha => by cases ha; intro h; have := HGG.out; simp only at h; omega)
  rw [hx2] at HAy HZy HBy HRy HLy
  clear hgg hr2 hb2 hc8x
  go_wp2_with (first
    | (refine wpList_load_g (by rfl) 26 _ rfl w.heap.size 0 (by rfl) [.int .i64 k, .int .u64 e, .int .u64 s, .int .i64 p, .int .i64 i, .int .i64 c, .slice (some ⟨gd, 0, none⟩) dn DC, .int .i64 cd, .slice (some ⟨gg, 0, none⟩) gn GC] _ (box_range HAy.out) Tryd.underlying26 rfl info_un ?_)
    | (refine wpList_store_mid rfl 26 _ _ rfl (w.heap.size + 1) 0 #[.int .i64 k, .int .u64 e, .int .u64 s, .int .i64 p, .int .i64 i, .int .i64 c, .slice (some ⟨gd, 0, none⟩) dn DC, .int .i64 cd, .slice (some ⟨gg, 0, none⟩) gn GC] rfl rfl (box_there HZy.out rfl) (by kernel_rfl) (by simp [Value.oneCell']) ?_))
  (try simp only [Exit.inBlock, Exit.then])
  refine bodyPost_ret (results_cell_row Tryd.results10 _ _ (w.heap.size + 1) 26 #[.int .i64 k, .int .u64 e, .int .u64 s, .int .i64 p, .int .i64 i, .int .i64 c, .slice (some ⟨gd, 0, none⟩) dn DC, .int .i64 cd, .slice (some ⟨gg, 0, none⟩) gn GC] (0, 0) _ rfl (box_set HZy.out rfl) Tryd.underlying26 rfl (by kernel_rfl)) rfl ?_
  have hfin := setCells_grown (w.heap.size + 1) [.int .i64 k, .int .u64 e, .int .u64 s, .int .i64 p, .int .i64 i, .int .i64 c, .slice (some ⟨gd, 0, none⟩) dn DC, .int .i64 cd, .slice (some ⟨gg, 0, none⟩) gn GC] 0 (w2.setCell ⟨w.heap.size, 8, none⟩ (.slice (some ⟨gg, 0, none⟩) gn GC))
  exact ⟨gd, gg, rfl, Rd.grown HRy.out hfin (fun a ha => by cases ha; intro h; have h9 := Option.some.inj h; have := HGD.out; simp only at h9; omega), RdR.grown HLy.out hfin (fun a ha => by cases ha; intro h; have := HGG.out; simp only at h; omega), HBy.out.grown hfin HBy.out.size (fun j hj => by cases hj; omega)⟩
end
end Go.Proofs.YtjigbopkmffjaaaDoor
namespace Go.Proofs.YtjigbopkmffjaaaDoor
set_option linter.unusedVariables false
set_option linter.unusedSimpArgs false
open Go.RowKit
def EncIs (ys : List UInt8) (r : Int) (w : World) (er : Ending) (w' : World) : Prop := ∃ (a : Option Addr) (L c : Nat), er = .returned (.tuple #[.slice a L c, .int .i64 r]) ∧ L = ys.length ∧ Rd w' a ys ∧ Below w.heap.size w w'
theorem EncOut.is {T : List UInt8} {w w' : World} {er : Ending} (h : EncOut T w er w') : EncIs (T ++ sealL T) 0 w er w' := by
  obtain ⟨a, L, c, h1, h2, h3, -, h5⟩ := h
  exact ⟨a, L, c, h1, h2, h3, h5⟩
theorem EncOwn.is {T : List UInt8} {w w' : World} {er : Ending} (h : EncOwn T w er w') : EncIs (T ++ sealL T) 0 w er w' := h.out.is
/-- what the four answer of one unit -/
structure Four (k e s p i c : Int) (dn : Nat) (cd : Int) (gn : Nat) (ds : List UInt8) (l : List Rg) (ys : List UInt8) (r : Int) : Prop where
  enc : ∀ da dc ga gc w, Rd w da ds → (da = none → dc = 0) → RdR w ga l → gn ≤ gc → TabOk w → Calls Tryd.prog 9 #[.agg #[.int .i64 k, .int .u64 e, .int .u64 s, .int .i64 p, .int .i64 i, .int .i64 c, .slice da dn dc, .int .i64 cd, .slice ga gn gc]] w fun er w' => EncIs ys r w er w'
  renc : ∀ da dc ga gc w, Rd w da ds → (da = none → dc = 0) → RdR w ga l → Calls Tryd.prog 17 #[.agg #[.int .i64 k, .int .u64 e, .int .u64 s, .int .i64 p, .int .i64 i, .int .i64 c, .slice da dn dc, .int .i64 cd, .slice ga gn gc]] w fun er w' => EncIs ys r w er w'
  val : ∀ da dc ga gc w, RdR w ga l → gn ≤ gc → Calls Tryd.prog 14 #[.agg #[.int .i64 k, .int .u64 e, .int .u64 s, .int .i64 p, .int .i64 i, .int .i64 c, .slice da dn dc, .int .i64 cd, .slice ga gn gc]] w fun er w' => er = .returned (.int .i64 r) ∧ Below w.heap.size w w'
  rval : ∀ da dc ga gc w, RdR w ga l → Calls Tryd.prog 15 #[.agg #[.int .i64 k, .int .u64 e, .int .u64 s, .int .i64 p, .int .i64 i, .int .i64 c, .slice da dn dc, .int .i64 cd, .slice ga gn gc]] w fun er w' => er = .returned (.int .i64 r) ∧ Below w.heap.size w w'
theorem four (k e s p i c : Int) (dn : Nat) (cd : Int) (gn : Nat) (ds : List UInt8) (l : List Rg) (hdn : dn = ds.length) (hgn : gn = l.length) (hl : gn ≤ 8796093022208) : ∃ ys r, Four k e s p i c dn cd gn ds l ys r := by
  by_cases hv : validR k e s p i c dn cd gn l
  · have hval : ∀ da dc ga gc w, RdR w ga l → gn ≤ gc → Calls Tryd.prog 14 #[.agg #[.int .i64 k, .int .u64 e, .int .u64 s, .int .i64 p, .int .i64 i, .int .i64 c, .slice da dn dc, .int .i64 cd, .slice ga gn gc]] w fun er w' => er = .returned (.int .i64 0) ∧ Below w.heap.size w w' := fun da dc ga gc w hx hc => valid_t k e s p i c da dn dc cd ga gn gc l true ⟨fun _ => hv, fun _ => rfl⟩ w hgn hx hl hc
    have hrval : ∀ da dc ga gc w, RdR w ga l → Calls Tryd.prog 15 #[.agg #[.int .i64 k, .int .u64 e, .int .u64 s, .int .i64 p, .int .i64 i, .int .i64 c, .slice da dn dc, .int .i64 cd, .slice ga gn gc]] w fun er w' => er = .returned (.int .i64 0) ∧ Below w.heap.size w w' := fun da dc ga gc w hx => rvalid_t k e s p i c da dn dc cd ga gn gc l true ⟨fun _ => hv, fun _ => rfl⟩ w hgn hx hl
    have hv' := hv
    obtain ⟨⟨hE, hS⟩, hk⟩ := hv'
    unfold nameOk at hE hS
    obtain ⟨E, rfl⟩ : ∃ E : Nat, e = (E : Int) := ⟨e.toNat, by omega⟩
    obtain ⟨S, rfl⟩ : ∃ S : Nat, s = (S : Int) := ⟨s.toNat, by omega⟩
    rcases hk with ⟨rfl, h⟩ | ⟨rfl, h⟩ | ⟨rfl, h⟩
    · obtain ⟨C, rfl⟩ : ∃ C : Nat, c = (C : Int) := ⟨c.toNat, by omega⟩
      obtain ⟨I, rfl⟩ : ∃ I : Nat, i = (I : Int) := ⟨i.toNat, by omega⟩
      obtain ⟨Q, rfl⟩ : ∃ Q : Nat, p = (Q : Int) := ⟨p.toNat, by omega⟩
      exact ⟨_, 0, ⟨fun da dc ga gc w hd hn hx hc ht => (enc_1 E S Q I C da dn dc ds cd ga gn gc l w hv hdn hd hn hgn hx hl hc ht).mono fun _ _ h => h.is, fun da dc ga gc w hd hn hx => (renc_1 E S Q I C da dn dc ds cd ga gn gc l w hv hdn hd hn hgn hx hl).mono fun _ _ h => h.is, hval, hrval⟩⟩
    · obtain ⟨CD, rfl⟩ : ∃ CD : Nat, cd = (CD : Int) := ⟨cd.toNat, by omega⟩
      exact ⟨_, 0, ⟨fun da dc ga gc w _ _ hx hc ht => (enc_2 E S p i c da dn dc CD ga gn gc l w hv hgn hx hl hc ht).mono fun _ _ h => h.is, fun da dc ga gc w _ _ hx => (renc_2 E S p i c da dn dc CD ga gn gc l w hv hgn hx hl).mono fun _ _ h => h.is, hval, hrval⟩⟩
    · exact ⟨_, 0, ⟨fun da dc ga gc w _ _ hx hc ht => (enc_3 E S p i c da dn dc cd ga gn gc l w hv hgn hx hl hc ht).mono fun _ _ h => h.is, fun da dc ga gc w _ _ hx => (renc_3 E S p i c da dn dc cd ga gn gc l w hv hgn hx hl).mono fun _ _ h => h.is, hval, hrval⟩⟩
  · refine ⟨[], 30, ⟨fun da dc ga gc w _ _ hx hc _ => (enc_bad k e s p i c da dn dc cd ga gn gc l hv w hgn hx hl hc).mono fun _ _ h => ⟨none, 0, 0, h.1, rfl, Rd.nil _ _, h.2⟩, fun da dc ga gc w _ _ hx => (renc_bad k e s p i c da dn dc cd ga gn gc l hv w hgn hx hl).mono fun _ _ h => ⟨none, 0, 0, h.1, rfl, Rd.nil _ _, h.2⟩, ?_, ?_⟩⟩
    · exact fun da dc ga gc w hx hc => valid_t k e s p i c da dn dc cd ga gn gc l false ⟨(fun h => by cases h), fun h => absurd h hv⟩ w hgn hx hl hc
    · exact fun da dc ga gc w hx => rvalid_t k e s p i c da dn dc cd ga gn gc l false ⟨(fun h => by cases h), fun h => absurd h hv⟩ w hgn hx hl
end Go.Proofs.YtjigbopkmffjaaaDoor
