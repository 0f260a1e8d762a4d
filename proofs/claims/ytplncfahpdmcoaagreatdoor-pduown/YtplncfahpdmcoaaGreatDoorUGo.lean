import Derived.Test.YtplncfahpdmcoaaGreatDoorUGs
import Derived.Test.YtplncfahpdmcoaaGreatDoorGLaw
namespace Go.Proofs.YtplncfahpdmcoaaGreatDoor
set_option linter.unusedVariables false
set_option linter.unusedSimpArgs false
open Go.RowKit
section
set_option maxRecDepth 20000
set_option maxHeartbeats 6400000
theorem kept_t (k e s p i c : Int) (gd : Nat) (dn : Nat) (cd : Int) (gg : Nat) (gn : Nat) (DC GC : Nat) (da2 : Option Addr) (dc2 : Nat) (ga2 : Option Addr) (gc2 : Nat) (ds : List UInt8) (l : List Rg) (w : World) (hdn : dn = ds.length) (hgn : gn = l.length) (hDC : DC = dn + 4) (hGC : GC = gn + 3) (hd : Rd w (some ⟨gd, 0, none⟩) (ds ++ m4)) (hd2 : Rd w da2 ds) (hg : RdR w (some ⟨gg, 0, none⟩) (l ++ m3)) (hg2 : RdR w ga2 l) (hl : gn ≤ 8796093022200) (hdl : dn ≤ 140737488351232) :
    Calls Tryz.prog 18 #[.agg #[.int .i64 k, .int .u64 e, .int .u64 s, .int .i64 p, .int .i64 i, .int .i64 c, .slice (some ⟨gd, 0, none⟩) dn DC, .int .i64 cd, .slice (some ⟨gg, 0, none⟩) gn GC], .agg #[.int .i64 k, .int .u64 e, .int .u64 s, .int .i64 p, .int .i64 i, .int .i64 c, .slice da2 dn dc2, .int .i64 cd, .slice ga2 gn gc2]] w fun e w' => e = .returned (.bool true) ∧ Below w.heap.size w w' := by
  have HSU : Hid _ := fun (u : World) (hu : Below w.heap.size w u) => sameUnit_t k e s p i c (some ⟨gd, 0, none⟩) dn DC cd (some ⟨gg, 0, none⟩) gn GC da2 dc2 ga2 gc2 ds l u hdn hgn (by have h9 := Rd.take (hd.below hu) ds.length; rw [List.take_left' rfl] at h9; exact h9) (hd2.below hu) (RdR.left (hg.below hu)) (hg2.below hu) (by omega) hdl
  have HST : Hid (∀ u, Below w.heap.size w u → Calls Tryz.prog 39 #[.slice (some ⟨gd, 0, none⟩) dn DC, .slice da2 dn dc2] u fun e w' => e = .returned (.bool true) ∧ Below u.heap.size u w') := fun u hu => by rw [hDC, hdn]; exact stays_t gd da2 dc2 ds u (hd.below hu) (hd2.below hu) (by omega)
  have HRE : Hid (∀ u, Below w.heap.size w u → Calls Tryz.prog 40 #[.slice (some ⟨gg, 0, none⟩) gn GC, .slice ga2 gn gc2] u fun e w' => e = .returned (.bool true) ∧ Below u.heap.size u w') := fun u hu => rest_t gg ga2 gn GC gc2 l u hgn hGC (hg.below hu) (hg2.below hu) hl
  have HX : Hid (∀ u, Below (w.heap.size + 2) ((w.alloc (.cells #[.int .i64 k, .int .u64 e, .int .u64 s, .int .i64 p, .int .i64 i, .int .i64 c, .slice (some ⟨gd, 0, none⟩) dn DC, .int .i64 cd, .slice (some ⟨gg, 0, none⟩) gn GC] 26 (0, 0))).alloc (.cells #[.int .i64 k, .int .u64 e, .int .u64 s, .int .i64 p, .int .i64 i, .int .i64 c, .slice da2 dn dc2, .int .i64 cd, .slice ga2 gn gc2] 26 (0, 0))) u → u.rangeAt w.heap.size 0 [.int .i64 k, .int .u64 e, .int .u64 s, .int .i64 p, .int .i64 i, .int .i64 c, .slice (some ⟨gd, 0, none⟩) dn DC, .int .i64 cd, .slice (some ⟨gg, 0, none⟩) gn GC] ∧ u.rangeAt (w.heap.size + 1) 0 [.int .i64 k, .int .u64 e, .int .u64 s, .int .i64 p, .int .i64 i, .int .i64 c, .slice da2 dn dc2, .int .i64 cd, .slice ga2 gn gc2]) := fun u hu => by
    refine ⟨range_below (range_below (range_box w [.int .i64 k, .int .u64 e, .int .u64 s, .int .i64 p, .int .i64 i, .int .i64 c, .slice (some ⟨gd, 0, none⟩) dn DC, .int .i64 cd, .slice (some ⟨gg, 0, none⟩) gn GC] 26) (al (Below.refl _ _) _)) (by rw [heap_alloc_size1', heap_alloc_size1']; exact hu), ?_⟩
    have h9 := range_box (w.alloc (.cells #[.int .i64 k, .int .u64 e, .int .u64 s, .int .i64 p, .int .i64 i, .int .i64 c, .slice (some ⟨gd, 0, none⟩) dn DC, .int .i64 cd, .slice (some ⟨gg, 0, none⟩) gn GC] 26 (0, 0))) [.int .i64 k, .int .u64 e, .int .u64 s, .int .i64 p, .int .i64 i, .int .i64 c, .slice da2 dn dc2, .int .i64 cd, .slice ga2 gn gc2] 26
    rw [heap_alloc_size1'] at h9
    exact range_below h9 (by rw [heap_alloc_size1', heap_alloc_size1']; exact hu)
  have HB0 : Hid (Below (w.heap.size + 2) ((w.alloc (.cells #[.int .i64 k, .int .u64 e, .int .u64 s, .int .i64 p, .int .i64 i, .int .i64 c, .slice (some ⟨gd, 0, none⟩) dn DC, .int .i64 cd, .slice (some ⟨gg, 0, none⟩) gn GC] 26 (0, 0))).alloc (.cells #[.int .i64 k, .int .u64 e, .int .u64 s, .int .i64 p, .int .i64 i, .int .i64 c, .slice da2 dn dc2, .int .i64 cd, .slice ga2 gn gc2] 26 (0, 0))) ((w.alloc (.cells #[.int .i64 k, .int .u64 e, .int .u64 s, .int .i64 p, .int .i64 i, .int .i64 c, .slice (some ⟨gd, 0, none⟩) dn DC, .int .i64 cd, .slice (some ⟨gg, 0, none⟩) gn GC] 26 (0, 0))).alloc (.cells #[.int .i64 k, .int .u64 e, .int .u64 s, .int .i64 p, .int .i64 i, .int .i64 c, .slice da2 dn dc2, .int .i64 cd, .slice ga2 gn gc2] 26 (0, 0)))) := Below.refl _ _
  have HW : Hid (∀ u, Below (w.heap.size + 2) ((w.alloc (.cells #[.int .i64 k, .int .u64 e, .int .u64 s, .int .i64 p, .int .i64 i, .int .i64 c, .slice (some ⟨gd, 0, none⟩) dn DC, .int .i64 cd, .slice (some ⟨gg, 0, none⟩) gn GC] 26 (0, 0))).alloc (.cells #[.int .i64 k, .int .u64 e, .int .u64 s, .int .i64 p, .int .i64 i, .int .i64 c, .slice da2 dn dc2, .int .i64 cd, .slice ga2 gn gc2] 26 (0, 0))) u → Below w.heap.size w u) := fun u hu => (al (al (Below.refl _ w) _) _).trans (hu.mono (by omega))
  clear hd hd2 hg hg2 hdn hgn hDC hGC
  go_enter Tryz.func18, Tryz.ntmps18
  go_wp2_with (first
    | (refine wpList_load_g (by rfl) 26 _ rfl w.heap.size 0 (by rfl) [.int .i64 k, .int .u64 e, .int .u64 s, .int .i64 p, .int .i64 i, .int .i64 c, .slice (some ⟨gd, 0, none⟩) dn DC, .int .i64 cd, .slice (some ⟨gg, 0, none⟩) gn GC] _ (HX.out _ HB0.out).1 Tryz.underlying26 rfl info_un ?_)
    | (refine wpList_load_g (by rfl) 26 _ rfl (w.heap.size + 1) 0 (by rfl) [.int .i64 k, .int .u64 e, .int .u64 s, .int .i64 p, .int .i64 i, .int .i64 c, .slice da2 dn dc2, .int .i64 cd, .slice ga2 gn gc2] _ (HX.out _ HB0.out).2 Tryz.underlying26 rfl info_un ?_)
    | (go_at_call 8; refine Calls.mono (HSU.out _ (HW.out _ HB0.out)) ?_; rintro e1 w1 ⟨rfl, hb1⟩; have HB1 : Hid (Below (w.heap.size + 2) ((w.alloc (.cells #[.int .i64 k, .int .u64 e, .int .u64 s, .int .i64 p, .int .i64 i, .int .i64 c, .slice (some ⟨gd, 0, none⟩) dn DC, .int .i64 cd, .slice (some ⟨gg, 0, none⟩) gn GC] 26 (0, 0))).alloc (.cells #[.int .i64 k, .int .u64 e, .int .u64 s, .int .i64 p, .int .i64 i, .int .i64 c, .slice da2 dn dc2, .int .i64 cd, .slice ga2 gn gc2] 26 (0, 0))) w1) := (by have h9 := hb1; rw [heap_alloc_size1', heap_alloc_size1'] at h9; exact h9); have hc16 : w1.cell? ⟨w.heap.size, 6, none⟩ = some (.slice (some ⟨gd, 0, none⟩) dn DC) := (HX.out _ HB1.out).1 6 _ rfl; have hc26 : w1.cell? ⟨w.heap.size + 1, 6, none⟩ = some (.slice da2 dn dc2) := (HX.out _ HB1.out).2 6 _ rfl; clear hb1)
    | (go_at_call 39; refine Calls.mono (HST.out _ (HW.out _ HB1.out)) ?_; rintro e1 w2 ⟨rfl, hb2⟩; have HB2 : Hid (Below (w.heap.size + 2) ((w.alloc (.cells #[.int .i64 k, .int .u64 e, .int .u64 s, .int .i64 p, .int .i64 i, .int .i64 c, .slice (some ⟨gd, 0, none⟩) dn DC, .int .i64 cd, .slice (some ⟨gg, 0, none⟩) gn GC] 26 (0, 0))).alloc (.cells #[.int .i64 k, .int .u64 e, .int .u64 s, .int .i64 p, .int .i64 i, .int .i64 c, .slice da2 dn dc2, .int .i64 cd, .slice ga2 gn gc2] 26 (0, 0))) w2) := HB1.out.trans (hb2.mono (by have h9 := HB1.out.size; rw [heap_alloc_size1', heap_alloc_size1'] at h9; exact h9)); have hc18 : w2.cell? ⟨w.heap.size, 8, none⟩ = some (.slice (some ⟨gg, 0, none⟩) gn GC) := (HX.out _ HB2.out).1 8 _ rfl; have hc28 : w2.cell? ⟨w.heap.size + 1, 8, none⟩ = some (.slice ga2 gn gc2) := (HX.out _ HB2.out).2 8 _ rfl; clear hb2)
    | (go_at_call 40; refine Calls.mono (HRE.out _ (HW.out _ HB2.out)) ?_; rintro e1 w3 ⟨rfl, hb3⟩; have HB3 : Hid (Below w.heap.size w w3) := below_next (HW.out _ HB2.out) hb3; clear hb3))
  go_ret
  exact ⟨rfl, HB3.out⟩

end
end Go.Proofs.YtplncfahpdmcoaaGreatDoor
namespace Go.Proofs.YtplncfahpdmcoaaGreatDoor
set_option linter.unusedVariables false
set_option linter.unusedSimpArgs false
open Go.RowKit
theorem RdR.grown {w w' : World} {ao : Option Addr} {xs : List Rg} {r : Nat} (h : RdR w ao xs) (hg : w.grownBy w' (some r)) (hne : ∀ a, ao = some a → a.block ≠ r) : RdR w' ao xs := fun j hj => by
  obtain ⟨b, o, h1, h2, h3⟩ := h j hj
  have h9 : (some b : Option Nat) ≠ some r := fun e => hne _ h1 (by cases e; rfl)
  exact ⟨b, o, h1, hg.cell h2 h9, hg.cell h3 h9⟩
theorem bytes_n (ao : Option Addr) (n cap : Nat) (xs : List UInt8) (hn : n = xs.length) (N : Nat) (hN : N = n + 4) (w : World) (hx : Rd w ao xs) (hl : n ≤ 140737488351232) :
    Calls Tryz.prog 21 #[.slice ao n cap] w fun e w' => ∃ g, e = .returned (.slice (some ⟨g, 0, none⟩) n N) ∧ w.heap.size ≤ g ∧ Rd w' (some ⟨g, 0, none⟩) (xs ++ m4) ∧ Below w.heap.size w w' := by
  subst hn hN
  exact bytes_any ao cap xs w hx hl
theorem ranges_n (ao : Option Addr) (n cap : Nat) (xs : List Rg) (hn : n = xs.length) (N : Nat) (hN : N = n + 3) (w : World) (hx : RdR w ao xs) (hl : n ≤ 8796093022200) :
    Calls Tryz.prog 22 #[.slice ao n cap] w fun e w' => ∃ g, e = .returned (.slice (some ⟨g, 0, none⟩) n N) ∧ w.heap.size ≤ g ∧ RdR w' (some ⟨g, 0, none⟩) (xs ++ m3) ∧ Below w.heap.size w w' := by
  subst hN
  exact ranges_t ao n cap xs w hn hx hl
section
set_option maxRecDepth 20000
set_option maxHeartbeats 6400000
theorem given_t (k e s p i c : Int) (da : Option Addr) (dn dc : Nat) (cd : Int) (ga : Option Addr) (gn gc : Nat) (ds : List UInt8) (l : List Rg) (DC GC : Nat) (w : World) (hdn : dn = ds.length) (hgn : gn = l.length) (hDC : DC = dn + 4) (hGC : GC = gn + 3) (hd : Rd w da ds) (hg : RdR w ga l) (hl : gn ≤ 8796093022200) (hdl : dn ≤ 140737488351232) :
    Calls Tryz.prog 5 #[.agg #[.int .i64 k, .int .u64 e, .int .u64 s, .int .i64 p, .int .i64 i, .int .i64 c, .slice da dn dc, .int .i64 cd, .slice ga gn gc]] w fun er w' => ∃ gd gg, er = .returned (.agg #[.int .i64 k, .int .u64 e, .int .u64 s, .int .i64 p, .int .i64 i, .int .i64 c, .slice (some ⟨gd, 0, none⟩) dn DC, .int .i64 cd, .slice (some ⟨gg, 0, none⟩) gn GC]) ∧ Rd w' (some ⟨gd, 0, none⟩) (ds ++ m4) ∧ RdR w' (some ⟨gg, 0, none⟩) (l ++ m3) ∧ Below w.heap.size w w' := by
  have HBY : Hid (∀ u, Below w.heap.size w u → Calls Tryz.prog 21 #[.slice da dn dc] u fun e w' => ∃ g, e = .returned (.slice (some ⟨g, 0, none⟩) dn DC) ∧ u.heap.size ≤ g ∧ Rd w' (some ⟨g, 0, none⟩) (ds ++ m4) ∧ Below u.heap.size u w') := fun u hu => bytes_n da dn dc ds hdn DC hDC u (hd.below hu) hdl
  have HRA : Hid (∀ u, Below w.heap.size w u → Calls Tryz.prog 22 #[.slice ga gn gc] u fun e w' => ∃ g, e = .returned (.slice (some ⟨g, 0, none⟩) gn GC) ∧ u.heap.size ≤ g ∧ RdR w' (some ⟨g, 0, none⟩) (l ++ m3) ∧ Below u.heap.size u w') := fun u hu => ranges_n ga gn gc l hgn GC hGC u (hg.below hu) hl
  have HW2 : Hid (Below w.heap.size w ((w.alloc (.cells #[.int .i64 k, .int .u64 e, .int .u64 s, .int .i64 p, .int .i64 i, .int .i64 c, .slice da dn dc, .int .i64 cd, .slice ga gn gc] 26 (0, 0))).alloc (.cells #[.int .i64 0, .int .u64 0, .int .u64 0, .int .i64 0, .int .i64 0, .int .i64 0, .slice none 0 0, .int .i64 0, .slice none 0 0] 26 (0, 0)))) := al (al (Below.refl _ w) _) _
  have HA2 : Hid (((w.alloc (.cells #[.int .i64 k, .int .u64 e, .int .u64 s, .int .i64 p, .int .i64 i, .int .i64 c, .slice da dn dc, .int .i64 cd, .slice ga gn gc] 26 (0, 0))).alloc (.cells #[.int .i64 0, .int .u64 0, .int .u64 0, .int .i64 0, .int .i64 0, .int .i64 0, .slice none 0 0, .int .i64 0, .slice none 0 0] 26 (0, 0))).heap[w.heap.size]? = some (.cells #[.int .i64 k, .int .u64 e, .int .u64 s, .int .i64 p, .int .i64 i, .int .i64 c, .slice da dn dc, .int .i64 cd, .slice ga gn gc] 26 (0, 0))) := ((al (Below.refl _ _) _).block w.heap.size (by simp)).trans (heap_alloc_new w _)
  have HZ2 : Hid (((w.alloc (.cells #[.int .i64 k, .int .u64 e, .int .u64 s, .int .i64 p, .int .i64 i, .int .i64 c, .slice da dn dc, .int .i64 cd, .slice ga gn gc] 26 (0, 0))).alloc (.cells #[.int .i64 0, .int .u64 0, .int .u64 0, .int .i64 0, .int .i64 0, .int .i64 0, .slice none 0 0, .int .i64 0, .slice none 0 0] 26 (0, 0))).heap[w.heap.size + 1]? = some (.cells #[.int .i64 0, .int .u64 0, .int .u64 0, .int .i64 0, .int .i64 0, .int .i64 0, .slice none 0 0, .int .i64 0, .slice none 0 0] 26 (0, 0))) := by
    have h9 := heap_alloc_new (w.alloc (.cells #[.int .i64 k, .int .u64 e, .int .u64 s, .int .i64 p, .int .i64 i, .int .i64 c, .slice da dn dc, .int .i64 cd, .slice ga gn gc] 26 (0, 0))) (.cells #[.int .i64 0, .int .u64 0, .int .u64 0, .int .i64 0, .int .i64 0, .int .i64 0, .slice none 0 0, .int .i64 0, .slice none 0 0] 26 (0, 0))
    rw [heap_alloc_size1'] at h9
    exact h9
  have hsl := fun (u : World) (a : Addr) (x : Option Addr) (n c : Nat) => run_store Tryz.prog u a (.slice x n c) .plain rfl
  have H2s : Hid (((w.alloc (.cells #[.int .i64 k, .int .u64 e, .int .u64 s, .int .i64 p, .int .i64 i, .int .i64 c, .slice da dn dc, .int .i64 cd, .slice ga gn gc] 26 (0, 0))).alloc (.cells #[.int .i64 0, .int .u64 0, .int .u64 0, .int .i64 0, .int .i64 0, .int .i64 0, .slice none 0 0, .int .i64 0, .slice none 0 0] 26 (0, 0))).heap.size = w.heap.size + 2) := by unfold Hid; simp
  clear hd hg hdn hgn hDC hGC
  go_enter Tryz.func5, Tryz.ntmps5
  go_wp2_with fail
  refine Calls.mono (HBY.out _ HW2.out) ?_
  rintro e1 w1 ⟨gd, rfl, hgd, hr1, hb1⟩
  have HA1 : Hid (w1.heap[w.heap.size]? = some (.cells #[.int .i64 k, .int .u64 e, .int .u64 s, .int .i64 p, .int .i64 i, .int .i64 c, .slice da dn dc, .int .i64 cd, .slice ga gn gc] 26 (0, 0))) := (hb1.block w.heap.size (by have := H2s.out; omega)).trans HA2.out
  have HZ1 : Hid (w1.heap[w.heap.size + 1]? = some (.cells #[.int .i64 0, .int .u64 0, .int .u64 0, .int .i64 0, .int .i64 0, .int .i64 0, .slice none 0 0, .int .i64 0, .slice none 0 0] 26 (0, 0))) := (hb1.block (w.heap.size + 1) (by have := H2s.out; omega)).trans HZ2.out
  have HR1 : Hid (Rd w1 (some ⟨gd, 0, none⟩) (ds ++ m4)) := hr1
  have HB1 : Hid (Below w.heap.size w w1) := below_next HW2.out hb1
  have HGD : Hid (w.heap.size + 2 ≤ gd) := by have := H2s.out; unfold Hid; omega
  have hc61 : w1.cell? ⟨w.heap.size, 6, none⟩ = some (.slice da dn dc) := by rw [cell_of_row _ _ _ _ _ _ HA1.out]; rfl
  have hc81 : w1.cell? ⟨w.heap.size, 8, none⟩ = some (.slice ga gn gc) := by rw [cell_of_row _ _ _ _ _ _ HA1.out]; rfl
  have hf61 : w1.frozen? ⟨w.heap.size, 6, none⟩ = false := by simp [World.frozen?, HA1.out]
  have HS1 : Hid (w.heap.size + 2 ≤ w1.heap.size) := by have h9 := hb1.size; have := H2s.out; unfold Hid; omega
  clear hsl
  go_wp2_with fail
  obtain ⟨x1, hx1⟩ : ∃ x1 : World, x1 = w1.setCell ⟨w.heap.size, 6, none⟩ (.slice (some ⟨gd, 0, none⟩) dn DC) := ⟨_, rfl⟩
  rw [← hx1]
  have HG1 : Hid (w1.grownBy x1 (some w.heap.size)) := by unfold Hid; rw [hx1]; exact gset1 _ _ _ _
  have HAx : Hid (x1.heap[w.heap.size]? = some (.cells #[.int .i64 k, .int .u64 e, .int .u64 s, .int .i64 p, .int .i64 i, .int .i64 c, .slice (some ⟨gd, 0, none⟩) dn DC, .int .i64 cd, .slice ga gn gc] 26 (0, 0))) := by unfold Hid; rw [hx1, heap_setCell_same w1 w.heap.size 6 _ _ _ HA1.out]; rfl
  have HZx : Hid (x1.heap[w.heap.size + 1]? = some (.cells #[.int .i64 0, .int .u64 0, .int .u64 0, .int .i64 0, .int .i64 0, .int .i64 0, .slice none 0 0, .int .i64 0, .slice none 0 0] 26 (0, 0))) := by unfold Hid; rw [hx1, heap_setCell_other _ _ _ _ (show w.heap.size + 1 ≠ w.heap.size by omega)]; exact HZ1.out
  have HBx : Hid (Below w.heap.size w x1) := HB1.out.grown HG1.out HB1.out.size (fun j hj => by cases hj; exact Nat.le_refl _)
  have HRx : Hid (Rd x1 (some ⟨gd, 0, none⟩) (ds ++ m4)) := Rd.grown HR1.out HG1.out (fun a ha => by cases ha; intro h; have h9 := Option.some.inj h; have := HGD.out; simp only at h9; omega)
  have hc8x : x1.cell? ⟨w.heap.size, 8, none⟩ = some (.slice ga gn gc) := by rw [cell_of_row _ _ _ _ _ _ HAx.out]; rfl
  have HSx : Hid (w.heap.size + 2 ≤ x1.heap.size) := Nat.le_trans HS1.out HG1.out.size
  clear hgd hr1 hb1 hx1 hc61 hc81 hf61
  refine Calls.mono (HRA.out _ HBx.out) ?_
  rintro e1 w2 ⟨gg, rfl, hgg, hr2, hb2⟩
  have HA3 : Hid (w2.heap[w.heap.size]? = some (.cells #[.int .i64 k, .int .u64 e, .int .u64 s, .int .i64 p, .int .i64 i, .int .i64 c, .slice (some ⟨gd, 0, none⟩) dn DC, .int .i64 cd, .slice ga gn gc] 26 (0, 0))) := (hb2.block w.heap.size (by have := HSx.out; omega)).trans HAx.out
  have HZ3 : Hid (w2.heap[w.heap.size + 1]? = some (.cells #[.int .i64 0, .int .u64 0, .int .u64 0, .int .i64 0, .int .i64 0, .int .i64 0, .slice none 0 0, .int .i64 0, .slice none 0 0] 26 (0, 0))) := (hb2.block (w.heap.size + 1) (by have := HSx.out; omega)).trans HZx.out
  have HGG : Hid (w.heap.size + 2 ≤ gg) := by have := HSx.out; unfold Hid; omega
  have hc82 : w2.cell? ⟨w.heap.size, 8, none⟩ = some (.slice ga gn gc) := by rw [cell_of_row _ _ _ _ _ _ HA3.out]; rfl
  have hf82 : w2.frozen? ⟨w.heap.size, 8, none⟩ = false := by simp [World.frozen?, HA3.out]
  obtain ⟨x2, hx2⟩ : ∃ x2 : World, x2 = w2.setCell ⟨w.heap.size, 8, none⟩ (.slice (some ⟨gg, 0, none⟩) gn GC) := ⟨_, rfl⟩
  have HG2 : Hid (w2.grownBy x2 (some w.heap.size)) := by unfold Hid; rw [hx2]; exact gset1 _ _ _ _
  have HAy : Hid (x2.heap[w.heap.size]? = some (.cells #[.int .i64 k, .int .u64 e, .int .u64 s, .int .i64 p, .int .i64 i, .int .i64 c, .slice (some ⟨gd, 0, none⟩) dn DC, .int .i64 cd, .slice (some ⟨gg, 0, none⟩) gn GC] 26 (0, 0))) := by unfold Hid; rw [hx2, heap_setCell_same w2 w.heap.size 8 _ _ _ HA3.out]; rfl
  have HZy : Hid (x2.heap[w.heap.size + 1]? = some (.cells #[.int .i64 0, .int .u64 0, .int .u64 0, .int .i64 0, .int .i64 0, .int .i64 0, .slice none 0 0, .int .i64 0, .slice none 0 0] 26 (0, 0))) := by unfold Hid; rw [hx2, heap_setCell_other _ _ _ _ (show w.heap.size + 1 ≠ w.heap.size by omega)]; exact HZ3.out
  have HB2 : Hid (Below w.heap.size w w2) := below_next HBx.out hb2
  have HBy : Hid (Below w.heap.size w x2) := HB2.out.grown HG2.out HB2.out.size (fun j hj => by cases hj; exact Nat.le_refl _)
  have HRy : Hid (Rd x2 (some ⟨gd, 0, none⟩) (ds ++ m4)) := Rd.grown (HRx.out.below hb2) HG2.out (fun a ha => by cases ha; intro h; have h9 := Option.some.inj h; have := HGD.out; simp only at h9; omega)
  have HLy : Hid (RdR x2 (some ⟨gg, 0, none⟩) (l ++ m3)) := RdR.grown hr2 HG2.out (fun a ha => by cases ha; intro h; have := HGG.out; simp only at h; omega)
  rw [hx2] at HAy HZy HBy HRy HLy
  clear hgg hr2 hb2 hc8x
  go_wp2_with (first
    | (refine wpList_load_g (by rfl) 26 _ rfl w.heap.size 0 (by rfl) [.int .i64 k, .int .u64 e, .int .u64 s, .int .i64 p, .int .i64 i, .int .i64 c, .slice (some ⟨gd, 0, none⟩) dn DC, .int .i64 cd, .slice (some ⟨gg, 0, none⟩) gn GC] _ (box_range HAy.out) Tryz.underlying26 rfl info_un ?_)
    | (refine wpList_store_mid rfl 26 _ _ rfl (w.heap.size + 1) 0 #[.int .i64 k, .int .u64 e, .int .u64 s, .int .i64 p, .int .i64 i, .int .i64 c, .slice (some ⟨gd, 0, none⟩) dn DC, .int .i64 cd, .slice (some ⟨gg, 0, none⟩) gn GC] rfl rfl (box_there HZy.out rfl) (by kernel_rfl) (by simp [Value.oneCell']) ?_))
  (try simp only [Exit.inBlock, Exit.then])
  refine bodyPost_ret (results_cell_row Tryz.results5 _ _ (w.heap.size + 1) 26 #[.int .i64 k, .int .u64 e, .int .u64 s, .int .i64 p, .int .i64 i, .int .i64 c, .slice (some ⟨gd, 0, none⟩) dn DC, .int .i64 cd, .slice (some ⟨gg, 0, none⟩) gn GC] (0, 0) _ rfl (box_set HZy.out rfl) Tryz.underlying26 rfl (by kernel_rfl)) rfl ?_
  have hfin := setCells_grown (w.heap.size + 1) [.int .i64 k, .int .u64 e, .int .u64 s, .int .i64 p, .int .i64 i, .int .i64 c, .slice (some ⟨gd, 0, none⟩) dn DC, .int .i64 cd, .slice (some ⟨gg, 0, none⟩) gn GC] 0 (w2.setCell ⟨w.heap.size, 8, none⟩ (.slice (some ⟨gg, 0, none⟩) gn GC))
  exact ⟨gd, gg, rfl, Rd.grown HRy.out hfin (fun a ha => by cases ha; intro h; have h9 := Option.some.inj h; have := HGD.out; simp only at h9; omega), RdR.grown HLy.out hfin (fun a ha => by cases ha; intro h; have := HGG.out; simp only at h; omega), HBy.out.grown hfin HBy.out.size (fun j hj => by cases hj; omega)⟩
end
end Go.Proofs.YtplncfahpdmcoaaGreatDoor
namespace Go.Proofs.YtplncfahpdmcoaaGreatDoor
set_option linter.unusedVariables false
set_option linter.unusedSimpArgs false
open Go.RowKit
/-- a block of bytes that may be written -/
def Blk5 (w : World) (g : Nat) : Prop := ∃ cur, w.heap[g]? = some (.cells cur 5 (0, 0))
theorem blk5_of {w : World} {B : Nat} {v : Value} {xs : List UInt8} {g : Nat} (h : Own w B v xs) (hv : v.ownBlock = some g) : Blk5 w g := by
  rcases h.2 with ⟨rfl, -⟩ | ⟨g', cap, cur, rfl, -, hg, -⟩
  · simp [Value.ownBlock] at hv
  · simp [Value.ownBlock] at hv
    subst hv
    exact ⟨cur, hg⟩
theorem Blk5.below {w w' : World} {g : Nat} (h : Blk5 w g) (hb : Below w.heap.size w w') : Blk5 w' g := by
  obtain ⟨cur, h1⟩ := h
  exact ⟨cur, (hb.block g (Array.getElem?_eq_some_iff.1 h1).1).trans h1⟩
theorem Blk5.grown {w w' : World} {g r : Nat} (h : Blk5 w g) (hg : w.grownBy w' (some r)) (hne : g ≠ r) : Blk5 w' g := by
  obtain ⟨cur, h1⟩ := h
  exact ⟨cur, (hg.block g (Array.getElem?_eq_some_iff.1 h1).1 (fun e => hne (Option.some.inj e))).trans h1⟩
set_option maxRecDepth 20000 in
set_option maxHeartbeats 1600000 in
theorem bytes_o (ao : Option Addr) (cap : Nat) (xs : List UInt8) (w : World) (hx : Rd w ao xs) (hl : xs.length ≤ 140737488351232) :
    Calls Tryz.prog 21 #[.slice ao xs.length cap] w fun e w' => ∃ g, e = .returned (.slice (some ⟨g, 0, none⟩) xs.length (xs.length + 4)) ∧ w.heap.size ≤ g ∧ Rd w' (some ⟨g, 0, none⟩) (xs ++ m4) ∧ Blk5 w' g ∧ Below w.heap.size w w' := by
  obtain ⟨i0, hi, hz0, hz1, hz2⟩ := info_parts info5
  have hsz1 : (Tryz.prog.info? 5).map (·.size) = some 1 := by rw [hi, Option.map_some, hz1]
  have hmk := run_make (P := Tryz.prog) w 23 5 i0 (.int .u8 0) Tryz.underlying23 hi hz0 .i64 .i64 ((xs.length + 4 : Nat) : Int) ((xs.length + 4 : Nat) : Int) (by omega) (Int.le_refl _) (by rw [hz2]; omega) (by omega)
  rw [hz1, Int.toNat_natCast] at hmk
  obtain ⟨Z, hZ⟩ : ∃ Z : List Value, Z.toArray = madeCells (Value.cells (.int .u8 0)) ((xs.length + 4) * 1) := ⟨_, Array.toArray_toList⟩
  have hZ2 : Hid (Z = List.replicate (xs.length + 4) (.int .u8 0)) := by
    unfold Hid
    rw [← made_u8, ← hZ]
  rw [← hZ] at hmk
  obtain ⟨M, hM⟩ : ∃ M : Nat, M = xs.length + 4 := ⟨_, rfl⟩
  rw [← hM] at hmk
  have HM : Hid (M = xs.length + 4) := hM
  have hMw : IntKind.i64.wrap ((xs.length : Int) + 4) = (M : Int) := by rw [IntKind.wrap_i64]; omega
  have hML : xs.length ≤ M := by omega
  have hMb : M ≤ 140737488355328 := by omega
  obtain ⟨X, hX⟩ : ∃ X : List Value, X = bv xs := ⟨_, rfl⟩
  have HX : Hid (X = bv xs) := hX
  have HXl : Hid (X.length = xs.length) := by rw [hX]; exact bv_length xs
  have HSP : Hid (splice Z 0 X = bv (rm xs 0)) := by unfold Hid; rw [hX, hZ2.out]; exact splice_zero xs
  have HZl : Hid (Z.length = M) := by unfold Hid; rw [hZ2.out, hM]; simp
  have hpos : 0 < X.length → ∃ ad, ao = some ad ∧ ∀ j v, X[j]? = some v → (w.alloc (.cells Z.toArray 5)).cell? (ad.add j) = some v := by
    intro h0
    rw [HXl.out] at h0
    obtain ⟨b, o, rfl, hc⟩ := (hx.alloc (.cells Z.toArray 5)) h0
    refine ⟨_, rfl, fun j v hj => ?_⟩
    rw [hX] at hj
    have hlt : j < xs.length := by
      have := (List.getElem?_eq_some_iff.1 hj).1
      simpa [bv_length] using this
    rw [bv_get xs j hlt] at hj
    rw [Go.WideShapes.add_plain, hc j hlt]
    exact hj
  have HPos : Hid _ := hpos
  have h1 : ∀ v ∈ X, v.oneCell' = true := by rw [hX]; exact bv_one xs
  have H1 : Hid _ := h1
  clear hM hX hZ hZ2 hpos h1
  go_enter Tryz.func21, Tryz.ntmps21
  go_wp2_with (refine wpList_copy_splice rfl _ _ 23 23 rfl 5 Tryz.underlying23 hsz1 (some ⟨w.heap.size, 0, none⟩) ao M M xs.length cap rfl rfl w.heap.size 0 Z 5 (heap_alloc_new w _) X (by rw [HXl.out]; exact (Nat.min_eq_left hML).symm) (fun h => ⟨rfl, HPos.out h⟩) (by rw [HXl.out, HZl.out]; omega) H1.out w.heap.size w ((Below.refl _ _).alloc (Nat.le_refl _) _) (Nat.le_refl _) ?_; intro w2 hg2 hb2)
  rw [HSP.out] at hg2
  have hown : Own w2 w.heap.size (.slice (some ⟨w.heap.size, 0, none⟩) M M) (rm xs 0) := own_row (Nat.le_refl _) (by rw [rm_len _ _ (by omega)]; exact HM.out) (by simp only [maxLen]; omega) hg2.out
  go_loopw [4] (fun i wr => ∃ k : Nat, k ≤ 4 ∧ i = .int .i64 (xs.length + k : Nat) ∧ Own wr w.heap.size (.slice (some ⟨w.heap.size, 0, none⟩) M M) (rm xs k) ∧ Below w.heap.size w wr) (fun i _ => xs.length + 4 - (intOf i).toNat)
  case atStart => exact ⟨0, by omega, rfl, hown, hb2⟩
  case round =>
    obtain ⟨k, hk, rfl, hok, hbk⟩ := hrel
    clear hown
    by_cases hlt : k < 4
    · have hMm : M = (rm xs k).length := by rw [rm_len _ _ hk]; exact HM.out
      have hok' := hok
      rw [hMm] at hok'
      have hlt2 : xs.length + k < M := by have := HM.out; omega
      have hcell : ∃ u, wr.cell? ⟨w.heap.size, xs.length + k, none⟩ = some u := ⟨_, by rw [World.ownsRow.cellAt hok' _ (by omega), bv_get _ _ (by omega)]⟩
      obtain ⟨u, hcell⟩ := hcell
      have hfz := World.ownsRow.frozenAt hok' (xs.length + k)
      have hst := own_set hok' (xs.length + k) 201 201 rfl
      rw [rm_set _ _ hlt, ← hMm] at hst
      have HST : Hid _ := hst
      clear hMm hok' hst hok
      go_wp2
      go_roundw
      case rel => exact ⟨k + 1, by omega, by go_num, HST.out.1, hbk.grown HST.out.2 hbk.size (fun j hj => by cases hj; exact Nat.le_refl _)⟩
      case measure => simp [intOf]; omega
    · obtain rfl : k = 4 := by omega
      have hMm := HM.out
      rw [← hMm]
      have hr := (hok.val)
      rw [rm_all] at hok
      have hc1 : (xs.length : Int) ≤ (M : Int) := by omega
      have hc1a : ¬ M = xs.length := by omega
      clear hMm
      go_wp2
      go_ret
      refine ⟨w.heap.size, by rw [HM.out]; rfl, Nat.le_refl _, ?_, blk5_of hok rfl, hbk⟩
      obtain ⟨a, c, hv, -, -, -, hrd, -⟩ := hok.val
      simp only [Value.slice.injEq] at hv
      rw [hv.1]
      exact hrd
theorem bytes_no (ao : Option Addr) (n cap : Nat) (xs : List UInt8) (hn : n = xs.length) (N : Nat) (hN : N = n + 4) (w : World) (hx : Rd w ao xs) (hl : n ≤ 140737488351232) :
    Calls Tryz.prog 21 #[.slice ao n cap] w fun e w' => ∃ g, e = .returned (.slice (some ⟨g, 0, none⟩) n N) ∧ w.heap.size ≤ g ∧ Rd w' (some ⟨g, 0, none⟩) (xs ++ m4) ∧ Blk5 w' g ∧ Below w.heap.size w w' := by
  subst hn hN
  exact bytes_o ao cap xs w hx hl
section
set_option maxRecDepth 20000
set_option maxHeartbeats 6400000
theorem given_o (k e s p i c : Int) (da : Option Addr) (dn dc : Nat) (cd : Int) (ga : Option Addr) (gn gc : Nat) (ds : List UInt8) (l : List Rg) (DC GC : Nat) (w : World) (hdn : dn = ds.length) (hgn : gn = l.length) (hDC : DC = dn + 4) (hGC : GC = gn + 3) (hd : Rd w da ds) (hg : RdR w ga l) (hl : gn ≤ 8796093022200) (hdl : dn ≤ 140737488351232) :
    Calls Tryz.prog 5 #[.agg #[.int .i64 k, .int .u64 e, .int .u64 s, .int .i64 p, .int .i64 i, .int .i64 c, .slice da dn dc, .int .i64 cd, .slice ga gn gc]] w fun er w' => ∃ gd gg, er = .returned (.agg #[.int .i64 k, .int .u64 e, .int .u64 s, .int .i64 p, .int .i64 i, .int .i64 c, .slice (some ⟨gd, 0, none⟩) dn DC, .int .i64 cd, .slice (some ⟨gg, 0, none⟩) gn GC]) ∧ Rd w' (some ⟨gd, 0, none⟩) (ds ++ m4) ∧ RdR w' (some ⟨gg, 0, none⟩) (l ++ m3) ∧ Blk5 w' gd ∧ w.heap.size ≤ gd ∧ Below w.heap.size w w' := by
  have HBY : Hid (∀ u, Below w.heap.size w u → Calls Tryz.prog 21 #[.slice da dn dc] u fun e w' => ∃ g, e = .returned (.slice (some ⟨g, 0, none⟩) dn DC) ∧ u.heap.size ≤ g ∧ Rd w' (some ⟨g, 0, none⟩) (ds ++ m4) ∧ Blk5 w' g ∧ Below u.heap.size u w') := fun u hu => bytes_no da dn dc ds hdn DC hDC u (hd.below hu) hdl
  have HRA : Hid (∀ u, Below w.heap.size w u → Calls Tryz.prog 22 #[.slice ga gn gc] u fun e w' => ∃ g, e = .returned (.slice (some ⟨g, 0, none⟩) gn GC) ∧ u.heap.size ≤ g ∧ RdR w' (some ⟨g, 0, none⟩) (l ++ m3) ∧ Below u.heap.size u w') := fun u hu => ranges_n ga gn gc l hgn GC hGC u (hg.below hu) hl
  have HW2 : Hid (Below w.heap.size w ((w.alloc (.cells #[.int .i64 k, .int .u64 e, .int .u64 s, .int .i64 p, .int .i64 i, .int .i64 c, .slice da dn dc, .int .i64 cd, .slice ga gn gc] 26 (0, 0))).alloc (.cells #[.int .i64 0, .int .u64 0, .int .u64 0, .int .i64 0, .int .i64 0, .int .i64 0, .slice none 0 0, .int .i64 0, .slice none 0 0] 26 (0, 0)))) := al (al (Below.refl _ w) _) _
  have HA2 : Hid (((w.alloc (.cells #[.int .i64 k, .int .u64 e, .int .u64 s, .int .i64 p, .int .i64 i, .int .i64 c, .slice da dn dc, .int .i64 cd, .slice ga gn gc] 26 (0, 0))).alloc (.cells #[.int .i64 0, .int .u64 0, .int .u64 0, .int .i64 0, .int .i64 0, .int .i64 0, .slice none 0 0, .int .i64 0, .slice none 0 0] 26 (0, 0))).heap[w.heap.size]? = some (.cells #[.int .i64 k, .int .u64 e, .int .u64 s, .int .i64 p, .int .i64 i, .int .i64 c, .slice da dn dc, .int .i64 cd, .slice ga gn gc] 26 (0, 0))) := ((al (Below.refl _ _) _).block w.heap.size (by simp)).trans (heap_alloc_new w _)
  have HZ2 : Hid (((w.alloc (.cells #[.int .i64 k, .int .u64 e, .int .u64 s, .int .i64 p, .int .i64 i, .int .i64 c, .slice da dn dc, .int .i64 cd, .slice ga gn gc] 26 (0, 0))).alloc (.cells #[.int .i64 0, .int .u64 0, .int .u64 0, .int .i64 0, .int .i64 0, .int .i64 0, .slice none 0 0, .int .i64 0, .slice none 0 0] 26 (0, 0))).heap[w.heap.size + 1]? = some (.cells #[.int .i64 0, .int .u64 0, .int .u64 0, .int .i64 0, .int .i64 0, .int .i64 0, .slice none 0 0, .int .i64 0, .slice none 0 0] 26 (0, 0))) := by
    have h9 := heap_alloc_new (w.alloc (.cells #[.int .i64 k, .int .u64 e, .int .u64 s, .int .i64 p, .int .i64 i, .int .i64 c, .slice da dn dc, .int .i64 cd, .slice ga gn gc] 26 (0, 0))) (.cells #[.int .i64 0, .int .u64 0, .int .u64 0, .int .i64 0, .int .i64 0, .int .i64 0, .slice none 0 0, .int .i64 0, .slice none 0 0] 26 (0, 0))
    rw [heap_alloc_size1'] at h9
    exact h9
  have hsl := fun (u : World) (a : Addr) (x : Option Addr) (n c : Nat) => run_store Tryz.prog u a (.slice x n c) .plain rfl
  have H2s : Hid (((w.alloc (.cells #[.int .i64 k, .int .u64 e, .int .u64 s, .int .i64 p, .int .i64 i, .int .i64 c, .slice da dn dc, .int .i64 cd, .slice ga gn gc] 26 (0, 0))).alloc (.cells #[.int .i64 0, .int .u64 0, .int .u64 0, .int .i64 0, .int .i64 0, .int .i64 0, .slice none 0 0, .int .i64 0, .slice none 0 0] 26 (0, 0))).heap.size = w.heap.size + 2) := by unfold Hid; simp
  clear hd hg hdn hgn hDC hGC
  go_enter Tryz.func5, Tryz.ntmps5
  go_wp2_with fail
  refine Calls.mono (HBY.out _ HW2.out) ?_
  rintro e1 w1 ⟨gd, rfl, hgd, hr1, hk1, hb1⟩
  have HK1 : Hid (Blk5 w1 gd) := hk1
  clear hk1
  have HA1 : Hid (w1.heap[w.heap.size]? = some (.cells #[.int .i64 k, .int .u64 e, .int .u64 s, .int .i64 p, .int .i64 i, .int .i64 c, .slice da dn dc, .int .i64 cd, .slice ga gn gc] 26 (0, 0))) := (hb1.block w.heap.size (by have := H2s.out; omega)).trans HA2.out
  have HZ1 : Hid (w1.heap[w.heap.size + 1]? = some (.cells #[.int .i64 0, .int .u64 0, .int .u64 0, .int .i64 0, .int .i64 0, .int .i64 0, .slice none 0 0, .int .i64 0, .slice none 0 0] 26 (0, 0))) := (hb1.block (w.heap.size + 1) (by have := H2s.out; omega)).trans HZ2.out
  have HR1 : Hid (Rd w1 (some ⟨gd, 0, none⟩) (ds ++ m4)) := hr1
  have HB1 : Hid (Below w.heap.size w w1) := below_next HW2.out hb1
  have HGD : Hid (w.heap.size + 2 ≤ gd) := by have := H2s.out; unfold Hid; omega
  have hc61 : w1.cell? ⟨w.heap.size, 6, none⟩ = some (.slice da dn dc) := by rw [cell_of_row _ _ _ _ _ _ HA1.out]; rfl
  have hc81 : w1.cell? ⟨w.heap.size, 8, none⟩ = some (.slice ga gn gc) := by rw [cell_of_row _ _ _ _ _ _ HA1.out]; rfl
  have hf61 : w1.frozen? ⟨w.heap.size, 6, none⟩ = false := by simp [World.frozen?, HA1.out]
  have HS1 : Hid (w.heap.size + 2 ≤ w1.heap.size) := by have h9 := hb1.size; have := H2s.out; unfold Hid; omega
  clear hsl
  go_wp2_with fail
  obtain ⟨x1, hx1⟩ : ∃ x1 : World, x1 = w1.setCell ⟨w.heap.size, 6, none⟩ (.slice (some ⟨gd, 0, none⟩) dn DC) := ⟨_, rfl⟩
  rw [← hx1]
  have HG1 : Hid (w1.grownBy x1 (some w.heap.size)) := by unfold Hid; rw [hx1]; exact gset1 _ _ _ _
  have HAx : Hid (x1.heap[w.heap.size]? = some (.cells #[.int .i64 k, .int .u64 e, .int .u64 s, .int .i64 p, .int .i64 i, .int .i64 c, .slice (some ⟨gd, 0, none⟩) dn DC, .int .i64 cd, .slice ga gn gc] 26 (0, 0))) := by unfold Hid; rw [hx1, heap_setCell_same w1 w.heap.size 6 _ _ _ HA1.out]; rfl
  have HZx : Hid (x1.heap[w.heap.size + 1]? = some (.cells #[.int .i64 0, .int .u64 0, .int .u64 0, .int .i64 0, .int .i64 0, .int .i64 0, .slice none 0 0, .int .i64 0, .slice none 0 0] 26 (0, 0))) := by unfold Hid; rw [hx1, heap_setCell_other _ _ _ _ (show w.heap.size + 1 ≠ w.heap.size by omega)]; exact HZ1.out
  have HBx : Hid (Below w.heap.size w x1) := HB1.out.grown HG1.out HB1.out.size (fun j hj => by cases hj; exact Nat.le_refl _)
  have HRx : Hid (Rd x1 (some ⟨gd, 0, none⟩) (ds ++ m4)) := Rd.grown HR1.out HG1.out (fun a ha => by cases ha; intro h; have h9 := Option.some.inj h; have := HGD.out; simp only at h9; omega)
  have hc8x : x1.cell? ⟨w.heap.size, 8, none⟩ = some (.slice ga gn gc) := by rw [cell_of_row _ _ _ _ _ _ HAx.out]; rfl
  have HKx : Hid (Blk5 x1 gd) := HK1.out.grown HG1.out (by have := HGD.out; omega)
  have HSx : Hid (w.heap.size + 2 ≤ x1.heap.size) := Nat.le_trans HS1.out HG1.out.size
  clear hgd hr1 hb1 hx1 hc61 hc81 hf61
  refine Calls.mono (HRA.out _ HBx.out) ?_
  rintro e1 w2 ⟨gg, rfl, hgg, hr2, hb2⟩
  have HA3 : Hid (w2.heap[w.heap.size]? = some (.cells #[.int .i64 k, .int .u64 e, .int .u64 s, .int .i64 p, .int .i64 i, .int .i64 c, .slice (some ⟨gd, 0, none⟩) dn DC, .int .i64 cd, .slice ga gn gc] 26 (0, 0))) := (hb2.block w.heap.size (by have := HSx.out; omega)).trans HAx.out
  have HZ3 : Hid (w2.heap[w.heap.size + 1]? = some (.cells #[.int .i64 0, .int .u64 0, .int .u64 0, .int .i64 0, .int .i64 0, .int .i64 0, .slice none 0 0, .int .i64 0, .slice none 0 0] 26 (0, 0))) := (hb2.block (w.heap.size + 1) (by have := HSx.out; omega)).trans HZx.out
  have HGG : Hid (w.heap.size + 2 ≤ gg) := by have := HSx.out; unfold Hid; omega
  have hc82 : w2.cell? ⟨w.heap.size, 8, none⟩ = some (.slice ga gn gc) := by rw [cell_of_row _ _ _ _ _ _ HA3.out]; rfl
  have hf82 : w2.frozen? ⟨w.heap.size, 8, none⟩ = false := by simp [World.frozen?, HA3.out]
  obtain ⟨x2, hx2⟩ : ∃ x2 : World, x2 = w2.setCell ⟨w.heap.size, 8, none⟩ (.slice (some ⟨gg, 0, none⟩) gn GC) := ⟨_, rfl⟩
  have HG2 : Hid (w2.grownBy x2 (some w.heap.size)) := by unfold Hid; rw [hx2]; exact gset1 _ _ _ _
  have HAy : Hid (x2.heap[w.heap.size]? = some (.cells #[.int .i64 k, .int .u64 e, .int .u64 s, .int .i64 p, .int .i64 i, .int .i64 c, .slice (some ⟨gd, 0, none⟩) dn DC, .int .i64 cd, .slice (some ⟨gg, 0, none⟩) gn GC] 26 (0, 0))) := by unfold Hid; rw [hx2, heap_setCell_same w2 w.heap.size 8 _ _ _ HA3.out]; rfl
  have HZy : Hid (x2.heap[w.heap.size + 1]? = some (.cells #[.int .i64 0, .int .u64 0, .int .u64 0, .int .i64 0, .int .i64 0, .int .i64 0, .slice none 0 0, .int .i64 0, .slice none 0 0] 26 (0, 0))) := by unfold Hid; rw [hx2, heap_setCell_other _ _ _ _ (show w.heap.size + 1 ≠ w.heap.size by omega)]; exact HZ3.out
  have HB2 : Hid (Below w.heap.size w w2) := below_next HBx.out hb2
  have HBy : Hid (Below w.heap.size w x2) := HB2.out.grown HG2.out HB2.out.size (fun j hj => by cases hj; exact Nat.le_refl _)
  have HRy : Hid (Rd x2 (some ⟨gd, 0, none⟩) (ds ++ m4)) := Rd.grown (HRx.out.below hb2) HG2.out (fun a ha => by cases ha; intro h; have h9 := Option.some.inj h; have := HGD.out; simp only at h9; omega)
  have HKy : Hid (Blk5 x2 gd) := (HKx.out.below hb2).grown HG2.out (by have := HGD.out; omega)
  have HLy : Hid (RdR x2 (some ⟨gg, 0, none⟩) (l ++ m3)) := RdR.grown hr2 HG2.out (fun a ha => by cases ha; intro h; have := HGG.out; simp only at h; omega)
  rw [hx2] at HAy HZy HBy HRy HLy HKy
  clear hgg hr2 hb2 hc8x
  go_wp2_with (first
    | (refine wpList_load_g (by rfl) 26 _ rfl w.heap.size 0 (by rfl) [.int .i64 k, .int .u64 e, .int .u64 s, .int .i64 p, .int .i64 i, .int .i64 c, .slice (some ⟨gd, 0, none⟩) dn DC, .int .i64 cd, .slice (some ⟨gg, 0, none⟩) gn GC] _ (box_range HAy.out) Tryz.underlying26 rfl info_un ?_)
    | (refine wpList_store_mid rfl 26 _ _ rfl (w.heap.size + 1) 0 #[.int .i64 k, .int .u64 e, .int .u64 s, .int .i64 p, .int .i64 i, .int .i64 c, .slice (some ⟨gd, 0, none⟩) dn DC, .int .i64 cd, .slice (some ⟨gg, 0, none⟩) gn GC] rfl rfl (box_there HZy.out rfl) (by kernel_rfl) (by simp [Value.oneCell']) ?_))
  (try simp only [Exit.inBlock, Exit.then])
  refine bodyPost_ret (results_cell_row Tryz.results5 _ _ (w.heap.size + 1) 26 #[.int .i64 k, .int .u64 e, .int .u64 s, .int .i64 p, .int .i64 i, .int .i64 c, .slice (some ⟨gd, 0, none⟩) dn DC, .int .i64 cd, .slice (some ⟨gg, 0, none⟩) gn GC] (0, 0) _ rfl (box_set HZy.out rfl) Tryz.underlying26 rfl (by kernel_rfl)) rfl ?_
  have hfin := setCells_grown (w.heap.size + 1) [.int .i64 k, .int .u64 e, .int .u64 s, .int .i64 p, .int .i64 i, .int .i64 c, .slice (some ⟨gd, 0, none⟩) dn DC, .int .i64 cd, .slice (some ⟨gg, 0, none⟩) gn GC] 0 (w2.setCell ⟨w.heap.size, 8, none⟩ (.slice (some ⟨gg, 0, none⟩) gn GC))
  exact ⟨gd, gg, rfl, Rd.grown HRy.out hfin (fun a ha => by cases ha; intro h; have h9 := Option.some.inj h; have := HGD.out; simp only at h9; omega), RdR.grown HLy.out hfin (fun a ha => by cases ha; intro h; have := HGG.out; simp only at h; omega), HKy.out.grown hfin (by have := HGD.out; omega), by have := HGD.out; omega, HBy.out.grown hfin HBy.out.size (fun j hj => by cases hj; omega)⟩
end
end Go.Proofs.YtplncfahpdmcoaaGreatDoor
