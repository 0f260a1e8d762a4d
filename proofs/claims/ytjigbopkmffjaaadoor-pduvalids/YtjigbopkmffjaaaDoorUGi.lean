import Derived.Test.YtjigbopkmffjaaaDoorUGv
namespace Go.Proofs.YtjigbopkmffjaaaDoor
set_option linter.unusedVariables false
set_option linter.unusedSimpArgs false
open Go.RowKit
theorem RdR.grown {w w' : World} {ao : Option Addr} {xs : List Rg} {r : Nat} (h : RdR w ao xs) (hg : w.grownBy w' (some r)) (hne : ∀ a, ao = some a → a.block ≠ r) : RdR w' ao xs := fun j hj => by
  obtain ⟨b, o, h1, h2, h3⟩ := h j hj
  have h9 : (some b : Option Nat) ≠ some r := fun e => hne _ h1 (by cases e; rfl)
  exact ⟨b, o, h1, hg.cell h2 h9, hg.cell h3 h9⟩
theorem bytes_n (ao : Option Addr) (n cap : Nat) (xs : List UInt8) (hn : n = xs.length) (N : Nat) (hN : N = n + 4) (w : World) (hx : Rd w ao xs) (hl : n ≤ 140737488351232) :
    Calls Tryd.prog 19 #[.slice ao n cap] w fun e w' => ∃ g, e = .returned (.slice (some ⟨g, 0, none⟩) n N) ∧ w.heap.size ≤ g ∧ Rd w' (some ⟨g, 0, none⟩) (xs ++ m4) ∧ Below w.heap.size w w' := by
  subst hn hN
  exact bytes_any ao cap xs w hx hl
theorem ranges_n (ao : Option Addr) (n cap : Nat) (xs : List Rg) (hn : n = xs.length) (N : Nat) (hN : N = n + 3) (w : World) (hx : RdR w ao xs) (hl : n ≤ 8796093022200) :
    Calls Tryd.prog 33 #[.slice ao n cap] w fun e w' => ∃ g, e = .returned (.slice (some ⟨g, 0, none⟩) n N) ∧ w.heap.size ≤ g ∧ RdR w' (some ⟨g, 0, none⟩) (xs ++ m3) ∧ Below w.heap.size w w' := by
  subst hN
  exact ranges_t ao n cap xs w hn hx hl
section
set_option maxRecDepth 20000
set_option maxHeartbeats 6400000
theorem given_t (k e s p i c : Int) (da : Option Addr) (dn dc : Nat) (cd : Int) (ga : Option Addr) (gn gc : Nat) (ds : List UInt8) (l : List Rg) (DC GC : Nat) (w : World) (hdn : dn = ds.length) (hgn : gn = l.length) (hDC : DC = dn + 4) (hGC : GC = gn + 3) (hd : Rd w da ds) (hg : RdR w ga l) (hl : gn ≤ 8796093022200) (hdl : dn ≤ 140737488351232) :
    Calls Tryd.prog 10 #[.agg #[.int .i64 k, .int .u64 e, .int .u64 s, .int .i64 p, .int .i64 i, .int .i64 c, .slice da dn dc, .int .i64 cd, .slice ga gn gc]] w fun er w' => ∃ gd gg, er = .returned (.agg #[.int .i64 k, .int .u64 e, .int .u64 s, .int .i64 p, .int .i64 i, .int .i64 c, .slice (some ⟨gd, 0, none⟩) dn DC, .int .i64 cd, .slice (some ⟨gg, 0, none⟩) gn GC]) ∧ Rd w' (some ⟨gd, 0, none⟩) (ds ++ m4) ∧ RdR w' (some ⟨gg, 0, none⟩) (l ++ m3) ∧ Below w.heap.size w w' := by
  have HBY : Hid (∀ u, Below w.heap.size w u → Calls Tryd.prog 19 #[.slice da dn dc] u fun e w' => ∃ g, e = .returned (.slice (some ⟨g, 0, none⟩) dn DC) ∧ u.heap.size ≤ g ∧ Rd w' (some ⟨g, 0, none⟩) (ds ++ m4) ∧ Below u.heap.size u w') := fun u hu => bytes_n da dn dc ds hdn DC hDC u (hd.below hu) hdl
  have HRA : Hid (∀ u, Below w.heap.size w u → Calls Tryd.prog 33 #[.slice ga gn gc] u fun e w' => ∃ g, e = .returned (.slice (some ⟨g, 0, none⟩) gn GC) ∧ u.heap.size ≤ g ∧ RdR w' (some ⟨g, 0, none⟩) (l ++ m3) ∧ Below u.heap.size u w') := fun u hu => ranges_n ga gn gc l hgn GC hGC u (hg.below hu) hl
  have HW2 : Hid (Below w.heap.size w ((w.alloc (.cells #[.int .i64 k, .int .u64 e, .int .u64 s, .int .i64 p, .int .i64 i, .int .i64 c, .slice da dn dc, .int .i64 cd, .slice ga gn gc] 26 (0, 0))).alloc (.cells #[.int .i64 0, .int .u64 0, .int .u64 0, .int .i64 0, .int .i64 0, .int .i64 0, .slice none 0 0, .int .i64 0, .slice none 0 0] 26 (0, 0)))) := al (al (Below.refl _ w) _) _
  have HA2 : Hid (((w.alloc (.cells #[.int .i64 k, .int .u64 e, .int .u64 s, .int .i64 p, .int .i64 i, .int .i64 c, .slice da dn dc, .int .i64 cd, .slice ga gn gc] 26 (0, 0))).alloc (.cells #[.int .i64 0, .int .u64 0, .int .u64 0, .int .i64 0, .int .i64 0, .int .i64 0, .slice none 0 0, .int .i64 0, .slice none 0 0] 26 (0, 0))).heap[w.heap.size]? = some (.cells #[.int .i64 k, .int .u64 e, .int .u64 s, .int .i64 p, .int .i64 i, .int .i64 c, .slice da dn dc, .int .i64 cd, .slice ga gn gc] 26 (0, 0))) := ((al (Below.refl _ _) _).block w.heap.size (by simp)).trans (heap_alloc_new w _)
  have HZ2 : Hid (((w.alloc (.cells #[.int .i64 k, .int .u64 e, .int .u64 s, .int .i64 p, .int .i64 i, .int .i64 c, .slice da dn dc, .int .i64 cd, .slice ga gn gc] 26 (0, 0))).alloc (.cells #[.int .i64 0, .int .u64 0, .int .u64 0, .int .i64 0, .int .i64 0, .int .i64 0, .slice none 0 0, .int .i64 0, .slice none 0 0] 26 (0, 0))).heap[w.heap.size + 1]? = some (.cells #[.int .i64 0, .int .u64 0, .int .u64 0, .int .i64 0, .int .i64 0, .int .i64 0, .slice none 0 0, .int .i64 0, .slice none 0 0] 26 (0, 0))) := by
    have h9 := heap_alloc_new (w.alloc (.cells #[.int .i64 k, .int .u64 e, .int .u64 s, .int .i64 p, .int .i64 i, .int .i64 c, .slice da dn dc, .int .i64 cd, .slice ga gn gc] 26 (0, 0))) (.cells #[.int .i64 0, .int .u64 0, .int .u64 0, .int .i64 0, .int .i64 0, .int .i64 0, .slice none 0 0, .int .i64 0, .slice none 0 0] 26 (0, 0))
    rw [heap_alloc_size1'] at h9
    exact h9
  have hsl := fun (u : World) (a : Addr) (x : Option Addr) (n c : Nat) => run_store Tryd.prog u a (.slice x n c) .plain rfl
  have H2s : Hid (((w.alloc (.cells #[.int .i64 k, .int .u64 e, .int .u64 s, .int .i64 p, .int .i64 i, .int .i64 c, .slice da dn dc, .int .i64 cd, .slice ga gn gc] 26 (0, 0))).alloc (.cells #[.int .i64 0, .int .u64 0, .int .u64 0, .int .i64 0, .int .i64 0, .int .i64 0, .slice none 0 0, .int .i64 0, .slice none 0 0] 26 (0, 0))).heap.size = w.heap.size + 2) := by unfold Hid; simp
  clear hd hg hdn hgn hDC hGC
  go_enter Tryd.func10, Tryd.ntmps10
  go_wp2_with fail
  refine Calls.mono (HBY.out _ HW2.out) ?_
  rintro e1 w1 ⟨gd, rfl, hgd, hr1, hb1⟩
  have HA1 : Hid (w1.heap[w.heap.size]? = some (.cells #[.int .i64 k, .int .u64 e, .int .u64 s, .int .i64 p, .int .i64 i, .int .i64 c, .slice da dn dc, .int .i64 cd, .slice ga gn gc] 26 (0, 0))) := (hb1.block w.heap.size (by have := H2s.out; omega)).trans HA2.out
  have HZ1 : Hid (w1.heap[w.heap.size + 1]? = some (.cells #[.int .i64 0, .int .u64 0, .int .u64 0, .int .i64 0, .int .i64 0, .int .i64 0, .slice none 0 0, .int .i64 0, .slice none 0 0] 26 (0, 0))) := (hb1.block (w.heap.size + 1) (by have := H2s.out; omega)).trans HZ2.out
  have HR1 : Hid (Rd w1 (some ⟨gd, 0, none⟩) (ds ++ m4)) := hr1
  have HB1 : Hid (Below w.heap.size w w1) := below_next HW2.out hb1
  have HGD : Hid (w.heap.size + 2 ≤ gd) := by have := H2s.out; unfold Hid; omega
  have hc61 : w1.cell? ⟨w.heap.size, 6, none⟩ = some (.slice da dn dc) := by rw [cell_of_row _ _ _ _ _ _ HA1.out]; rfl
  have hc81 : w1.cell? ⟨w.heap.size, 8, none⟩ = some (.slice ga gn gc) := by rw [cell_of_row _ _ _ _ _ _ HA1.out]; rfl
  have hf61 : w1.frozen? ⟨w.heap.size, 6, none⟩ = false := by simp [World.frozen?, HA1.out]
  have HS1 : Hid (w.heap.size + 2 ≤ w1.heap.size) := by have h9 := hb1.size; have := H2s.out; unfold Hid; omega
  clear hsl
  go_wp2_with fail
  obtain ⟨x1, hx1⟩ : ∃ x1 : World, x1 = w1.setCell ⟨w.heap.size, 6, none⟩ (.slice (some ⟨gd, 0, none⟩) dn DC) := ⟨_, rfl⟩
  rw [← hx1]
  have HG1 : Hid (w1.grownBy x1 (some w.heap.size)) := by unfold Hid; rw [hx1]; exact gset1 _ _ _ _
  have HAx : Hid (x1.heap[w.heap.size]? = some (.cells #[.int .i64 k, .int .u64 e, .int .u64 s, .int .i64 p, .int .i64 i, .int .i64 c, .slice (some ⟨gd, 0, none⟩) dn DC, .int .i64 cd, .slice ga gn gc] 26 (0, 0))) := by unfold Hid; rw [hx1, heap_setCell_same w1 w.heap.size 6 _ _ _ HA1.out]; rfl
  have HZx : Hid (x1.heap[w.heap.size + 1]? = some (.cells #[.int .i64 0, .int .u64 0, .int .u64 0, .int .i64 0, .int .i64 0, .int .i64 0, .slice none 0 0, .int .i64 0, .slice none 0 0] 26 (0, 0))) := by unfold Hid; rw [hx1, heap_setCell_other _ _ _ _ (show w.heap.size + 1 ≠ w.heap.size by omega)]; exact HZ1.out
  have HBx : Hid (Below w.heap.size w x1) := HB1.out.grown HG1.out HB1.out.size (fun j hj => by cases hj; exact Nat.le_refl _)
  have HRx : Hid (Rd x1 (some ⟨gd, 0, none⟩) (ds ++ m4)) := Rd.grown HR1.out HG1.out (fun a ha => by cases ha; intro h; have h9 := Option.some.inj h; have := HGD.out; simp only at h9; omega)
  have hc8x : x1.cell? ⟨w.heap.size, 8, none⟩ = some (.slice ga gn gc) := by rw [cell_of_row _ _ _ _ _ _ HAx.out]; rfl
  have HSx : Hid (w.heap.size + 2 ≤ x1.heap.size) := Nat.le_trans HS1.out HG1.out.size
  clear hgd hr1 hb1 hx1 hc61 hc81 hf61
  refine Calls.mono (HRA.out _ HBx.out) ?_
  rintro e1 w2 ⟨gg, rfl, hgg, hr2, hb2⟩
  have HA3 : Hid (w2.heap[w.heap.size]? = some (.cells #[.int .i64 k, .int .u64 e, .int .u64 s, .int .i64 p, .int .i64 i, .int .i64 c, .slice (some ⟨gd, 0, none⟩) dn DC, .int .i64 cd, .slice ga gn gc] 26 (0, 0))) := (hb2.block w.heap.size (by have := HSx.out; omega)).trans HAx.out
  have HZ3 : Hid (w2.heap[w.heap.size + 1]? = some (.cells #[.int .i64 0, .int .u64 0, .int .u64 0, .int .i64 0, .int .i64 0, .int .i64 0, .slice none 0 0, .int .i64 0, .slice none 0 0] 26 (0, 0))) := (hb2.block (w.heap.size + 1) (by have := HSx.out; omega)).trans HZx.out
  have HGG : Hid (w.heap.size + 2 ≤ gg) := by have := HSx.out; unfold Hid; omega
  have hc82 : w2.cell? ⟨w.heap.size, 8, none⟩ = some (.slice ga gn gc) := by rw [cell_of_row _ _ _ _ _ _ HA3.out]; rfl
  have hf82 : w2.frozen? ⟨w.heap.size, 8, none⟩ = false := by simp [World.frozen?, HA3.out]
  obtain ⟨x2, hx2⟩ : ∃ x2 : World, x2 = w2.setCell ⟨w.heap.size, 8, none⟩ (.slice (some ⟨gg, 0, none⟩) gn GC) := ⟨_, rfl⟩
  have HG2 : Hid (w2.grownBy x2 (some w.heap.size)) := by unfold Hid; rw [hx2]; exact gset1 _ _ _ _
  have HAy : Hid (x2.heap[w.heap.size]? = some (.cells #[.int .i64 k, .int .u64 e, .int .u64 s, .int .i64 p, .int .i64 i, .int .i64 c, .slice (some ⟨gd, 0, none⟩) dn DC, .int .i64 cd, .slice (some ⟨gg, 0, none⟩) gn GC] 26 (0, 0))) := by unfold Hid; rw [hx2, heap_setCell_same w2 w.heap.size 8 _ _ _ HA3.out]; rfl
  have HZy : Hid (x2.heap[w.heap.size + 1]? = some (.cells #[.int .i64 0, .int .u64 0, .int .u64 0, .int .i64 0, .int .i64 0, .int .i64 0, .slice none 0 0, .int .i64 0, .slice none 0 0] 26 (0, 0))) := by unfold Hid; rw [hx2, heap_setCell_other _ _ _ _ (show w.heap.size + 1 ≠ w.heap.size by omega)]; exact HZ3.out
  have HB2 : Hid (Below w.heap.size w w2) := below_next HBx.out hb2
  have HBy : Hid (Below w.heap.size w x2) := HB2.out.grown HG2.out HB2.out.size (fun j hj => by cases hj; exact Nat.le_refl _)
  have HRy : Hid (Rd x2 (some ⟨gd, 0, none⟩) (ds ++ m4)) := Rd.grown (HRx.out.below hb2) HG2.out (fun a ha => by cases ha; intro h; have h9 := Option.some.inj h; have := HGD.out; simp only at h9; omega)
  have HLy : Hid (RdR x2 (some ⟨gg, 0, none⟩) (l ++ m3)) := RdR.grown hr2 HG2.out (fun a ha => by cases ha; intro h; have := HGG.out; simp only at h; omega)
  rw [hx2] at HAy HZy HBy HRy HLy
  clear hgg hr2 hb2 hc8x
  go_wp2_with (first
    | (refine wpList_load_g (by rfl) 26 _ rfl w.heap.size 0 (by rfl) [.int .i64 k, .int .u64 e, .int .u64 s, .int .i64 p, .int .i64 i, .int .i64 c, .slice (some ⟨gd, 0, none⟩) dn DC, .int .i64 cd, .slice (some ⟨gg, 0, none⟩) gn GC] _ (box_range HAy.out) Tryd.underlying26 rfl info_un ?_)
    | (refine wpList_store_mid rfl 26 _ _ rfl (w.heap.size + 1) 0 #[.int .i64 k, .int .u64 e, .int .u64 s, .int .i64 p, .int .i64 i, .int .i64 c, .slice (some ⟨gd, 0, none⟩) dn DC, .int .i64 cd, .slice (some ⟨gg, 0, none⟩) gn GC] rfl rfl (box_there HZy.out rfl) (by kernel_rfl) (by simp [Value.oneCell']) ?_))
  (try simp only [Exit.inBlock, Exit.then])
  refine bodyPost_ret (results_cell_row Tryd.results10 _ _ (w.heap.size + 1) 26 #[.int .i64 k, .int .u64 e, .int .u64 s, .int .i64 p, .int .i64 i, .int .i64 c, .slice (some ⟨gd, 0, none⟩) dn DC, .int .i64 cd, .slice (some ⟨gg, 0, none⟩) gn GC] (0, 0) _ rfl (box_set HZy.out rfl) Tryd.underlying26 rfl (by kernel_rfl)) rfl ?_
  have hfin := setCells_grown (w.heap.size + 1) [.int .i64 k, .int .u64 e, .int .u64 s, .int .i64 p, .int .i64 i, .int .i64 c, .slice (some ⟨gd, 0, none⟩) dn DC, .int .i64 cd, .slice (some ⟨gg, 0, none⟩) gn GC] 0 (w2.setCell ⟨w.heap.size, 8, none⟩ (.slice (some ⟨gg, 0, none⟩) gn GC))
  exact ⟨gd, gg, rfl, Rd.grown HRy.out hfin (fun a ha => by cases ha; intro h; have h9 := Option.some.inj h; have := HGD.out; simp only at h9; omega), RdR.grown HLy.out hfin (fun a ha => by cases ha; intro h; have := HGG.out; simp only at h; omega), HBy.out.grown hfin HBy.out.size (fun j hj => by cases hj; omega)⟩
end
end Go.Proofs.YtjigbopkmffjaaaDoor
