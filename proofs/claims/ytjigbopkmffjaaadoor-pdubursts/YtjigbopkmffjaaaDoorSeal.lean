import Derived.Test.YtjigbopkmffjaaaDoorUDp
import Derived.Test.YtjigbopkmffjaaaDoorCrc
import Derived.Test.YtjigbopkmffjaaaDoorAppB
namespace Go.Proofs.YtjigbopkmffjaaaDoor
set_option linter.unusedVariables false
set_option linter.unusedSimpArgs false
open Go.RowKit
/-- a unit's value -/
abbrev unV (u : Un) (da : Option Addr) (dc : Nat) (ga : Option Addr) (gc : Nat) : Value := .agg #[.int .i64 u.kind, .int .u64 u.ep, .int .u64 u.se, .int .i64 u.path, .int .i64 u.idx, .int .i64 u.cnt, .slice da u.data.length dc, .int .i64 u.code, .slice ga u.got.length gc]
/-- what read gives: a unit with memory of its own -/
def RdOut (W : World) (p B g : Nat) (u : Un) (y : List UInt8) (f : Int) (er : Ending) (w' : World) : Prop := ∃ da dc ga gc, er = .returned (unV u da dc ga gc) ∧ Own w' (g + 1) (.slice da u.data.length dc) u.data ∧ OwnR w' (g + 1) (.slice ga u.got.length gc) u.got ∧ RS w' p B y f ∧ Below W.heap.size W w'
section
set_option maxRecDepth 20000
set_option maxHeartbeats 3200000
theorem read_0a {p B n1 n2 n3 : Nat} {ys y1 y2 y3 : List UInt8} {f f1 f2 f3 : Int} (b2 b3 : Bool) (W w : World) (h : RS w p B ys f) (hW : Below W.heap.size W w) (hpW : W.heap.size ≤ p)
    (e1 : nmS mxU (ys, f) = (n1, y1, f1)) (hk : n1 ≠ 1 ∧ n1 ≠ 2 ∧ n1 ≠ 3) (e2 : nmS mxU (y1, mustF false f1) = (n2, y2, f2)) (hb2 : b2 = true ↔ nameOk (n2 : Int)) (e3 : nmS mxU (y2, mustF b2 f2) = (n3, y3, f3)) (hb3 : b3 = true ↔ nameOk (n3 : Int)) (hf : ¬ mustF b3 f3 = 0) :
    Calls Tryd.prog 35 #[.pointer (some ⟨p, 0, none⟩)] w fun er w' => RdOut W p B w.heap.size ⟨(n1 : Nat), (n2 : Nat), (n3 : Nat), 0, 0, 0, [], 0, []⟩ y3 (mustF b3 f3) er w' := by
  have HP : Hid (W.heap.size ≤ p ∧ p < w.heap.size) := ⟨hpW, h.lt⟩
  have HE1 : Hid _ := e1
  have HE2 : Hid _ := e2
  have HE3 : Hid _ := e3
  have HQ2 : Hid _ := hb2
  have HQ3 : Hid _ := hb3
  have HR0 : Hid (RS w p B ys f) := h
  have HW0 : Hid (Below W.heap.size W w) := hW
  have HK : Hid (KindIs (n1 : Int) kd0 false) := .inr (.inr (.inr ⟨⟨by omega, by omega, by omega⟩, rfl, rfl⟩))
  clear hk
  clear h hW hpW e1 e2 e3 hb2 hb3
  have hsf := fun (u : World) (a : Addr) (n : Nat) => run_store Tryd.prog u a (.func (.func n) #[] #[]) .plain rfl
  have hsn := fun (u : World) (a : Addr) => run_store Tryd.prog u a .nilFunc .plain rfl
  go_enter Tryd.func35, Tryd.ntmps35
  go_wp2_with fail
  refine Calls.mono (small_t _ (RS.below HR0.out (al (Below.refl _ _) _)) HE1.out) ?_
  rintro er1 w1 ⟨rfl, hr, hg⟩
  obtain ⟨g, hgs⟩ : ∃ g, g = w.heap.size := ⟨_, rfl⟩
  rw [← hgs]
  have HGS : Hid (g = w.heap.size) := hgs
  have HPG : Hid (p < g) := by unfold Hid; rw [hgs]; exact HP.out.2
  have HU1 : Hid (UBx w1 g #[.int .i64 0, .int .u64 0, .int .u64 0, .int .i64 0, .int .i64 0, .int .i64 0, .slice none 0 0, .int .i64 0, .slice none 0 0]) := by unfold Hid; rw [hgs]; exact gr_box hg (by have := HP.out; omega) (heap_alloc_new w _)
  have HR1 : Hid (RS w1 p B y1 f1) := hr
  have HW1 : Hid (Below W.heap.size W w1) := (HW0.out.alloc HW0.out.size _).grown hg (HW0.out.alloc HW0.out.size _).size (fun j hj => by cases hj; exact HP.out.1)
  clear hr hg hgs
  have c0 : w1.cell? ⟨g, 0, none⟩ = some (.int .i64 0) := by rw [cell_of_row _ _ _ _ _ _ HU1.out]; rfl
  have z0 : w1.frozen? ⟨g, 0, none⟩ = false := by simp [World.frozen?, HU1.out]
  obtain ⟨x1, hx1⟩ : ∃ x : World, x = w1.setCell ⟨g, 0, none⟩ (.int .i64 (n1 : Nat)) := ⟨_, rfl⟩
  have HG1x : Hid (w1.grownBy x1 (some g)) := by unfold Hid; rw [hx1]; exact gset1 _ _ _ _
  have HU1x : Hid (UBx x1 g #[.int .i64 (n1 : Nat), .int .u64 0, .int .u64 0, .int .i64 0, .int .i64 0, .int .i64 0, .slice none 0 0, .int .i64 0, .slice none 0 0]) := by unfold Hid UBx; rw [hx1, heap_setCell_same w1 g 0 _ _ _ HU1.out]; rfl
  have HR1x : Hid (RS x1 p B y1 f1) := RS.grown HR1.out HG1x.out (.inr HPG.out)
  have HW1x : Hid (Below W.heap.size W x1) := HW1.out.grown HG1x.out HW1.out.size (fun j hj => by cases hj; have := HP.out; have := HPG.out; omega)
  go_wp2_with fail
  rw [← hx1]
  clear hx1 c0 z0
  refine Calls.mono (kindOf_t _ _ _ HK.out _) ?_
  rintro er1 w2 ⟨rfl, hb⟩
  have HU2 : Hid (UBx w2 g #[.int .i64 (n1 : Nat), .int .u64 0, .int .u64 0, .int .i64 0, .int .i64 0, .int .i64 0, .slice none 0 0, .int .i64 0, .slice none 0 0]) := (hb.block g (Array.getElem?_eq_some_iff.1 HU1x.out).1).trans HU1x.out
  have HR2 : Hid (RS w2 p B y1 f1) := RS.below HR1x.out hb
  have HW2 : Hid (Below W.heap.size W w2) := below_next HW1x.out hb
  have HS2 : Hid (g < w2.heap.size) := (Array.getElem?_eq_some_iff.1 HU2.out).1
  clear hb
  go_wp2_with fail
  refine Calls.mono (must_t false _ (RS.below HR2.out (al (Below.refl _ _) _))) ?_
  rintro er1 w3 ⟨rfl, hr, hg⟩
  have HU3 : Hid (UBx w3 g #[.int .i64 (n1 : Nat), .int .u64 0, .int .u64 0, .int .i64 0, .int .i64 0, .int .i64 0, .slice none 0 0, .int .i64 0, .slice none 0 0]) := gr_box hg (by have := HPG.out; omega) (((al (Below.refl _ _) _).block g HS2.out).trans HU2.out)
  have HK3 : Hid (w3.heap[w2.heap.size]? = some (.cells #[.int .i64 0, .nilFunc, .nilFunc, .nilFunc] 64 (0, 0))) := gr_box hg (by have := HPG.out; have := HS2.out; omega) (heap_alloc_new w2 _)
  have HR3 : Hid (RS w3 p B y1 (mustF false f1)) := hr
  have HW3 : Hid (Below W.heap.size W w3) := (HW2.out.alloc HW2.out.size _).grown hg (HW2.out.alloc HW2.out.size _).size (fun j hj => by cases hj; exact HP.out.1)
  clear hr hg
  obtain ⟨κ, hκ⟩ : ∃ κ, κ = w2.heap.size := ⟨_, rfl⟩
  rw [← hκ] at HK3 HS2 ⊢
  clear hκ
  go_wp2_with fail
  refine Calls.mono (number_t (m := mxU) _ HR3.out HE2.out) ?_
  rintro er1 w4 ⟨rfl, hr, hg⟩
  have HU4 : Hid (UBx w4 g #[.int .i64 (n1 : Nat), .int .u64 0, .int .u64 0, .int .i64 0, .int .i64 0, .int .i64 0, .slice none 0 0, .int .i64 0, .slice none 0 0]) := gr_box hg (by have := HPG.out; omega) HU3.out
  have HK4 : Hid (w4.heap[κ]? = some (.cells #[.int .i64 0, .nilFunc, .nilFunc, .nilFunc] 64 (0, 0))) := gr_box hg (by have := HPG.out; have := HS2.out; omega) HK3.out
  have HR4 : Hid (RS w4 p B y2 f2) := hr
  have HW4 : Hid (Below W.heap.size W w4) := HW3.out.grown hg HW3.out.size (fun j hj => by cases hj; exact HP.out.1)
  clear hr hg
  have c1 : w4.cell? ⟨g, 1, none⟩ = some (.int .u64 0) := by rw [cell_of_row _ _ _ _ _ _ HU4.out]; rfl
  have z1 : w4.frozen? ⟨g, 1, none⟩ = false := by simp [World.frozen?, HU4.out]
  obtain ⟨x4, hx4⟩ : ∃ x : World, x = w4.setCell ⟨g, 1, none⟩ (.int .u64 (n2 : Nat)) := ⟨_, rfl⟩
  have HG4x : Hid (w4.grownBy x4 (some g)) := by unfold Hid; rw [hx4]; exact gset1 _ _ _ _
  have HU4x : Hid (UBx x4 g #[.int .i64 (n1 : Nat), .int .u64 (n2 : Nat), .int .u64 0, .int .i64 0, .int .i64 0, .int .i64 0, .slice none 0 0, .int .i64 0, .slice none 0 0]) := by unfold Hid UBx; rw [hx4, heap_setCell_same w4 g 1 _ _ _ HU4.out]; rfl
  have HK4x : Hid (x4.heap[κ]? = some (.cells #[.int .i64 0, .nilFunc, .nilFunc, .nilFunc] 64 (0, 0))) := gr_box HG4x.out (by have := HS2.out; omega) HK4.out
  have HR4x : Hid (RS x4 p B y2 f2) := RS.grown HR4.out HG4x.out (.inr HPG.out)
  have HW4x : Hid (Below W.heap.size W x4) := HW4.out.grown HG4x.out HW4.out.size (fun j hj => by cases hj; have := HP.out; have := HPG.out; omega)
  go_wp2_with (go_at_call 39; refine Calls.mono (goodName_b _ b2 HQ2.out _) ?_; rintro er1 wq ⟨rfl, hq⟩; have hq := hq.symm; subst hq)
  rw [← hx4]
  clear hx4 c1 z1
  refine Calls.mono (must_t b2 _ HR4x.out) ?_
  rintro er1 w5 ⟨rfl, hr, hg⟩
  have HU5 : Hid (UBx w5 g #[.int .i64 (n1 : Nat), .int .u64 (n2 : Nat), .int .u64 0, .int .i64 0, .int .i64 0, .int .i64 0, .slice none 0 0, .int .i64 0, .slice none 0 0]) := gr_box hg (by have := HPG.out; omega) HU4x.out
  have HK5 : Hid (w5.heap[κ]? = some (.cells #[.int .i64 0, .nilFunc, .nilFunc, .nilFunc] 64 (0, 0))) := gr_box hg (by have := HPG.out; have := HS2.out; omega) HK4x.out
  have HR5 : Hid (RS w5 p B y2 (mustF b2 f2)) := hr
  have HW5 : Hid (Below W.heap.size W w5) := HW4x.out.grown hg HW4x.out.size (fun j hj => by cases hj; exact HP.out.1)
  clear hr hg
  go_wp2_with fail
  refine Calls.mono (number_t (m := mxU) _ HR5.out HE3.out) ?_
  rintro er1 w6 ⟨rfl, hr, hg⟩
  have HU6 : Hid (UBx w6 g #[.int .i64 (n1 : Nat), .int .u64 (n2 : Nat), .int .u64 0, .int .i64 0, .int .i64 0, .int .i64 0, .slice none 0 0, .int .i64 0, .slice none 0 0]) := gr_box hg (by have := HPG.out; omega) HU5.out
  have HK6 : Hid (w6.heap[κ]? = some (.cells #[.int .i64 0, .nilFunc, .nilFunc, .nilFunc] 64 (0, 0))) := gr_box hg (by have := HPG.out; have := HS2.out; omega) HK5.out
  have HR6 : Hid (RS w6 p B y3 f3) := hr
  have HW6 : Hid (Below W.heap.size W w6) := HW5.out.grown hg HW5.out.size (fun j hj => by cases hj; exact HP.out.1)
  clear hr hg
  have c2 : w6.cell? ⟨g, 2, none⟩ = some (.int .u64 0) := by rw [cell_of_row _ _ _ _ _ _ HU6.out]; rfl
  have z2 : w6.frozen? ⟨g, 2, none⟩ = false := by simp [World.frozen?, HU6.out]
  obtain ⟨x6, hx6⟩ : ∃ x : World, x = w6.setCell ⟨g, 2, none⟩ (.int .u64 (n3 : Nat)) := ⟨_, rfl⟩
  have HG6x : Hid (w6.grownBy x6 (some g)) := by unfold Hid; rw [hx6]; exact gset1 _ _ _ _
  have HU6x : Hid (UBx x6 g #[.int .i64 (n1 : Nat), .int .u64 (n2 : Nat), .int .u64 (n3 : Nat), .int .i64 0, .int .i64 0, .int .i64 0, .slice none 0 0, .int .i64 0, .slice none 0 0]) := by unfold Hid UBx; rw [hx6, heap_setCell_same w6 g 2 _ _ _ HU6.out]; rfl
  have HK6x : Hid (x6.heap[κ]? = some (.cells #[.int .i64 0, .nilFunc, .nilFunc, .nilFunc] 64 (0, 0))) := gr_box HG6x.out (by have := HS2.out; omega) HK6.out
  have HR6x : Hid (RS x6 p B y3 f3) := RS.grown HR6.out HG6x.out (.inr HPG.out)
  have HW6x : Hid (Below W.heap.size W x6) := HW6.out.grown HG6x.out HW6.out.size (fun j hj => by cases hj; have := HP.out; have := HPG.out; omega)
  go_wp2_with (go_at_call 39; refine Calls.mono (goodName_b _ b3 HQ3.out _) ?_; rintro er1 wq ⟨rfl, hq⟩; have hq := hq.symm; subst hq)
  rw [← hx6]
  clear hx6 c2 z2
  refine Calls.mono (must_t b3 _ HR6x.out) ?_
  rintro er1 w7 ⟨rfl, hr, hg⟩
  have HU7 : Hid (UBx w7 g #[.int .i64 (n1 : Nat), .int .u64 (n2 : Nat), .int .u64 (n3 : Nat), .int .i64 0, .int .i64 0, .int .i64 0, .slice none 0 0, .int .i64 0, .slice none 0 0]) := gr_box hg (by have := HPG.out; omega) HU6x.out
  have HK7 : Hid (w7.heap[κ]? = some (.cells #[.int .i64 0, .nilFunc, .nilFunc, .nilFunc] 64 (0, 0))) := gr_box hg (by have := HPG.out; have := HS2.out; omega) HK6x.out
  have HR7 : Hid (RS w7 p B y3 (mustF b3 f3)) := hr
  have HW7 : Hid (Below W.heap.size W w7) := HW6x.out.grown hg HW6x.out.size (fun j hj => by cases hj; exact HP.out.1)
  clear hr hg
  go_wp2_with fail
  refine Calls.mono (err_t _ HR7.out) ?_
  rintro er1 u ⟨rfl, hu⟩
  rw [hu]
  clear hu u
  have hfb : (mustF b3 f3 == 0) = false := by simpa using hf
  obtain ⟨F, hF⟩ : ∃ F, F = mustF b3 f3 := ⟨_, rfl⟩
  rw [← hF] at hf hfb HR7 ⊢
  have HFF : Hid (F = mustF b3 f3) := hF
  clear hF
  go_wp2_with (first
    | (refine wpList_load_g (by rfl) 26 _ rfl g 0 (by rfl) [.int .i64 (n1 : Nat), .int .u64 (n2 : Nat), .int .u64 (n3 : Nat), .int .i64 0, .int .i64 0, .int .i64 0, .slice none 0 0, .int .i64 0, .slice none 0 0] _ (box_range HU7.out) Tryd.underlying26 rfl info_un ?_)
    | (refine wpList_store_mid rfl 26 _ _ rfl g 0 #[.int .i64 (n1 : Nat), .int .u64 (n2 : Nat), .int .u64 (n3 : Nat), .int .i64 0, .int .i64 0, .int .i64 0, .slice none 0 0, .int .i64 0, .slice none 0 0] rfl rfl (box_there HU7.out rfl) (by kernel_rfl) (by simp [Value.oneCell']) ?_))
  (try simp only [Exit.inBlock, Exit.then])
  refine bodyPost_ret (results_cell_row Tryd.results35 _ _ g 26 #[.int .i64 (n1 : Nat), .int .u64 (n2 : Nat), .int .u64 (n3 : Nat), .int .i64 0, .int .i64 0, .int .i64 0, .slice none 0 0, .int .i64 0, .slice none 0 0] (0, 0) _ rfl (box_set HU7.out rfl) Tryd.underlying26 rfl (by kernel_rfl)) rfl ?_
  have hfin := setCells_grown g [.int .i64 (n1 : Nat), .int .u64 (n2 : Nat), .int .u64 (n3 : Nat), .int .i64 0, .int .i64 0, .int .i64 0, .slice none 0 0, .int .i64 0, .slice none 0 0] 0 w7
  rw [← HFF.out, ← HGS.out]
  exact ⟨none, 0, none, 0, rfl, World.ownsRow_nil _ _ _ _, OwnR.nil _ _, RS.grown HR7.out hfin (.inr HPG.out), HW7.out.grown hfin HW7.out.size (fun j hj => by cases hj; have := HP.out; have := HPG.out; omega)⟩
theorem read_1a {p B n1 n2 n3 : Nat} {ys y1 y2 y3 : List UInt8} {f f1 f2 f3 : Int} (b2 b3 : Bool) (W w : World) (h : RS w p B ys f) (hW : Below W.heap.size W w) (hpW : W.heap.size ≤ p)
    (e1 : nmS mxU (ys, f) = (1, y1, f1)) (e2 : nmS mxU (y1, mustF true f1) = (n2, y2, f2)) (hb2 : b2 = true ↔ nameOk (n2 : Int)) (e3 : nmS mxU (y2, mustF b2 f2) = (n3, y3, f3)) (hb3 : b3 = true ↔ nameOk (n3 : Int)) (hf : ¬ mustF b3 f3 = 0) :
    Calls Tryd.prog 35 #[.pointer (some ⟨p, 0, none⟩)] w fun er w' => RdOut W p B w.heap.size ⟨1, (n2 : Nat), (n3 : Nat), 0, 0, 0, [], 0, []⟩ y3 (mustF b3 f3) er w' := by
  have HP : Hid (W.heap.size ≤ p ∧ p < w.heap.size) := ⟨hpW, h.lt⟩
  have HE1 : Hid _ := e1
  have HE2 : Hid _ := e2
  have HE3 : Hid _ := e3
  have HQ2 : Hid _ := hb2
  have HQ3 : Hid _ := hb3
  have HR0 : Hid (RS w p B ys f) := h
  have HW0 : Hid (Below W.heap.size W w) := hW
  have HK : Hid (KindIs (1 : Int) kd1 true) := .inl ⟨rfl, rfl, rfl⟩
  clear h hW hpW e1 e2 e3 hb2 hb3
  have hsf := fun (u : World) (a : Addr) (n : Nat) => run_store Tryd.prog u a (.func (.func n) #[] #[]) .plain rfl
  have hsn := fun (u : World) (a : Addr) => run_store Tryd.prog u a .nilFunc .plain rfl
  go_enter Tryd.func35, Tryd.ntmps35
  go_wp2_with fail
  refine Calls.mono (small_t _ (RS.below HR0.out (al (Below.refl _ _) _)) HE1.out) ?_
  rintro er1 w1 ⟨rfl, hr, hg⟩
  obtain ⟨g, hgs⟩ : ∃ g, g = w.heap.size := ⟨_, rfl⟩
  rw [← hgs]
  have HGS : Hid (g = w.heap.size) := hgs
  have HPG : Hid (p < g) := by unfold Hid; rw [hgs]; exact HP.out.2
  have HU1 : Hid (UBx w1 g #[.int .i64 0, .int .u64 0, .int .u64 0, .int .i64 0, .int .i64 0, .int .i64 0, .slice none 0 0, .int .i64 0, .slice none 0 0]) := by unfold Hid; rw [hgs]; exact gr_box hg (by have := HP.out; omega) (heap_alloc_new w _)
  have HR1 : Hid (RS w1 p B y1 f1) := hr
  have HW1 : Hid (Below W.heap.size W w1) := (HW0.out.alloc HW0.out.size _).grown hg (HW0.out.alloc HW0.out.size _).size (fun j hj => by cases hj; exact HP.out.1)
  clear hr hg hgs
  have c0 : w1.cell? ⟨g, 0, none⟩ = some (.int .i64 0) := by rw [cell_of_row _ _ _ _ _ _ HU1.out]; rfl
  have z0 : w1.frozen? ⟨g, 0, none⟩ = false := by simp [World.frozen?, HU1.out]
  obtain ⟨x1, hx1⟩ : ∃ x : World, x = w1.setCell ⟨g, 0, none⟩ (.int .i64 1) := ⟨_, rfl⟩
  have HG1x : Hid (w1.grownBy x1 (some g)) := by unfold Hid; rw [hx1]; exact gset1 _ _ _ _
  have HU1x : Hid (UBx x1 g #[.int .i64 1, .int .u64 0, .int .u64 0, .int .i64 0, .int .i64 0, .int .i64 0, .slice none 0 0, .int .i64 0, .slice none 0 0]) := by unfold Hid UBx; rw [hx1, heap_setCell_same w1 g 0 _ _ _ HU1.out]; rfl
  have HR1x : Hid (RS x1 p B y1 f1) := RS.grown HR1.out HG1x.out (.inr HPG.out)
  have HW1x : Hid (Below W.heap.size W x1) := HW1.out.grown HG1x.out HW1.out.size (fun j hj => by cases hj; have := HP.out; have := HPG.out; omega)
  go_wp2_with fail
  rw [← hx1]
  clear hx1 c0 z0
  refine Calls.mono (kindOf_t _ _ _ HK.out _) ?_
  rintro er1 w2 ⟨rfl, hb⟩
  have HU2 : Hid (UBx w2 g #[.int .i64 1, .int .u64 0, .int .u64 0, .int .i64 0, .int .i64 0, .int .i64 0, .slice none 0 0, .int .i64 0, .slice none 0 0]) := (hb.block g (Array.getElem?_eq_some_iff.1 HU1x.out).1).trans HU1x.out
  have HR2 : Hid (RS w2 p B y1 f1) := RS.below HR1x.out hb
  have HW2 : Hid (Below W.heap.size W w2) := below_next HW1x.out hb
  have HS2 : Hid (g < w2.heap.size) := (Array.getElem?_eq_some_iff.1 HU2.out).1
  clear hb
  go_wp2_with fail
  refine Calls.mono (must_t true _ (RS.below HR2.out (al (Below.refl _ _) _))) ?_
  rintro er1 w3 ⟨rfl, hr, hg⟩
  have HU3 : Hid (UBx w3 g #[.int .i64 1, .int .u64 0, .int .u64 0, .int .i64 0, .int .i64 0, .int .i64 0, .slice none 0 0, .int .i64 0, .slice none 0 0]) := gr_box hg (by have := HPG.out; omega) (((al (Below.refl _ _) _).block g HS2.out).trans HU2.out)
  have HK3 : Hid (w3.heap[w2.heap.size]? = some (.cells #[.int .i64 1, .func (.func 79) #[] #[], .func (.func 80) #[] #[], .func (.func 81) #[] #[]] 64 (0, 0))) := gr_box hg (by have := HPG.out; have := HS2.out; omega) (heap_alloc_new w2 _)
  have HR3 : Hid (RS w3 p B y1 (mustF true f1)) := hr
  have HW3 : Hid (Below W.heap.size W w3) := (HW2.out.alloc HW2.out.size _).grown hg (HW2.out.alloc HW2.out.size _).size (fun j hj => by cases hj; exact HP.out.1)
  clear hr hg
  obtain ⟨κ, hκ⟩ : ∃ κ, κ = w2.heap.size := ⟨_, rfl⟩
  rw [← hκ] at HK3 HS2 ⊢
  clear hκ
  go_wp2_with fail
  refine Calls.mono (number_t (m := mxU) _ HR3.out HE2.out) ?_
  rintro er1 w4 ⟨rfl, hr, hg⟩
  have HU4 : Hid (UBx w4 g #[.int .i64 1, .int .u64 0, .int .u64 0, .int .i64 0, .int .i64 0, .int .i64 0, .slice none 0 0, .int .i64 0, .slice none 0 0]) := gr_box hg (by have := HPG.out; omega) HU3.out
  have HK4 : Hid (w4.heap[κ]? = some (.cells #[.int .i64 1, .func (.func 79) #[] #[], .func (.func 80) #[] #[], .func (.func 81) #[] #[]] 64 (0, 0))) := gr_box hg (by have := HPG.out; have := HS2.out; omega) HK3.out
  have HR4 : Hid (RS w4 p B y2 f2) := hr
  have HW4 : Hid (Below W.heap.size W w4) := HW3.out.grown hg HW3.out.size (fun j hj => by cases hj; exact HP.out.1)
  clear hr hg
  have c1 : w4.cell? ⟨g, 1, none⟩ = some (.int .u64 0) := by rw [cell_of_row _ _ _ _ _ _ HU4.out]; rfl
  have z1 : w4.frozen? ⟨g, 1, none⟩ = false := by simp [World.frozen?, HU4.out]
  obtain ⟨x4, hx4⟩ : ∃ x : World, x = w4.setCell ⟨g, 1, none⟩ (.int .u64 (n2 : Nat)) := ⟨_, rfl⟩
  have HG4x : Hid (w4.grownBy x4 (some g)) := by unfold Hid; rw [hx4]; exact gset1 _ _ _ _
  have HU4x : Hid (UBx x4 g #[.int .i64 1, .int .u64 (n2 : Nat), .int .u64 0, .int .i64 0, .int .i64 0, .int .i64 0, .slice none 0 0, .int .i64 0, .slice none 0 0]) := by unfold Hid UBx; rw [hx4, heap_setCell_same w4 g 1 _ _ _ HU4.out]; rfl
  have HK4x : Hid (x4.heap[κ]? = some (.cells #[.int .i64 1, .func (.func 79) #[] #[], .func (.func 80) #[] #[], .func (.func 81) #[] #[]] 64 (0, 0))) := gr_box HG4x.out (by have := HS2.out; omega) HK4.out
  have HR4x : Hid (RS x4 p B y2 f2) := RS.grown HR4.out HG4x.out (.inr HPG.out)
  have HW4x : Hid (Below W.heap.size W x4) := HW4.out.grown HG4x.out HW4.out.size (fun j hj => by cases hj; have := HP.out; have := HPG.out; omega)
  go_wp2_with (go_at_call 39; refine Calls.mono (goodName_b _ b2 HQ2.out _) ?_; rintro er1 wq ⟨rfl, hq⟩; have hq := hq.symm; subst hq)
  rw [← hx4]
  clear hx4 c1 z1
  refine Calls.mono (must_t b2 _ HR4x.out) ?_
  rintro er1 w5 ⟨rfl, hr, hg⟩
  have HU5 : Hid (UBx w5 g #[.int .i64 1, .int .u64 (n2 : Nat), .int .u64 0, .int .i64 0, .int .i64 0, .int .i64 0, .slice none 0 0, .int .i64 0, .slice none 0 0]) := gr_box hg (by have := HPG.out; omega) HU4x.out
  have HK5 : Hid (w5.heap[κ]? = some (.cells #[.int .i64 1, .func (.func 79) #[] #[], .func (.func 80) #[] #[], .func (.func 81) #[] #[]] 64 (0, 0))) := gr_box hg (by have := HPG.out; have := HS2.out; omega) HK4x.out
  have HR5 : Hid (RS w5 p B y2 (mustF b2 f2)) := hr
  have HW5 : Hid (Below W.heap.size W w5) := HW4x.out.grown hg HW4x.out.size (fun j hj => by cases hj; exact HP.out.1)
  clear hr hg
  go_wp2_with fail
  refine Calls.mono (number_t (m := mxU) _ HR5.out HE3.out) ?_
  rintro er1 w6 ⟨rfl, hr, hg⟩
  have HU6 : Hid (UBx w6 g #[.int .i64 1, .int .u64 (n2 : Nat), .int .u64 0, .int .i64 0, .int .i64 0, .int .i64 0, .slice none 0 0, .int .i64 0, .slice none 0 0]) := gr_box hg (by have := HPG.out; omega) HU5.out
  have HK6 : Hid (w6.heap[κ]? = some (.cells #[.int .i64 1, .func (.func 79) #[] #[], .func (.func 80) #[] #[], .func (.func 81) #[] #[]] 64 (0, 0))) := gr_box hg (by have := HPG.out; have := HS2.out; omega) HK5.out
  have HR6 : Hid (RS w6 p B y3 f3) := hr
  have HW6 : Hid (Below W.heap.size W w6) := HW5.out.grown hg HW5.out.size (fun j hj => by cases hj; exact HP.out.1)
  clear hr hg
  have c2 : w6.cell? ⟨g, 2, none⟩ = some (.int .u64 0) := by rw [cell_of_row _ _ _ _ _ _ HU6.out]; rfl
  have z2 : w6.frozen? ⟨g, 2, none⟩ = false := by simp [World.frozen?, HU6.out]
  obtain ⟨x6, hx6⟩ : ∃ x : World, x = w6.setCell ⟨g, 2, none⟩ (.int .u64 (n3 : Nat)) := ⟨_, rfl⟩
  have HG6x : Hid (w6.grownBy x6 (some g)) := by unfold Hid; rw [hx6]; exact gset1 _ _ _ _
  have HU6x : Hid (UBx x6 g #[.int .i64 1, .int .u64 (n2 : Nat), .int .u64 (n3 : Nat), .int .i64 0, .int .i64 0, .int .i64 0, .slice none 0 0, .int .i64 0, .slice none 0 0]) := by unfold Hid UBx; rw [hx6, heap_setCell_same w6 g 2 _ _ _ HU6.out]; rfl
  have HK6x : Hid (x6.heap[κ]? = some (.cells #[.int .i64 1, .func (.func 79) #[] #[], .func (.func 80) #[] #[], .func (.func 81) #[] #[]] 64 (0, 0))) := gr_box HG6x.out (by have := HS2.out; omega) HK6.out
  have HR6x : Hid (RS x6 p B y3 f3) := RS.grown HR6.out HG6x.out (.inr HPG.out)
  have HW6x : Hid (Below W.heap.size W x6) := HW6.out.grown HG6x.out HW6.out.size (fun j hj => by cases hj; have := HP.out; have := HPG.out; omega)
  go_wp2_with (go_at_call 39; refine Calls.mono (goodName_b _ b3 HQ3.out _) ?_; rintro er1 wq ⟨rfl, hq⟩; have hq := hq.symm; subst hq)
  rw [← hx6]
  clear hx6 c2 z2
  refine Calls.mono (must_t b3 _ HR6x.out) ?_
  rintro er1 w7 ⟨rfl, hr, hg⟩
  have HU7 : Hid (UBx w7 g #[.int .i64 1, .int .u64 (n2 : Nat), .int .u64 (n3 : Nat), .int .i64 0, .int .i64 0, .int .i64 0, .slice none 0 0, .int .i64 0, .slice none 0 0]) := gr_box hg (by have := HPG.out; omega) HU6x.out
  have HK7 : Hid (w7.heap[κ]? = some (.cells #[.int .i64 1, .func (.func 79) #[] #[], .func (.func 80) #[] #[], .func (.func 81) #[] #[]] 64 (0, 0))) := gr_box hg (by have := HPG.out; have := HS2.out; omega) HK6x.out
  have HR7 : Hid (RS w7 p B y3 (mustF b3 f3)) := hr
  have HW7 : Hid (Below W.heap.size W w7) := HW6x.out.grown hg HW6x.out.size (fun j hj => by cases hj; exact HP.out.1)
  clear hr hg
  go_wp2_with fail
  refine Calls.mono (err_t _ HR7.out) ?_
  rintro er1 u ⟨rfl, hu⟩
  rw [hu]
  clear hu u
  have hfb : (mustF b3 f3 == 0) = false := by simpa using hf
  obtain ⟨F, hF⟩ : ∃ F, F = mustF b3 f3 := ⟨_, rfl⟩
  rw [← hF] at hf hfb HR7 ⊢
  have HFF : Hid (F = mustF b3 f3) := hF
  clear hF
  go_wp2_with (first
    | (refine wpList_load_g (by rfl) 26 _ rfl g 0 (by rfl) [.int .i64 1, .int .u64 (n2 : Nat), .int .u64 (n3 : Nat), .int .i64 0, .int .i64 0, .int .i64 0, .slice none 0 0, .int .i64 0, .slice none 0 0] _ (box_range HU7.out) Tryd.underlying26 rfl info_un ?_)
    | (refine wpList_store_mid rfl 26 _ _ rfl g 0 #[.int .i64 1, .int .u64 (n2 : Nat), .int .u64 (n3 : Nat), .int .i64 0, .int .i64 0, .int .i64 0, .slice none 0 0, .int .i64 0, .slice none 0 0] rfl rfl (box_there HU7.out rfl) (by kernel_rfl) (by simp [Value.oneCell']) ?_))
  (try simp only [Exit.inBlock, Exit.then])
  refine bodyPost_ret (results_cell_row Tryd.results35 _ _ g 26 #[.int .i64 1, .int .u64 (n2 : Nat), .int .u64 (n3 : Nat), .int .i64 0, .int .i64 0, .int .i64 0, .slice none 0 0, .int .i64 0, .slice none 0 0] (0, 0) _ rfl (box_set HU7.out rfl) Tryd.underlying26 rfl (by kernel_rfl)) rfl ?_
  have hfin := setCells_grown g [.int .i64 1, .int .u64 (n2 : Nat), .int .u64 (n3 : Nat), .int .i64 0, .int .i64 0, .int .i64 0, .slice none 0 0, .int .i64 0, .slice none 0 0] 0 w7
  rw [← HFF.out, ← HGS.out]
  exact ⟨none, 0, none, 0, rfl, World.ownsRow_nil _ _ _ _, OwnR.nil _ _, RS.grown HR7.out hfin (.inr HPG.out), HW7.out.grown hfin HW7.out.size (fun j hj => by cases hj; have := HP.out; have := HPG.out; omega)⟩
theorem read_2a {p B n1 n2 n3 : Nat} {ys y1 y2 y3 : List UInt8} {f f1 f2 f3 : Int} (b2 b3 : Bool) (W w : World) (h : RS w p B ys f) (hW : Below W.heap.size W w) (hpW : W.heap.size ≤ p)
    (e1 : nmS mxU (ys, f) = (2, y1, f1)) (e2 : nmS mxU (y1, mustF true f1) = (n2, y2, f2)) (hb2 : b2 = true ↔ nameOk (n2 : Int)) (e3 : nmS mxU (y2, mustF b2 f2) = (n3, y3, f3)) (hb3 : b3 = true ↔ nameOk (n3 : Int)) (hf : ¬ mustF b3 f3 = 0) :
    Calls Tryd.prog 35 #[.pointer (some ⟨p, 0, none⟩)] w fun er w' => RdOut W p B w.heap.size ⟨2, (n2 : Nat), (n3 : Nat), 0, 0, 0, [], 0, []⟩ y3 (mustF b3 f3) er w' := by
  have HP : Hid (W.heap.size ≤ p ∧ p < w.heap.size) := ⟨hpW, h.lt⟩
  have HE1 : Hid _ := e1
  have HE2 : Hid _ := e2
  have HE3 : Hid _ := e3
  have HQ2 : Hid _ := hb2
  have HQ3 : Hid _ := hb3
  have HR0 : Hid (RS w p B ys f) := h
  have HW0 : Hid (Below W.heap.size W w) := hW
  have HK : Hid (KindIs (2 : Int) kd2 true) := .inr (.inl ⟨rfl, rfl, rfl⟩)
  clear h hW hpW e1 e2 e3 hb2 hb3
  have hsf := fun (u : World) (a : Addr) (n : Nat) => run_store Tryd.prog u a (.func (.func n) #[] #[]) .plain rfl
  have hsn := fun (u : World) (a : Addr) => run_store Tryd.prog u a .nilFunc .plain rfl
  go_enter Tryd.func35, Tryd.ntmps35
  go_wp2_with fail
  refine Calls.mono (small_t _ (RS.below HR0.out (al (Below.refl _ _) _)) HE1.out) ?_
  rintro er1 w1 ⟨rfl, hr, hg⟩
  obtain ⟨g, hgs⟩ : ∃ g, g = w.heap.size := ⟨_, rfl⟩
  rw [← hgs]
  have HGS : Hid (g = w.heap.size) := hgs
  have HPG : Hid (p < g) := by unfold Hid; rw [hgs]; exact HP.out.2
  have HU1 : Hid (UBx w1 g #[.int .i64 0, .int .u64 0, .int .u64 0, .int .i64 0, .int .i64 0, .int .i64 0, .slice none 0 0, .int .i64 0, .slice none 0 0]) := by unfold Hid; rw [hgs]; exact gr_box hg (by have := HP.out; omega) (heap_alloc_new w _)
  have HR1 : Hid (RS w1 p B y1 f1) := hr
  have HW1 : Hid (Below W.heap.size W w1) := (HW0.out.alloc HW0.out.size _).grown hg (HW0.out.alloc HW0.out.size _).size (fun j hj => by cases hj; exact HP.out.1)
  clear hr hg hgs
  have c0 : w1.cell? ⟨g, 0, none⟩ = some (.int .i64 0) := by rw [cell_of_row _ _ _ _ _ _ HU1.out]; rfl
  have z0 : w1.frozen? ⟨g, 0, none⟩ = false := by simp [World.frozen?, HU1.out]
  obtain ⟨x1, hx1⟩ : ∃ x : World, x = w1.setCell ⟨g, 0, none⟩ (.int .i64 2) := ⟨_, rfl⟩
  have HG1x : Hid (w1.grownBy x1 (some g)) := by unfold Hid; rw [hx1]; exact gset1 _ _ _ _
  have HU1x : Hid (UBx x1 g #[.int .i64 2, .int .u64 0, .int .u64 0, .int .i64 0, .int .i64 0, .int .i64 0, .slice none 0 0, .int .i64 0, .slice none 0 0]) := by unfold Hid UBx; rw [hx1, heap_setCell_same w1 g 0 _ _ _ HU1.out]; rfl
  have HR1x : Hid (RS x1 p B y1 f1) := RS.grown HR1.out HG1x.out (.inr HPG.out)
  have HW1x : Hid (Below W.heap.size W x1) := HW1.out.grown HG1x.out HW1.out.size (fun j hj => by cases hj; have := HP.out; have := HPG.out; omega)
  go_wp2_with fail
  rw [← hx1]
  clear hx1 c0 z0
  refine Calls.mono (kindOf_t _ _ _ HK.out _) ?_
  rintro er1 w2 ⟨rfl, hb⟩
  have HU2 : Hid (UBx w2 g #[.int .i64 2, .int .u64 0, .int .u64 0, .int .i64 0, .int .i64 0, .int .i64 0, .slice none 0 0, .int .i64 0, .slice none 0 0]) := (hb.block g (Array.getElem?_eq_some_iff.1 HU1x.out).1).trans HU1x.out
  have HR2 : Hid (RS w2 p B y1 f1) := RS.below HR1x.out hb
  have HW2 : Hid (Below W.heap.size W w2) := below_next HW1x.out hb
  have HS2 : Hid (g < w2.heap.size) := (Array.getElem?_eq_some_iff.1 HU2.out).1
  clear hb
  go_wp2_with fail
  refine Calls.mono (must_t true _ (RS.below HR2.out (al (Below.refl _ _) _))) ?_
  rintro er1 w3 ⟨rfl, hr, hg⟩
  have HU3 : Hid (UBx w3 g #[.int .i64 2, .int .u64 0, .int .u64 0, .int .i64 0, .int .i64 0, .int .i64 0, .slice none 0 0, .int .i64 0, .slice none 0 0]) := gr_box hg (by have := HPG.out; omega) (((al (Below.refl _ _) _).block g HS2.out).trans HU2.out)
  have HK3 : Hid (w3.heap[w2.heap.size]? = some (.cells #[.int .i64 2, .func (.func 82) #[] #[], .func (.func 83) #[] #[], .func (.func 84) #[] #[]] 64 (0, 0))) := gr_box hg (by have := HPG.out; have := HS2.out; omega) (heap_alloc_new w2 _)
  have HR3 : Hid (RS w3 p B y1 (mustF true f1)) := hr
  have HW3 : Hid (Below W.heap.size W w3) := (HW2.out.alloc HW2.out.size _).grown hg (HW2.out.alloc HW2.out.size _).size (fun j hj => by cases hj; exact HP.out.1)
  clear hr hg
  obtain ⟨κ, hκ⟩ : ∃ κ, κ = w2.heap.size := ⟨_, rfl⟩
  rw [← hκ] at HK3 HS2 ⊢
  clear hκ
  go_wp2_with fail
  refine Calls.mono (number_t (m := mxU) _ HR3.out HE2.out) ?_
  rintro er1 w4 ⟨rfl, hr, hg⟩
  have HU4 : Hid (UBx w4 g #[.int .i64 2, .int .u64 0, .int .u64 0, .int .i64 0, .int .i64 0, .int .i64 0, .slice none 0 0, .int .i64 0, .slice none 0 0]) := gr_box hg (by have := HPG.out; omega) HU3.out
  have HK4 : Hid (w4.heap[κ]? = some (.cells #[.int .i64 2, .func (.func 82) #[] #[], .func (.func 83) #[] #[], .func (.func 84) #[] #[]] 64 (0, 0))) := gr_box hg (by have := HPG.out; have := HS2.out; omega) HK3.out
  have HR4 : Hid (RS w4 p B y2 f2) := hr
  have HW4 : Hid (Below W.heap.size W w4) := HW3.out.grown hg HW3.out.size (fun j hj => by cases hj; exact HP.out.1)
  clear hr hg
  have c1 : w4.cell? ⟨g, 1, none⟩ = some (.int .u64 0) := by rw [cell_of_row _ _ _ _ _ _ HU4.out]; rfl
  have z1 : w4.frozen? ⟨g, 1, none⟩ = false := by simp [World.frozen?, HU4.out]
  obtain ⟨x4, hx4⟩ : ∃ x : World, x = w4.setCell ⟨g, 1, none⟩ (.int .u64 (n2 : Nat)) := ⟨_, rfl⟩
  have HG4x : Hid (w4.grownBy x4 (some g)) := by unfold Hid; rw [hx4]; exact gset1 _ _ _ _
  have HU4x : Hid (UBx x4 g #[.int .i64 2, .int .u64 (n2 : Nat), .int .u64 0, .int .i64 0, .int .i64 0, .int .i64 0, .slice none 0 0, .int .i64 0, .slice none 0 0]) := by unfold Hid UBx; rw [hx4, heap_setCell_same w4 g 1 _ _ _ HU4.out]; rfl
  have HK4x : Hid (x4.heap[κ]? = some (.cells #[.int .i64 2, .func (.func 82) #[] #[], .func (.func 83) #[] #[], .func (.func 84) #[] #[]] 64 (0, 0))) := gr_box HG4x.out (by have := HS2.out; omega) HK4.out
  have HR4x : Hid (RS x4 p B y2 f2) := RS.grown HR4.out HG4x.out (.inr HPG.out)
  have HW4x : Hid (Below W.heap.size W x4) := HW4.out.grown HG4x.out HW4.out.size (fun j hj => by cases hj; have := HP.out; have := HPG.out; omega)
  go_wp2_with (go_at_call 39; refine Calls.mono (goodName_b _ b2 HQ2.out _) ?_; rintro er1 wq ⟨rfl, hq⟩; have hq := hq.symm; subst hq)
  rw [← hx4]
  clear hx4 c1 z1
  refine Calls.mono (must_t b2 _ HR4x.out) ?_
  rintro er1 w5 ⟨rfl, hr, hg⟩
  have HU5 : Hid (UBx w5 g #[.int .i64 2, .int .u64 (n2 : Nat), .int .u64 0, .int .i64 0, .int .i64 0, .int .i64 0, .slice none 0 0, .int .i64 0, .slice none 0 0]) := gr_box hg (by have := HPG.out; omega) HU4x.out
  have HK5 : Hid (w5.heap[κ]? = some (.cells #[.int .i64 2, .func (.func 82) #[] #[], .func (.func 83) #[] #[], .func (.func 84) #[] #[]] 64 (0, 0))) := gr_box hg (by have := HPG.out; have := HS2.out; omega) HK4x.out
  have HR5 : Hid (RS w5 p B y2 (mustF b2 f2)) := hr
  have HW5 : Hid (Below W.heap.size W w5) := HW4x.out.grown hg HW4x.out.size (fun j hj => by cases hj; exact HP.out.1)
  clear hr hg
  go_wp2_with fail
  refine Calls.mono (number_t (m := mxU) _ HR5.out HE3.out) ?_
  rintro er1 w6 ⟨rfl, hr, hg⟩
  have HU6 : Hid (UBx w6 g #[.int .i64 2, .int .u64 (n2 : Nat), .int .u64 0, .int .i64 0, .int .i64 0, .int .i64 0, .slice none 0 0, .int .i64 0, .slice none 0 0]) := gr_box hg (by have := HPG.out; omega) HU5.out
  have HK6 : Hid (w6.heap[κ]? = some (.cells #[.int .i64 2, .func (.func 82) #[] #[], .func (.func 83) #[] #[], .func (.func 84) #[] #[]] 64 (0, 0))) := gr_box hg (by have := HPG.out; have := HS2.out; omega) HK5.out
  have HR6 : Hid (RS w6 p B y3 f3) := hr
  have HW6 : Hid (Below W.heap.size W w6) := HW5.out.grown hg HW5.out.size (fun j hj => by cases hj; exact HP.out.1)
  clear hr hg
  have c2 : w6.cell? ⟨g, 2, none⟩ = some (.int .u64 0) := by rw [cell_of_row _ _ _ _ _ _ HU6.out]; rfl
  have z2 : w6.frozen? ⟨g, 2, none⟩ = false := by simp [World.frozen?, HU6.out]
  obtain ⟨x6, hx6⟩ : ∃ x : World, x = w6.setCell ⟨g, 2, none⟩ (.int .u64 (n3 : Nat)) := ⟨_, rfl⟩
  have HG6x : Hid (w6.grownBy x6 (some g)) := by unfold Hid; rw [hx6]; exact gset1 _ _ _ _
  have HU6x : Hid (UBx x6 g #[.int .i64 2, .int .u64 (n2 : Nat), .int .u64 (n3 : Nat), .int .i64 0, .int .i64 0, .int .i64 0, .slice none 0 0, .int .i64 0, .slice none 0 0]) := by unfold Hid UBx; rw [hx6, heap_setCell_same w6 g 2 _ _ _ HU6.out]; rfl
  have HK6x : Hid (x6.heap[κ]? = some (.cells #[.int .i64 2, .func (.func 82) #[] #[], .func (.func 83) #[] #[], .func (.func 84) #[] #[]] 64 (0, 0))) := gr_box HG6x.out (by have := HS2.out; omega) HK6.out
  have HR6x : Hid (RS x6 p B y3 f3) := RS.grown HR6.out HG6x.out (.inr HPG.out)
  have HW6x : Hid (Below W.heap.size W x6) := HW6.out.grown HG6x.out HW6.out.size (fun j hj => by cases hj; have := HP.out; have := HPG.out; omega)
  go_wp2_with (go_at_call 39; refine Calls.mono (goodName_b _ b3 HQ3.out _) ?_; rintro er1 wq ⟨rfl, hq⟩; have hq := hq.symm; subst hq)
  rw [← hx6]
  clear hx6 c2 z2
  refine Calls.mono (must_t b3 _ HR6x.out) ?_
  rintro er1 w7 ⟨rfl, hr, hg⟩
  have HU7 : Hid (UBx w7 g #[.int .i64 2, .int .u64 (n2 : Nat), .int .u64 (n3 : Nat), .int .i64 0, .int .i64 0, .int .i64 0, .slice none 0 0, .int .i64 0, .slice none 0 0]) := gr_box hg (by have := HPG.out; omega) HU6x.out
  have HK7 : Hid (w7.heap[κ]? = some (.cells #[.int .i64 2, .func (.func 82) #[] #[], .func (.func 83) #[] #[], .func (.func 84) #[] #[]] 64 (0, 0))) := gr_box hg (by have := HPG.out; have := HS2.out; omega) HK6x.out
  have HR7 : Hid (RS w7 p B y3 (mustF b3 f3)) := hr
  have HW7 : Hid (Below W.heap.size W w7) := HW6x.out.grown hg HW6x.out.size (fun j hj => by cases hj; exact HP.out.1)
  clear hr hg
  go_wp2_with fail
  refine Calls.mono (err_t _ HR7.out) ?_
  rintro er1 u ⟨rfl, hu⟩
  rw [hu]
  clear hu u
  have hfb : (mustF b3 f3 == 0) = false := by simpa using hf
  obtain ⟨F, hF⟩ : ∃ F, F = mustF b3 f3 := ⟨_, rfl⟩
  rw [← hF] at hf hfb HR7 ⊢
  have HFF : Hid (F = mustF b3 f3) := hF
  clear hF
  go_wp2_with (first
    | (refine wpList_load_g (by rfl) 26 _ rfl g 0 (by rfl) [.int .i64 2, .int .u64 (n2 : Nat), .int .u64 (n3 : Nat), .int .i64 0, .int .i64 0, .int .i64 0, .slice none 0 0, .int .i64 0, .slice none 0 0] _ (box_range HU7.out) Tryd.underlying26 rfl info_un ?_)
    | (refine wpList_store_mid rfl 26 _ _ rfl g 0 #[.int .i64 2, .int .u64 (n2 : Nat), .int .u64 (n3 : Nat), .int .i64 0, .int .i64 0, .int .i64 0, .slice none 0 0, .int .i64 0, .slice none 0 0] rfl rfl (box_there HU7.out rfl) (by kernel_rfl) (by simp [Value.oneCell']) ?_))
  (try simp only [Exit.inBlock, Exit.then])
  refine bodyPost_ret (results_cell_row Tryd.results35 _ _ g 26 #[.int .i64 2, .int .u64 (n2 : Nat), .int .u64 (n3 : Nat), .int .i64 0, .int .i64 0, .int .i64 0, .slice none 0 0, .int .i64 0, .slice none 0 0] (0, 0) _ rfl (box_set HU7.out rfl) Tryd.underlying26 rfl (by kernel_rfl)) rfl ?_
  have hfin := setCells_grown g [.int .i64 2, .int .u64 (n2 : Nat), .int .u64 (n3 : Nat), .int .i64 0, .int .i64 0, .int .i64 0, .slice none 0 0, .int .i64 0, .slice none 0 0] 0 w7
  rw [← HFF.out, ← HGS.out]
  exact ⟨none, 0, none, 0, rfl, World.ownsRow_nil _ _ _ _, OwnR.nil _ _, RS.grown HR7.out hfin (.inr HPG.out), HW7.out.grown hfin HW7.out.size (fun j hj => by cases hj; have := HP.out; have := HPG.out; omega)⟩
theorem read_3a {p B n1 n2 n3 : Nat} {ys y1 y2 y3 : List UInt8} {f f1 f2 f3 : Int} (b2 b3 : Bool) (W w : World) (h : RS w p B ys f) (hW : Below W.heap.size W w) (hpW : W.heap.size ≤ p)
    (e1 : nmS mxU (ys, f) = (3, y1, f1)) (e2 : nmS mxU (y1, mustF true f1) = (n2, y2, f2)) (hb2 : b2 = true ↔ nameOk (n2 : Int)) (e3 : nmS mxU (y2, mustF b2 f2) = (n3, y3, f3)) (hb3 : b3 = true ↔ nameOk (n3 : Int)) (hf : ¬ mustF b3 f3 = 0) :
    Calls Tryd.prog 35 #[.pointer (some ⟨p, 0, none⟩)] w fun er w' => RdOut W p B w.heap.size ⟨3, (n2 : Nat), (n3 : Nat), 0, 0, 0, [], 0, []⟩ y3 (mustF b3 f3) er w' := by
  have HP : Hid (W.heap.size ≤ p ∧ p < w.heap.size) := ⟨hpW, h.lt⟩
  have HE1 : Hid _ := e1
  have HE2 : Hid _ := e2
  have HE3 : Hid _ := e3
  have HQ2 : Hid _ := hb2
  have HQ3 : Hid _ := hb3
  have HR0 : Hid (RS w p B ys f) := h
  have HW0 : Hid (Below W.heap.size W w) := hW
  have HK : Hid (KindIs (3 : Int) kd3 true) := .inr (.inr (.inl ⟨rfl, rfl, rfl⟩))
  clear h hW hpW e1 e2 e3 hb2 hb3
  have hsf := fun (u : World) (a : Addr) (n : Nat) => run_store Tryd.prog u a (.func (.func n) #[] #[]) .plain rfl
  have hsn := fun (u : World) (a : Addr) => run_store Tryd.prog u a .nilFunc .plain rfl
  go_enter Tryd.func35, Tryd.ntmps35
  go_wp2_with fail
  refine Calls.mono (small_t _ (RS.below HR0.out (al (Below.refl _ _) _)) HE1.out) ?_
  rintro er1 w1 ⟨rfl, hr, hg⟩
  obtain ⟨g, hgs⟩ : ∃ g, g = w.heap.size := ⟨_, rfl⟩
  rw [← hgs]
  have HGS : Hid (g = w.heap.size) := hgs
  have HPG : Hid (p < g) := by unfold Hid; rw [hgs]; exact HP.out.2
  have HU1 : Hid (UBx w1 g #[.int .i64 0, .int .u64 0, .int .u64 0, .int .i64 0, .int .i64 0, .int .i64 0, .slice none 0 0, .int .i64 0, .slice none 0 0]) := by unfold Hid; rw [hgs]; exact gr_box hg (by have := HP.out; omega) (heap_alloc_new w _)
  have HR1 : Hid (RS w1 p B y1 f1) := hr
  have HW1 : Hid (Below W.heap.size W w1) := (HW0.out.alloc HW0.out.size _).grown hg (HW0.out.alloc HW0.out.size _).size (fun j hj => by cases hj; exact HP.out.1)
  clear hr hg hgs
  have c0 : w1.cell? ⟨g, 0, none⟩ = some (.int .i64 0) := by rw [cell_of_row _ _ _ _ _ _ HU1.out]; rfl
  have z0 : w1.frozen? ⟨g, 0, none⟩ = false := by simp [World.frozen?, HU1.out]
  obtain ⟨x1, hx1⟩ : ∃ x : World, x = w1.setCell ⟨g, 0, none⟩ (.int .i64 3) := ⟨_, rfl⟩
  have HG1x : Hid (w1.grownBy x1 (some g)) := by unfold Hid; rw [hx1]; exact gset1 _ _ _ _
  have HU1x : Hid (UBx x1 g #[.int .i64 3, .int .u64 0, .int .u64 0, .int .i64 0, .int .i64 0, .int .i64 0, .slice none 0 0, .int .i64 0, .slice none 0 0]) := by unfold Hid UBx; rw [hx1, heap_setCell_same w1 g 0 _ _ _ HU1.out]; rfl
  have HR1x : Hid (RS x1 p B y1 f1) := RS.grown HR1.out HG1x.out (.inr HPG.out)
  have HW1x : Hid (Below W.heap.size W x1) := HW1.out.grown HG1x.out HW1.out.size (fun j hj => by cases hj; have := HP.out; have := HPG.out; omega)
  go_wp2_with fail
  rw [← hx1]
  clear hx1 c0 z0
  refine Calls.mono (kindOf_t _ _ _ HK.out _) ?_
  rintro er1 w2 ⟨rfl, hb⟩
  have HU2 : Hid (UBx w2 g #[.int .i64 3, .int .u64 0, .int .u64 0, .int .i64 0, .int .i64 0, .int .i64 0, .slice none 0 0, .int .i64 0, .slice none 0 0]) := (hb.block g (Array.getElem?_eq_some_iff.1 HU1x.out).1).trans HU1x.out
  have HR2 : Hid (RS w2 p B y1 f1) := RS.below HR1x.out hb
  have HW2 : Hid (Below W.heap.size W w2) := below_next HW1x.out hb
  have HS2 : Hid (g < w2.heap.size) := (Array.getElem?_eq_some_iff.1 HU2.out).1
  clear hb
  go_wp2_with fail
  refine Calls.mono (must_t true _ (RS.below HR2.out (al (Below.refl _ _) _))) ?_
  rintro er1 w3 ⟨rfl, hr, hg⟩
  have HU3 : Hid (UBx w3 g #[.int .i64 3, .int .u64 0, .int .u64 0, .int .i64 0, .int .i64 0, .int .i64 0, .slice none 0 0, .int .i64 0, .slice none 0 0]) := gr_box hg (by have := HPG.out; omega) (((al (Below.refl _ _) _).block g HS2.out).trans HU2.out)
  have HK3 : Hid (w3.heap[w2.heap.size]? = some (.cells #[.int .i64 3, .func (.func 85) #[] #[], .func (.func 86) #[] #[], .func (.func 87) #[] #[]] 64 (0, 0))) := gr_box hg (by have := HPG.out; have := HS2.out; omega) (heap_alloc_new w2 _)
  have HR3 : Hid (RS w3 p B y1 (mustF true f1)) := hr
  have HW3 : Hid (Below W.heap.size W w3) := (HW2.out.alloc HW2.out.size _).grown hg (HW2.out.alloc HW2.out.size _).size (fun j hj => by cases hj; exact HP.out.1)
  clear hr hg
  obtain ⟨κ, hκ⟩ : ∃ κ, κ = w2.heap.size := ⟨_, rfl⟩
  rw [← hκ] at HK3 HS2 ⊢
  clear hκ
  go_wp2_with fail
  refine Calls.mono (number_t (m := mxU) _ HR3.out HE2.out) ?_
  rintro er1 w4 ⟨rfl, hr, hg⟩
  have HU4 : Hid (UBx w4 g #[.int .i64 3, .int .u64 0, .int .u64 0, .int .i64 0, .int .i64 0, .int .i64 0, .slice none 0 0, .int .i64 0, .slice none 0 0]) := gr_box hg (by have := HPG.out; omega) HU3.out
  have HK4 : Hid (w4.heap[κ]? = some (.cells #[.int .i64 3, .func (.func 85) #[] #[], .func (.func 86) #[] #[], .func (.func 87) #[] #[]] 64 (0, 0))) := gr_box hg (by have := HPG.out; have := HS2.out; omega) HK3.out
  have HR4 : Hid (RS w4 p B y2 f2) := hr
  have HW4 : Hid (Below W.heap.size W w4) := HW3.out.grown hg HW3.out.size (fun j hj => by cases hj; exact HP.out.1)
  clear hr hg
  have c1 : w4.cell? ⟨g, 1, none⟩ = some (.int .u64 0) := by rw [cell_of_row _ _ _ _ _ _ HU4.out]; rfl
  have z1 : w4.frozen? ⟨g, 1, none⟩ = false := by simp [World.frozen?, HU4.out]
  obtain ⟨x4, hx4⟩ : ∃ x : World, x = w4.setCell ⟨g, 1, none⟩ (.int .u64 (n2 : Nat)) := ⟨_, rfl⟩
  have HG4x : Hid (w4.grownBy x4 (some g)) := by unfold Hid; rw [hx4]; exact gset1 _ _ _ _
  have HU4x : Hid (UBx x4 g #[.int .i64 3, .int .u64 (n2 : Nat), .int .u64 0, .int .i64 0, .int .i64 0, .int .i64 0, .slice none 0 0, .int .i64 0, .slice none 0 0]) := by unfold Hid UBx; rw [hx4, heap_setCell_same w4 g 1 _ _ _ HU4.out]; rfl
  have HK4x : Hid (x4.heap[κ]? = some (.cells #[.int .i64 3, .func (.func 85) #[] #[], .func (.func 86) #[] #[], .func (.func 87) #[] #[]] 64 (0, 0))) := gr_box HG4x.out (by have := HS2.out; omega) HK4.out
  have HR4x : Hid (RS x4 p B y2 f2) := RS.grown HR4.out HG4x.out (.inr HPG.out)
  have HW4x : Hid (Below W.heap.size W x4) := HW4.out.grown HG4x.out HW4.out.size (fun j hj => by cases hj; have := HP.out; have := HPG.out; omega)
  go_wp2_with (go_at_call 39; refine Calls.mono (goodName_b _ b2 HQ2.out _) ?_; rintro er1 wq ⟨rfl, hq⟩; have hq := hq.symm; subst hq)
  rw [← hx4]
  clear hx4 c1 z1
  refine Calls.mono (must_t b2 _ HR4x.out) ?_
  rintro er1 w5 ⟨rfl, hr, hg⟩
  have HU5 : Hid (UBx w5 g #[.int .i64 3, .int .u64 (n2 : Nat), .int .u64 0, .int .i64 0, .int .i64 0, .int .i64 0, .slice none 0 0, .int .i64 0, .slice none 0 0]) := gr_box hg (by have := HPG.out; omega) HU4x.out
  have HK5 : Hid (w5.heap[κ]? = some (.cells #[.int .i64 3, .func (.func 85) #[] #[], .func (.func 86) #[] #[], .func (.func 87) #[] #[]] 64 (0, 0))) := gr_box hg (by have := HPG.out; have := HS2.out; omega) HK4x.out
  have HR5 : Hid (RS w5 p B y2 (mustF b2 f2)) := hr
  have HW5 : Hid (Below W.heap.size W w5) := HW4x.out.grown hg HW4x.out.size (fun j hj => by cases hj; exact HP.out.1)
  clear hr hg
  go_wp2_with fail
  refine Calls.mono (number_t (m := mxU) _ HR5.out HE3.out) ?_
  rintro er1 w6 ⟨rfl, hr, hg⟩
  have HU6 : Hid (UBx w6 g #[.int .i64 3, .int .u64 (n2 : Nat), .int .u64 0, .int .i64 0, .int .i64 0, .int .i64 0, .slice none 0 0, .int .i64 0, .slice none 0 0]) := gr_box hg (by have := HPG.out; omega) HU5.out
  have HK6 : Hid (w6.heap[κ]? = some (.cells #[.int .i64 3, .func (.func 85) #[] #[], .func (.func 86) #[] #[], .func (.func 87) #[] #[]] 64 (0, 0))) := gr_box hg (by have := HPG.out; have := HS2.out; omega) HK5.out
  have HR6 : Hid (RS w6 p B y3 f3) := hr
  have HW6 : Hid (Below W.heap.size W w6) := HW5.out.grown hg HW5.out.size (fun j hj => by cases hj; exact HP.out.1)
  clear hr hg
  have c2 : w6.cell? ⟨g, 2, none⟩ = some (.int .u64 0) := by rw [cell_of_row _ _ _ _ _ _ HU6.out]; rfl
  have z2 : w6.frozen? ⟨g, 2, none⟩ = false := by simp [World.frozen?, HU6.out]
  obtain ⟨x6, hx6⟩ : ∃ x : World, x = w6.setCell ⟨g, 2, none⟩ (.int .u64 (n3 : Nat)) := ⟨_, rfl⟩
  have HG6x : Hid (w6.grownBy x6 (some g)) := by unfold Hid; rw [hx6]; exact gset1 _ _ _ _
  have HU6x : Hid (UBx x6 g #[.int .i64 3, .int .u64 (n2 : Nat), .int .u64 (n3 : Nat), .int .i64 0, .int .i64 0, .int .i64 0, .slice none 0 0, .int .i64 0, .slice none 0 0]) := by unfold Hid UBx; rw [hx6, heap_setCell_same w6 g 2 _ _ _ HU6.out]; rfl
  have HK6x : Hid (x6.heap[κ]? = some (.cells #[.int .i64 3, .func (.func 85) #[] #[], .func (.func 86) #[] #[], .func (.func 87) #[] #[]] 64 (0, 0))) := gr_box HG6x.out (by have := HS2.out; omega) HK6.out
  have HR6x : Hid (RS x6 p B y3 f3) := RS.grown HR6.out HG6x.out (.inr HPG.out)
  have HW6x : Hid (Below W.heap.size W x6) := HW6.out.grown HG6x.out HW6.out.size (fun j hj => by cases hj; have := HP.out; have := HPG.out; omega)
  go_wp2_with (go_at_call 39; refine Calls.mono (goodName_b _ b3 HQ3.out _) ?_; rintro er1 wq ⟨rfl, hq⟩; have hq := hq.symm; subst hq)
  rw [← hx6]
  clear hx6 c2 z2
  refine Calls.mono (must_t b3 _ HR6x.out) ?_
  rintro er1 w7 ⟨rfl, hr, hg⟩
  have HU7 : Hid (UBx w7 g #[.int .i64 3, .int .u64 (n2 : Nat), .int .u64 (n3 : Nat), .int .i64 0, .int .i64 0, .int .i64 0, .slice none 0 0, .int .i64 0, .slice none 0 0]) := gr_box hg (by have := HPG.out; omega) HU6x.out
  have HK7 : Hid (w7.heap[κ]? = some (.cells #[.int .i64 3, .func (.func 85) #[] #[], .func (.func 86) #[] #[], .func (.func 87) #[] #[]] 64 (0, 0))) := gr_box hg (by have := HPG.out; have := HS2.out; omega) HK6x.out
  have HR7 : Hid (RS w7 p B y3 (mustF b3 f3)) := hr
  have HW7 : Hid (Below W.heap.size W w7) := HW6x.out.grown hg HW6x.out.size (fun j hj => by cases hj; exact HP.out.1)
  clear hr hg
  go_wp2_with fail
  refine Calls.mono (err_t _ HR7.out) ?_
  rintro er1 u ⟨rfl, hu⟩
  rw [hu]
  clear hu u
  have hfb : (mustF b3 f3 == 0) = false := by simpa using hf
  obtain ⟨F, hF⟩ : ∃ F, F = mustF b3 f3 := ⟨_, rfl⟩
  rw [← hF] at hf hfb HR7 ⊢
  have HFF : Hid (F = mustF b3 f3) := hF
  clear hF
  go_wp2_with (first
    | (refine wpList_load_g (by rfl) 26 _ rfl g 0 (by rfl) [.int .i64 3, .int .u64 (n2 : Nat), .int .u64 (n3 : Nat), .int .i64 0, .int .i64 0, .int .i64 0, .slice none 0 0, .int .i64 0, .slice none 0 0] _ (box_range HU7.out) Tryd.underlying26 rfl info_un ?_)
    | (refine wpList_store_mid rfl 26 _ _ rfl g 0 #[.int .i64 3, .int .u64 (n2 : Nat), .int .u64 (n3 : Nat), .int .i64 0, .int .i64 0, .int .i64 0, .slice none 0 0, .int .i64 0, .slice none 0 0] rfl rfl (box_there HU7.out rfl) (by kernel_rfl) (by simp [Value.oneCell']) ?_))
  (try simp only [Exit.inBlock, Exit.then])
  refine bodyPost_ret (results_cell_row Tryd.results35 _ _ g 26 #[.int .i64 3, .int .u64 (n2 : Nat), .int .u64 (n3 : Nat), .int .i64 0, .int .i64 0, .int .i64 0, .slice none 0 0, .int .i64 0, .slice none 0 0] (0, 0) _ rfl (box_set HU7.out rfl) Tryd.underlying26 rfl (by kernel_rfl)) rfl ?_
  have hfin := setCells_grown g [.int .i64 3, .int .u64 (n2 : Nat), .int .u64 (n3 : Nat), .int .i64 0, .int .i64 0, .int .i64 0, .slice none 0 0, .int .i64 0, .slice none 0 0] 0 w7
  rw [← HFF.out, ← HGS.out]
  exact ⟨none, 0, none, 0, rfl, World.ownsRow_nil _ _ _ _, OwnR.nil _ _, RS.grown HR7.out hfin (.inr HPG.out), HW7.out.grown hfin HW7.out.size (fun j hj => by cases hj; have := HP.out; have := HPG.out; omega)⟩
theorem read_1b {p B n1 n2 n3 : Nat} {ys y1 y2 y3 : List UInt8} {f f1 f2 f3 : Int} (b2 b3 : Bool) (W w : World) (h : RS w p B ys f) (hW : Below W.heap.size W w) (hpW : W.heap.size ≤ p)
    (e1 : nmS mxU (ys, f) = (1, y1, f1)) (e2 : nmS mxU (y1, mustF true f1) = (n2, y2, f2)) (hb2 : b2 = true ↔ nameOk (n2 : Int)) (e3 : nmS mxU (y2, mustF b2 f2) = (n3, y3, f3)) (hb3 : b3 = true ↔ nameOk (n3 : Int)) (hf : mustF b3 f3 = 0) {m1 m2 m3 : Nat} {v1 v2 v3 v4 d : List UInt8} {t1 t2 t3 t4 : Int} (q1 q2 q3 q4 : Bool) (E1 : nmS mxU (y3, 0) = (m1, v1, t1)) (hq1 : q1 = true ↔ ((m1 : Int) = 1 ∨ (m1 : Int) = 2)) (E2 : nmS mxU (v1, mustF q1 t1) = (m2, v2, t2)) (hq2 : q2 = true ↔ (0 ≤ (m2 : Int) ∧ (m2 : Int) < 64)) (E3 : nmS mxU (v2, mustF q2 t2) = (m3, v3, t3)) (hq3 : q3 = true ↔ ((m2 : Int) < (m3 : Int) ∧ (m3 : Int) ≤ 64)) (E4 : byS 1024 (v3, mustF q3 t3) = (d, v4, t4)) (hq4 : q4 = true ↔ (1 ≤ d.length ∧ d.length ≤ 1024)) :
    Calls Tryd.prog 35 #[.pointer (some ⟨p, 0, none⟩)] w fun er w' => RdOut W p B w.heap.size ⟨1, (n2 : Nat), (n3 : Nat), (m1 : Nat), (m2 : Nat), (m3 : Nat), d, 0, []⟩ v4 (mustF q4 t4) er w' := by
  have HP : Hid (W.heap.size ≤ p ∧ p < w.heap.size) := ⟨hpW, h.lt⟩
  have HE1 : Hid _ := e1
  have HE2 : Hid _ := e2
  have HE3 : Hid _ := e3
  have HQ2 : Hid _ := hb2
  have HQ3 : Hid _ := hb3
  have HR0 : Hid (RS w p B ys f) := h
  have HW0 : Hid (Below W.heap.size W w) := hW
  have HK : Hid (KindIs (1 : Int) kd1 true) := .inl ⟨rfl, rfl, rfl⟩
  have HD1 : Hid _ := E1
  have HD2 : Hid _ := E2
  have HD3 : Hid _ := E3
  have HD4 : Hid _ := E4
  have HT1 : Hid _ := hq1
  have HT2 : Hid _ := hq2
  have HT3 : Hid _ := hq3
  have HT4 : Hid _ := hq4
  clear E1 E2 E3 E4 hq1 hq2 hq3 hq4
  clear h hW hpW e1 e2 e3 hb2 hb3
  have hsf := fun (u : World) (a : Addr) (n : Nat) => run_store Tryd.prog u a (.func (.func n) #[] #[]) .plain rfl
  have hsn := fun (u : World) (a : Addr) => run_store Tryd.prog u a .nilFunc .plain rfl
  go_enter Tryd.func35, Tryd.ntmps35
  go_wp2_with fail
  refine Calls.mono (small_t _ (RS.below HR0.out (al (Below.refl _ _) _)) HE1.out) ?_
  rintro er1 w1 ⟨rfl, hr, hg⟩
  obtain ⟨g, hgs⟩ : ∃ g, g = w.heap.size := ⟨_, rfl⟩
  rw [← hgs]
  have HGS : Hid (g = w.heap.size) := hgs
  have HPG : Hid (p < g) := by unfold Hid; rw [hgs]; exact HP.out.2
  have HU1 : Hid (UBx w1 g #[.int .i64 0, .int .u64 0, .int .u64 0, .int .i64 0, .int .i64 0, .int .i64 0, .slice none 0 0, .int .i64 0, .slice none 0 0]) := by unfold Hid; rw [hgs]; exact gr_box hg (by have := HP.out; omega) (heap_alloc_new w _)
  have HR1 : Hid (RS w1 p B y1 f1) := hr
  have HW1 : Hid (Below W.heap.size W w1) := (HW0.out.alloc HW0.out.size _).grown hg (HW0.out.alloc HW0.out.size _).size (fun j hj => by cases hj; exact HP.out.1)
  clear hr hg hgs
  have c0 : w1.cell? ⟨g, 0, none⟩ = some (.int .i64 0) := by rw [cell_of_row _ _ _ _ _ _ HU1.out]; rfl
  have z0 : w1.frozen? ⟨g, 0, none⟩ = false := by simp [World.frozen?, HU1.out]
  obtain ⟨x1, hx1⟩ : ∃ x : World, x = w1.setCell ⟨g, 0, none⟩ (.int .i64 1) := ⟨_, rfl⟩
  have HG1x : Hid (w1.grownBy x1 (some g)) := by unfold Hid; rw [hx1]; exact gset1 _ _ _ _
  have HU1x : Hid (UBx x1 g #[.int .i64 1, .int .u64 0, .int .u64 0, .int .i64 0, .int .i64 0, .int .i64 0, .slice none 0 0, .int .i64 0, .slice none 0 0]) := by unfold Hid UBx; rw [hx1, heap_setCell_same w1 g 0 _ _ _ HU1.out]; rfl
  have HR1x : Hid (RS x1 p B y1 f1) := RS.grown HR1.out HG1x.out (.inr HPG.out)
  have HW1x : Hid (Below W.heap.size W x1) := HW1.out.grown HG1x.out HW1.out.size (fun j hj => by cases hj; have := HP.out; have := HPG.out; omega)
  go_wp2_with fail
  rw [← hx1]
  clear hx1 c0 z0
  refine Calls.mono (kindOf_t _ _ _ HK.out _) ?_
  rintro er1 w2 ⟨rfl, hb⟩
  have HU2 : Hid (UBx w2 g #[.int .i64 1, .int .u64 0, .int .u64 0, .int .i64 0, .int .i64 0, .int .i64 0, .slice none 0 0, .int .i64 0, .slice none 0 0]) := (hb.block g (Array.getElem?_eq_some_iff.1 HU1x.out).1).trans HU1x.out
  have HR2 : Hid (RS w2 p B y1 f1) := RS.below HR1x.out hb
  have HW2 : Hid (Below W.heap.size W w2) := below_next HW1x.out hb
  have HS2 : Hid (g < w2.heap.size) := (Array.getElem?_eq_some_iff.1 HU2.out).1
  clear hb
  go_wp2_with fail
  refine Calls.mono (must_t true _ (RS.below HR2.out (al (Below.refl _ _) _))) ?_
  rintro er1 w3 ⟨rfl, hr, hg⟩
  have HU3 : Hid (UBx w3 g #[.int .i64 1, .int .u64 0, .int .u64 0, .int .i64 0, .int .i64 0, .int .i64 0, .slice none 0 0, .int .i64 0, .slice none 0 0]) := gr_box hg (by have := HPG.out; omega) (((al (Below.refl _ _) _).block g HS2.out).trans HU2.out)
  have HK3 : Hid (w3.heap[w2.heap.size]? = some (.cells #[.int .i64 1, .func (.func 79) #[] #[], .func (.func 80) #[] #[], .func (.func 81) #[] #[]] 64 (0, 0))) := gr_box hg (by have := HPG.out; have := HS2.out; omega) (heap_alloc_new w2 _)
  have HR3 : Hid (RS w3 p B y1 (mustF true f1)) := hr
  have HW3 : Hid (Below W.heap.size W w3) := (HW2.out.alloc HW2.out.size _).grown hg (HW2.out.alloc HW2.out.size _).size (fun j hj => by cases hj; exact HP.out.1)
  clear hr hg
  obtain ⟨κ, hκ⟩ : ∃ κ, κ = w2.heap.size := ⟨_, rfl⟩
  rw [← hκ] at HK3 HS2 ⊢
  clear hκ
  go_wp2_with fail
  refine Calls.mono (number_t (m := mxU) _ HR3.out HE2.out) ?_
  rintro er1 w4 ⟨rfl, hr, hg⟩
  have HU4 : Hid (UBx w4 g #[.int .i64 1, .int .u64 0, .int .u64 0, .int .i64 0, .int .i64 0, .int .i64 0, .slice none 0 0, .int .i64 0, .slice none 0 0]) := gr_box hg (by have := HPG.out; omega) HU3.out
  have HK4 : Hid (w4.heap[κ]? = some (.cells #[.int .i64 1, .func (.func 79) #[] #[], .func (.func 80) #[] #[], .func (.func 81) #[] #[]] 64 (0, 0))) := gr_box hg (by have := HPG.out; have := HS2.out; omega) HK3.out
  have HR4 : Hid (RS w4 p B y2 f2) := hr
  have HW4 : Hid (Below W.heap.size W w4) := HW3.out.grown hg HW3.out.size (fun j hj => by cases hj; exact HP.out.1)
  clear hr hg
  have c1 : w4.cell? ⟨g, 1, none⟩ = some (.int .u64 0) := by rw [cell_of_row _ _ _ _ _ _ HU4.out]; rfl
  have z1 : w4.frozen? ⟨g, 1, none⟩ = false := by simp [World.frozen?, HU4.out]
  obtain ⟨x4, hx4⟩ : ∃ x : World, x = w4.setCell ⟨g, 1, none⟩ (.int .u64 (n2 : Nat)) := ⟨_, rfl⟩
  have HG4x : Hid (w4.grownBy x4 (some g)) := by unfold Hid; rw [hx4]; exact gset1 _ _ _ _
  have HU4x : Hid (UBx x4 g #[.int .i64 1, .int .u64 (n2 : Nat), .int .u64 0, .int .i64 0, .int .i64 0, .int .i64 0, .slice none 0 0, .int .i64 0, .slice none 0 0]) := by unfold Hid UBx; rw [hx4, heap_setCell_same w4 g 1 _ _ _ HU4.out]; rfl
  have HK4x : Hid (x4.heap[κ]? = some (.cells #[.int .i64 1, .func (.func 79) #[] #[], .func (.func 80) #[] #[], .func (.func 81) #[] #[]] 64 (0, 0))) := gr_box HG4x.out (by have := HS2.out; omega) HK4.out
  have HR4x : Hid (RS x4 p B y2 f2) := RS.grown HR4.out HG4x.out (.inr HPG.out)
  have HW4x : Hid (Below W.heap.size W x4) := HW4.out.grown HG4x.out HW4.out.size (fun j hj => by cases hj; have := HP.out; have := HPG.out; omega)
  go_wp2_with (go_at_call 39; refine Calls.mono (goodName_b _ b2 HQ2.out _) ?_; rintro er1 wq ⟨rfl, hq⟩; have hq := hq.symm; subst hq)
  rw [← hx4]
  clear hx4 c1 z1
  refine Calls.mono (must_t b2 _ HR4x.out) ?_
  rintro er1 w5 ⟨rfl, hr, hg⟩
  have HU5 : Hid (UBx w5 g #[.int .i64 1, .int .u64 (n2 : Nat), .int .u64 0, .int .i64 0, .int .i64 0, .int .i64 0, .slice none 0 0, .int .i64 0, .slice none 0 0]) := gr_box hg (by have := HPG.out; omega) HU4x.out
  have HK5 : Hid (w5.heap[κ]? = some (.cells #[.int .i64 1, .func (.func 79) #[] #[], .func (.func 80) #[] #[], .func (.func 81) #[] #[]] 64 (0, 0))) := gr_box hg (by have := HPG.out; have := HS2.out; omega) HK4x.out
  have HR5 : Hid (RS w5 p B y2 (mustF b2 f2)) := hr
  have HW5 : Hid (Below W.heap.size W w5) := HW4x.out.grown hg HW4x.out.size (fun j hj => by cases hj; exact HP.out.1)
  clear hr hg
  go_wp2_with fail
  refine Calls.mono (number_t (m := mxU) _ HR5.out HE3.out) ?_
  rintro er1 w6 ⟨rfl, hr, hg⟩
  have HU6 : Hid (UBx w6 g #[.int .i64 1, .int .u64 (n2 : Nat), .int .u64 0, .int .i64 0, .int .i64 0, .int .i64 0, .slice none 0 0, .int .i64 0, .slice none 0 0]) := gr_box hg (by have := HPG.out; omega) HU5.out
  have HK6 : Hid (w6.heap[κ]? = some (.cells #[.int .i64 1, .func (.func 79) #[] #[], .func (.func 80) #[] #[], .func (.func 81) #[] #[]] 64 (0, 0))) := gr_box hg (by have := HPG.out; have := HS2.out; omega) HK5.out
  have HR6 : Hid (RS w6 p B y3 f3) := hr
  have HW6 : Hid (Below W.heap.size W w6) := HW5.out.grown hg HW5.out.size (fun j hj => by cases hj; exact HP.out.1)
  clear hr hg
  have c2 : w6.cell? ⟨g, 2, none⟩ = some (.int .u64 0) := by rw [cell_of_row _ _ _ _ _ _ HU6.out]; rfl
  have z2 : w6.frozen? ⟨g, 2, none⟩ = false := by simp [World.frozen?, HU6.out]
  obtain ⟨x6, hx6⟩ : ∃ x : World, x = w6.setCell ⟨g, 2, none⟩ (.int .u64 (n3 : Nat)) := ⟨_, rfl⟩
  have HG6x : Hid (w6.grownBy x6 (some g)) := by unfold Hid; rw [hx6]; exact gset1 _ _ _ _
  have HU6x : Hid (UBx x6 g #[.int .i64 1, .int .u64 (n2 : Nat), .int .u64 (n3 : Nat), .int .i64 0, .int .i64 0, .int .i64 0, .slice none 0 0, .int .i64 0, .slice none 0 0]) := by unfold Hid UBx; rw [hx6, heap_setCell_same w6 g 2 _ _ _ HU6.out]; rfl
  have HK6x : Hid (x6.heap[κ]? = some (.cells #[.int .i64 1, .func (.func 79) #[] #[], .func (.func 80) #[] #[], .func (.func 81) #[] #[]] 64 (0, 0))) := gr_box HG6x.out (by have := HS2.out; omega) HK6.out
  have HR6x : Hid (RS x6 p B y3 f3) := RS.grown HR6.out HG6x.out (.inr HPG.out)
  have HW6x : Hid (Below W.heap.size W x6) := HW6.out.grown HG6x.out HW6.out.size (fun j hj => by cases hj; have := HP.out; have := HPG.out; omega)
  go_wp2_with (go_at_call 39; refine Calls.mono (goodName_b _ b3 HQ3.out _) ?_; rintro er1 wq ⟨rfl, hq⟩; have hq := hq.symm; subst hq)
  rw [← hx6]
  clear hx6 c2 z2
  refine Calls.mono (must_t b3 _ HR6x.out) ?_
  rintro er1 w7 ⟨rfl, hr, hg⟩
  have HU7 : Hid (UBx w7 g #[.int .i64 1, .int .u64 (n2 : Nat), .int .u64 (n3 : Nat), .int .i64 0, .int .i64 0, .int .i64 0, .slice none 0 0, .int .i64 0, .slice none 0 0]) := gr_box hg (by have := HPG.out; omega) HU6x.out
  have HK7 : Hid (w7.heap[κ]? = some (.cells #[.int .i64 1, .func (.func 79) #[] #[], .func (.func 80) #[] #[], .func (.func 81) #[] #[]] 64 (0, 0))) := gr_box hg (by have := HPG.out; have := HS2.out; omega) HK6x.out
  have HR7 : Hid (RS w7 p B y3 (mustF b3 f3)) := hr
  have HW7 : Hid (Below W.heap.size W w7) := HW6x.out.grown hg HW6x.out.size (fun j hj => by cases hj; exact HP.out.1)
  clear hr hg
  go_wp2_with fail
  refine Calls.mono (err_t _ HR7.out) ?_
  rintro er1 u ⟨rfl, hu⟩
  rw [hu]
  clear hu u
  have hfb : (mustF b3 f3 == 0) = true := by simpa using hf
  obtain ⟨F, hF⟩ : ∃ F, F = mustF b3 f3 := ⟨_, rfl⟩
  rw [← hF] at hf hfb HR7 ⊢
  clear hF
  subst hf
  have hkf : w7.cell? ⟨κ, 3, none⟩ = some (.func (.func 81) #[] #[]) := by rw [cell_of_row _ _ _ _ _ _ HK7.out]; rfl
  go_wp2_with fail
  clear hkf
  refine Calls.mono (readData_t q1 q2 q3 q4 g 1 (n2 : Nat) (n3 : Nat) _ _ _ _ _ _ W w7 HR7.out HW7.out HP.out.1 HPG.out HU7.out HD1.out HT1.out HD2.out HT2.out HD3.out HT3.out HD4.out HT4.out) ?_
  rintro er1 w8 ⟨a8, c8, rfl, hr8, hu8, ho8, hw8⟩
  obtain ⟨D, hD⟩ : ∃ D, D = d.length := ⟨_, rfl⟩
  have HU8 : Hid (UBx w8 g #[.int .i64 1, .int .u64 (n2 : Nat), .int .u64 (n3 : Nat), .int .i64 (m1 : Nat), .int .i64 (m2 : Nat), .int .i64 (m3 : Nat), .slice a8 D c8, .int .i64 0, .slice none 0 0]) := by unfold Hid; rw [hD]; exact hu8
  have HR8 : Hid (RS w8 p B v4 (mustF q4 t4)) := hr8
  have HO8 : Hid (Own w8 (g + 1) (.slice a8 d.length c8) d) := ho8
  have HW8 : Hid (Below W.heap.size W w8) := hw8
  have HDD : Hid (D = d.length) := hD
  clear hr8 hu8 ho8 hw8 hD
  go_wp2_with (first
    | (refine wpList_load_g (by rfl) 26 _ rfl g 0 (by rfl) [.int .i64 1, .int .u64 (n2 : Nat), .int .u64 (n3 : Nat), .int .i64 (m1 : Nat), .int .i64 (m2 : Nat), .int .i64 (m3 : Nat), .slice a8 D c8, .int .i64 0, .slice none 0 0] _ (box_range HU8.out) Tryd.underlying26 rfl info_un ?_)
    | (refine wpList_store_mid rfl 26 _ _ rfl g 0 #[.int .i64 1, .int .u64 (n2 : Nat), .int .u64 (n3 : Nat), .int .i64 (m1 : Nat), .int .i64 (m2 : Nat), .int .i64 (m3 : Nat), .slice a8 D c8, .int .i64 0, .slice none 0 0] rfl rfl (box_there HU8.out rfl) (by kernel_rfl) (by simp [Value.oneCell']) ?_))
  (try simp only [Exit.inBlock, Exit.then])
  refine bodyPost_ret (results_cell_row Tryd.results35 _ _ g 26 #[.int .i64 1, .int .u64 (n2 : Nat), .int .u64 (n3 : Nat), .int .i64 (m1 : Nat), .int .i64 (m2 : Nat), .int .i64 (m3 : Nat), .slice a8 D c8, .int .i64 0, .slice none 0 0] (0, 0) _ rfl (box_set HU8.out rfl) Tryd.underlying26 rfl (by kernel_rfl)) rfl ?_
  have hfin := setCells_grown g [.int .i64 1, .int .u64 (n2 : Nat), .int .u64 (n3 : Nat), .int .i64 (m1 : Nat), .int .i64 (m2 : Nat), .int .i64 (m3 : Nat), .slice a8 D c8, .int .i64 0, .slice none 0 0] 0 w8
  rw [← HGS.out]
  exact ⟨a8, c8, none, 0, by rw [HDD.out]; rfl, own_lo HO8.out hfin (Nat.lt_succ_self _), OwnR.nil _ _, RS.grown HR8.out hfin (.inr HPG.out), HW8.out.grown hfin HW8.out.size (fun j hj => by cases hj; have := HP.out; have := HPG.out; omega)⟩
theorem read_2b {p B n1 n2 n3 : Nat} {ys y1 y2 y3 : List UInt8} {f f1 f2 f3 : Int} (b2 b3 : Bool) (W w : World) (h : RS w p B ys f) (hW : Below W.heap.size W w) (hpW : W.heap.size ≤ p)
    (e1 : nmS mxU (ys, f) = (2, y1, f1)) (e2 : nmS mxU (y1, mustF true f1) = (n2, y2, f2)) (hb2 : b2 = true ↔ nameOk (n2 : Int)) (e3 : nmS mxU (y2, mustF b2 f2) = (n3, y3, f3)) (hb3 : b3 = true ↔ nameOk (n3 : Int)) (hf : mustF b3 f3 = 0) {m1 : Nat} {v1 : List UInt8} {t1 : Int} (q1 : Bool) (E1 : nmS mxU (y3, 0) = (m1, v1, t1)) (hq1 : q1 = true ↔ (0 ≤ (m1 : Int) ∧ (m1 : Int) ≤ 7)) (hm : ¬ m1 = 0) :
    Calls Tryd.prog 35 #[.pointer (some ⟨p, 0, none⟩)] w fun er w' => RdOut W p B w.heap.size ⟨2, (n2 : Nat), (n3 : Nat), 0, 0, 0, [], (m1 : Nat), []⟩ v1 (mustF q1 t1) er w' := by
  have HP : Hid (W.heap.size ≤ p ∧ p < w.heap.size) := ⟨hpW, h.lt⟩
  have HE1 : Hid _ := e1
  have HE2 : Hid _ := e2
  have HE3 : Hid _ := e3
  have HQ2 : Hid _ := hb2
  have HQ3 : Hid _ := hb3
  have HR0 : Hid (RS w p B ys f) := h
  have HW0 : Hid (Below W.heap.size W w) := hW
  have HK : Hid (KindIs (2 : Int) kd2 true) := .inr (.inl ⟨rfl, rfl, rfl⟩)
  have HD1 : Hid _ := E1
  have HT1 : Hid _ := hq1
  have HM : Hid _ := hm
  clear E1 hq1 hm
  clear h hW hpW e1 e2 e3 hb2 hb3
  have hsf := fun (u : World) (a : Addr) (n : Nat) => run_store Tryd.prog u a (.func (.func n) #[] #[]) .plain rfl
  have hsn := fun (u : World) (a : Addr) => run_store Tryd.prog u a .nilFunc .plain rfl
  go_enter Tryd.func35, Tryd.ntmps35
  go_wp2_with fail
  refine Calls.mono (small_t _ (RS.below HR0.out (al (Below.refl _ _) _)) HE1.out) ?_
  rintro er1 w1 ⟨rfl, hr, hg⟩
  obtain ⟨g, hgs⟩ : ∃ g, g = w.heap.size := ⟨_, rfl⟩
  rw [← hgs]
  have HGS : Hid (g = w.heap.size) := hgs
  have HPG : Hid (p < g) := by unfold Hid; rw [hgs]; exact HP.out.2
  have HU1 : Hid (UBx w1 g #[.int .i64 0, .int .u64 0, .int .u64 0, .int .i64 0, .int .i64 0, .int .i64 0, .slice none 0 0, .int .i64 0, .slice none 0 0]) := by unfold Hid; rw [hgs]; exact gr_box hg (by have := HP.out; omega) (heap_alloc_new w _)
  have HR1 : Hid (RS w1 p B y1 f1) := hr
  have HW1 : Hid (Below W.heap.size W w1) := (HW0.out.alloc HW0.out.size _).grown hg (HW0.out.alloc HW0.out.size _).size (fun j hj => by cases hj; exact HP.out.1)
  clear hr hg hgs
  have c0 : w1.cell? ⟨g, 0, none⟩ = some (.int .i64 0) := by rw [cell_of_row _ _ _ _ _ _ HU1.out]; rfl
  have z0 : w1.frozen? ⟨g, 0, none⟩ = false := by simp [World.frozen?, HU1.out]
  obtain ⟨x1, hx1⟩ : ∃ x : World, x = w1.setCell ⟨g, 0, none⟩ (.int .i64 2) := ⟨_, rfl⟩
  have HG1x : Hid (w1.grownBy x1 (some g)) := by unfold Hid; rw [hx1]; exact gset1 _ _ _ _
  have HU1x : Hid (UBx x1 g #[.int .i64 2, .int .u64 0, .int .u64 0, .int .i64 0, .int .i64 0, .int .i64 0, .slice none 0 0, .int .i64 0, .slice none 0 0]) := by unfold Hid UBx; rw [hx1, heap_setCell_same w1 g 0 _ _ _ HU1.out]; rfl
  have HR1x : Hid (RS x1 p B y1 f1) := RS.grown HR1.out HG1x.out (.inr HPG.out)
  have HW1x : Hid (Below W.heap.size W x1) := HW1.out.grown HG1x.out HW1.out.size (fun j hj => by cases hj; have := HP.out; have := HPG.out; omega)
  go_wp2_with fail
  rw [← hx1]
  clear hx1 c0 z0
  refine Calls.mono (kindOf_t _ _ _ HK.out _) ?_
  rintro er1 w2 ⟨rfl, hb⟩
  have HU2 : Hid (UBx w2 g #[.int .i64 2, .int .u64 0, .int .u64 0, .int .i64 0, .int .i64 0, .int .i64 0, .slice none 0 0, .int .i64 0, .slice none 0 0]) := (hb.block g (Array.getElem?_eq_some_iff.1 HU1x.out).1).trans HU1x.out
  have HR2 : Hid (RS w2 p B y1 f1) := RS.below HR1x.out hb
  have HW2 : Hid (Below W.heap.size W w2) := below_next HW1x.out hb
  have HS2 : Hid (g < w2.heap.size) := (Array.getElem?_eq_some_iff.1 HU2.out).1
  clear hb
  go_wp2_with fail
  refine Calls.mono (must_t true _ (RS.below HR2.out (al (Below.refl _ _) _))) ?_
  rintro er1 w3 ⟨rfl, hr, hg⟩
  have HU3 : Hid (UBx w3 g #[.int .i64 2, .int .u64 0, .int .u64 0, .int .i64 0, .int .i64 0, .int .i64 0, .slice none 0 0, .int .i64 0, .slice none 0 0]) := gr_box hg (by have := HPG.out; omega) (((al (Below.refl _ _) _).block g HS2.out).trans HU2.out)
  have HK3 : Hid (w3.heap[w2.heap.size]? = some (.cells #[.int .i64 2, .func (.func 82) #[] #[], .func (.func 83) #[] #[], .func (.func 84) #[] #[]] 64 (0, 0))) := gr_box hg (by have := HPG.out; have := HS2.out; omega) (heap_alloc_new w2 _)
  have HR3 : Hid (RS w3 p B y1 (mustF true f1)) := hr
  have HW3 : Hid (Below W.heap.size W w3) := (HW2.out.alloc HW2.out.size _).grown hg (HW2.out.alloc HW2.out.size _).size (fun j hj => by cases hj; exact HP.out.1)
  clear hr hg
  obtain ⟨κ, hκ⟩ : ∃ κ, κ = w2.heap.size := ⟨_, rfl⟩
  rw [← hκ] at HK3 HS2 ⊢
  clear hκ
  go_wp2_with fail
  refine Calls.mono (number_t (m := mxU) _ HR3.out HE2.out) ?_
  rintro er1 w4 ⟨rfl, hr, hg⟩
  have HU4 : Hid (UBx w4 g #[.int .i64 2, .int .u64 0, .int .u64 0, .int .i64 0, .int .i64 0, .int .i64 0, .slice none 0 0, .int .i64 0, .slice none 0 0]) := gr_box hg (by have := HPG.out; omega) HU3.out
  have HK4 : Hid (w4.heap[κ]? = some (.cells #[.int .i64 2, .func (.func 82) #[] #[], .func (.func 83) #[] #[], .func (.func 84) #[] #[]] 64 (0, 0))) := gr_box hg (by have := HPG.out; have := HS2.out; omega) HK3.out
  have HR4 : Hid (RS w4 p B y2 f2) := hr
  have HW4 : Hid (Below W.heap.size W w4) := HW3.out.grown hg HW3.out.size (fun j hj => by cases hj; exact HP.out.1)
  clear hr hg
  have c1 : w4.cell? ⟨g, 1, none⟩ = some (.int .u64 0) := by rw [cell_of_row _ _ _ _ _ _ HU4.out]; rfl
  have z1 : w4.frozen? ⟨g, 1, none⟩ = false := by simp [World.frozen?, HU4.out]
  obtain ⟨x4, hx4⟩ : ∃ x : World, x = w4.setCell ⟨g, 1, none⟩ (.int .u64 (n2 : Nat)) := ⟨_, rfl⟩
  have HG4x : Hid (w4.grownBy x4 (some g)) := by unfold Hid; rw [hx4]; exact gset1 _ _ _ _
  have HU4x : Hid (UBx x4 g #[.int .i64 2, .int .u64 (n2 : Nat), .int .u64 0, .int .i64 0, .int .i64 0, .int .i64 0, .slice none 0 0, .int .i64 0, .slice none 0 0]) := by unfold Hid UBx; rw [hx4, heap_setCell_same w4 g 1 _ _ _ HU4.out]; rfl
  have HK4x : Hid (x4.heap[κ]? = some (.cells #[.int .i64 2, .func (.func 82) #[] #[], .func (.func 83) #[] #[], .func (.func 84) #[] #[]] 64 (0, 0))) := gr_box HG4x.out (by have := HS2.out; omega) HK4.out
  have HR4x : Hid (RS x4 p B y2 f2) := RS.grown HR4.out HG4x.out (.inr HPG.out)
  have HW4x : Hid (Below W.heap.size W x4) := HW4.out.grown HG4x.out HW4.out.size (fun j hj => by cases hj; have := HP.out; have := HPG.out; omega)
  go_wp2_with (go_at_call 39; refine Calls.mono (goodName_b _ b2 HQ2.out _) ?_; rintro er1 wq ⟨rfl, hq⟩; have hq := hq.symm; subst hq)
  rw [← hx4]
  clear hx4 c1 z1
  refine Calls.mono (must_t b2 _ HR4x.out) ?_
  rintro er1 w5 ⟨rfl, hr, hg⟩
  have HU5 : Hid (UBx w5 g #[.int .i64 2, .int .u64 (n2 : Nat), .int .u64 0, .int .i64 0, .int .i64 0, .int .i64 0, .slice none 0 0, .int .i64 0, .slice none 0 0]) := gr_box hg (by have := HPG.out; omega) HU4x.out
  have HK5 : Hid (w5.heap[κ]? = some (.cells #[.int .i64 2, .func (.func 82) #[] #[], .func (.func 83) #[] #[], .func (.func 84) #[] #[]] 64 (0, 0))) := gr_box hg (by have := HPG.out; have := HS2.out; omega) HK4x.out
  have HR5 : Hid (RS w5 p B y2 (mustF b2 f2)) := hr
  have HW5 : Hid (Below W.heap.size W w5) := HW4x.out.grown hg HW4x.out.size (fun j hj => by cases hj; exact HP.out.1)
  clear hr hg
  go_wp2_with fail
  refine Calls.mono (number_t (m := mxU) _ HR5.out HE3.out) ?_
  rintro er1 w6 ⟨rfl, hr, hg⟩
  have HU6 : Hid (UBx w6 g #[.int .i64 2, .int .u64 (n2 : Nat), .int .u64 0, .int .i64 0, .int .i64 0, .int .i64 0, .slice none 0 0, .int .i64 0, .slice none 0 0]) := gr_box hg (by have := HPG.out; omega) HU5.out
  have HK6 : Hid (w6.heap[κ]? = some (.cells #[.int .i64 2, .func (.func 82) #[] #[], .func (.func 83) #[] #[], .func (.func 84) #[] #[]] 64 (0, 0))) := gr_box hg (by have := HPG.out; have := HS2.out; omega) HK5.out
  have HR6 : Hid (RS w6 p B y3 f3) := hr
  have HW6 : Hid (Below W.heap.size W w6) := HW5.out.grown hg HW5.out.size (fun j hj => by cases hj; exact HP.out.1)
  clear hr hg
  have c2 : w6.cell? ⟨g, 2, none⟩ = some (.int .u64 0) := by rw [cell_of_row _ _ _ _ _ _ HU6.out]; rfl
  have z2 : w6.frozen? ⟨g, 2, none⟩ = false := by simp [World.frozen?, HU6.out]
  obtain ⟨x6, hx6⟩ : ∃ x : World, x = w6.setCell ⟨g, 2, none⟩ (.int .u64 (n3 : Nat)) := ⟨_, rfl⟩
  have HG6x : Hid (w6.grownBy x6 (some g)) := by unfold Hid; rw [hx6]; exact gset1 _ _ _ _
  have HU6x : Hid (UBx x6 g #[.int .i64 2, .int .u64 (n2 : Nat), .int .u64 (n3 : Nat), .int .i64 0, .int .i64 0, .int .i64 0, .slice none 0 0, .int .i64 0, .slice none 0 0]) := by unfold Hid UBx; rw [hx6, heap_setCell_same w6 g 2 _ _ _ HU6.out]; rfl
  have HK6x : Hid (x6.heap[κ]? = some (.cells #[.int .i64 2, .func (.func 82) #[] #[], .func (.func 83) #[] #[], .func (.func 84) #[] #[]] 64 (0, 0))) := gr_box HG6x.out (by have := HS2.out; omega) HK6.out
  have HR6x : Hid (RS x6 p B y3 f3) := RS.grown HR6.out HG6x.out (.inr HPG.out)
  have HW6x : Hid (Below W.heap.size W x6) := HW6.out.grown HG6x.out HW6.out.size (fun j hj => by cases hj; have := HP.out; have := HPG.out; omega)
  go_wp2_with (go_at_call 39; refine Calls.mono (goodName_b _ b3 HQ3.out _) ?_; rintro er1 wq ⟨rfl, hq⟩; have hq := hq.symm; subst hq)
  rw [← hx6]
  clear hx6 c2 z2
  refine Calls.mono (must_t b3 _ HR6x.out) ?_
  rintro er1 w7 ⟨rfl, hr, hg⟩
  have HU7 : Hid (UBx w7 g #[.int .i64 2, .int .u64 (n2 : Nat), .int .u64 (n3 : Nat), .int .i64 0, .int .i64 0, .int .i64 0, .slice none 0 0, .int .i64 0, .slice none 0 0]) := gr_box hg (by have := HPG.out; omega) HU6x.out
  have HK7 : Hid (w7.heap[κ]? = some (.cells #[.int .i64 2, .func (.func 82) #[] #[], .func (.func 83) #[] #[], .func (.func 84) #[] #[]] 64 (0, 0))) := gr_box hg (by have := HPG.out; have := HS2.out; omega) HK6x.out
  have HR7 : Hid (RS w7 p B y3 (mustF b3 f3)) := hr
  have HW7 : Hid (Below W.heap.size W w7) := HW6x.out.grown hg HW6x.out.size (fun j hj => by cases hj; exact HP.out.1)
  clear hr hg
  go_wp2_with fail
  refine Calls.mono (err_t _ HR7.out) ?_
  rintro er1 u ⟨rfl, hu⟩
  rw [hu]
  clear hu u
  have hfb : (mustF b3 f3 == 0) = true := by simpa using hf
  obtain ⟨F, hF⟩ : ∃ F, F = mustF b3 f3 := ⟨_, rfl⟩
  rw [← hF] at hf hfb HR7 ⊢
  clear hF
  subst hf
  have hkf : w7.cell? ⟨κ, 3, none⟩ = some (.func (.func 84) #[] #[]) := by rw [cell_of_row _ _ _ _ _ _ HK7.out]; rfl
  go_wp2_with fail
  clear hkf
  refine Calls.mono (readReport_a q1 g 2 (n2 : Nat) (n3 : Nat) _ _ _ _ _ _ W w7 HR7.out HW7.out HP.out.1 HPG.out HU7.out HD1.out HT1.out HM.out) ?_
  rintro er1 w8 ⟨rfl, hr8, hu8, hw8⟩
  have HU8 : Hid (UBx w8 g #[.int .i64 2, .int .u64 (n2 : Nat), .int .u64 (n3 : Nat), .int .i64 0, .int .i64 0, .int .i64 0, .slice none 0 0, .int .i64 (m1 : Nat), .slice none 0 0]) := hu8
  have HR8 : Hid (RS w8 p B v1 (mustF q1 t1)) := hr8
  have HW8 : Hid (Below W.heap.size W w8) := hw8
  clear hr8 hu8 hw8
  go_wp2_with (first
    | (refine wpList_load_g (by rfl) 26 _ rfl g 0 (by rfl) [.int .i64 2, .int .u64 (n2 : Nat), .int .u64 (n3 : Nat), .int .i64 0, .int .i64 0, .int .i64 0, .slice none 0 0, .int .i64 (m1 : Nat), .slice none 0 0] _ (box_range HU8.out) Tryd.underlying26 rfl info_un ?_)
    | (refine wpList_store_mid rfl 26 _ _ rfl g 0 #[.int .i64 2, .int .u64 (n2 : Nat), .int .u64 (n3 : Nat), .int .i64 0, .int .i64 0, .int .i64 0, .slice none 0 0, .int .i64 (m1 : Nat), .slice none 0 0] rfl rfl (box_there HU8.out rfl) (by kernel_rfl) (by simp [Value.oneCell']) ?_))
  (try simp only [Exit.inBlock, Exit.then])
  refine bodyPost_ret (results_cell_row Tryd.results35 _ _ g 26 #[.int .i64 2, .int .u64 (n2 : Nat), .int .u64 (n3 : Nat), .int .i64 0, .int .i64 0, .int .i64 0, .slice none 0 0, .int .i64 (m1 : Nat), .slice none 0 0] (0, 0) _ rfl (box_set HU8.out rfl) Tryd.underlying26 rfl (by kernel_rfl)) rfl ?_
  have hfin := setCells_grown g [.int .i64 2, .int .u64 (n2 : Nat), .int .u64 (n3 : Nat), .int .i64 0, .int .i64 0, .int .i64 0, .slice none 0 0, .int .i64 (m1 : Nat), .slice none 0 0] 0 w8
  rw [← HGS.out]
  exact ⟨none, 0, none, 0, rfl, World.ownsRow_nil _ _ _ _, OwnR.nil _ _, RS.grown HR8.out hfin (.inr HPG.out), HW8.out.grown hfin HW8.out.size (fun j hj => by cases hj; have := HP.out; have := HPG.out; omega)⟩
theorem read_2c {p B n1 n2 n3 : Nat} {ys y1 y2 y3 : List UInt8} {f f1 f2 f3 : Int} (b2 b3 : Bool) (W w : World) (h : RS w p B ys f) (hW : Below W.heap.size W w) (hpW : W.heap.size ≤ p)
    (e1 : nmS mxU (ys, f) = (2, y1, f1)) (e2 : nmS mxU (y1, mustF true f1) = (n2, y2, f2)) (hb2 : b2 = true ↔ nameOk (n2 : Int)) (e3 : nmS mxU (y2, mustF b2 f2) = (n3, y3, f3)) (hb3 : b3 = true ↔ nameOk (n3 : Int)) (hf : mustF b3 f3 = 0) {m2 : Nat} {v1 v2 v3 : List UInt8} {t1 t2 t3 : Int} {L : List Rg} (q1 q2 : Bool) (E1 : nmS mxU (y3, 0) = (0, v1, t1)) (hq1 : q1 = true ↔ (0 ≤ ((0 : Nat) : Int) ∧ ((0 : Nat) : Int) ≤ 7)) (E2 : nmS mxU (v1, mustF q1 t1) = (m2, v2, t2)) (hq2 : q2 = true ↔ m2 ≤ 32) (E3 : rgsS m2 [] (v2, mustF q2 t2) = (L, v3, t3)) :
    Calls Tryd.prog 35 #[.pointer (some ⟨p, 0, none⟩)] w fun er w' => RdOut W p B w.heap.size ⟨2, (n2 : Nat), (n3 : Nat), 0, 0, 0, [], 0, L⟩ v3 t3 er w' := by
  have HP : Hid (W.heap.size ≤ p ∧ p < w.heap.size) := ⟨hpW, h.lt⟩
  have HE1 : Hid _ := e1
  have HE2 : Hid _ := e2
  have HE3 : Hid _ := e3
  have HQ2 : Hid _ := hb2
  have HQ3 : Hid _ := hb3
  have HR0 : Hid (RS w p B ys f) := h
  have HW0 : Hid (Below W.heap.size W w) := hW
  have HK : Hid (KindIs (2 : Int) kd2 true) := .inr (.inl ⟨rfl, rfl, rfl⟩)
  have HD1 : Hid _ := E1
  have HD2 : Hid _ := E2
  have HD3 : Hid _ := E3
  have HT1 : Hid _ := hq1
  have HT2 : Hid _ := hq2
  clear E1 E2 E3 hq1 hq2
  clear h hW hpW e1 e2 e3 hb2 hb3
  have hsf := fun (u : World) (a : Addr) (n : Nat) => run_store Tryd.prog u a (.func (.func n) #[] #[]) .plain rfl
  have hsn := fun (u : World) (a : Addr) => run_store Tryd.prog u a .nilFunc .plain rfl
  go_enter Tryd.func35, Tryd.ntmps35
  go_wp2_with fail
  refine Calls.mono (small_t _ (RS.below HR0.out (al (Below.refl _ _) _)) HE1.out) ?_
  rintro er1 w1 ⟨rfl, hr, hg⟩
  obtain ⟨g, hgs⟩ : ∃ g, g = w.heap.size := ⟨_, rfl⟩
  rw [← hgs]
  have HGS : Hid (g = w.heap.size) := hgs
  have HPG : Hid (p < g) := by unfold Hid; rw [hgs]; exact HP.out.2
  have HU1 : Hid (UBx w1 g #[.int .i64 0, .int .u64 0, .int .u64 0, .int .i64 0, .int .i64 0, .int .i64 0, .slice none 0 0, .int .i64 0, .slice none 0 0]) := by unfold Hid; rw [hgs]; exact gr_box hg (by have := HP.out; omega) (heap_alloc_new w _)
  have HR1 : Hid (RS w1 p B y1 f1) := hr
  have HW1 : Hid (Below W.heap.size W w1) := (HW0.out.alloc HW0.out.size _).grown hg (HW0.out.alloc HW0.out.size _).size (fun j hj => by cases hj; exact HP.out.1)
  clear hr hg hgs
  have c0 : w1.cell? ⟨g, 0, none⟩ = some (.int .i64 0) := by rw [cell_of_row _ _ _ _ _ _ HU1.out]; rfl
  have z0 : w1.frozen? ⟨g, 0, none⟩ = false := by simp [World.frozen?, HU1.out]
  obtain ⟨x1, hx1⟩ : ∃ x : World, x = w1.setCell ⟨g, 0, none⟩ (.int .i64 2) := ⟨_, rfl⟩
  have HG1x : Hid (w1.grownBy x1 (some g)) := by unfold Hid; rw [hx1]; exact gset1 _ _ _ _
  have HU1x : Hid (UBx x1 g #[.int .i64 2, .int .u64 0, .int .u64 0, .int .i64 0, .int .i64 0, .int .i64 0, .slice none 0 0, .int .i64 0, .slice none 0 0]) := by unfold Hid UBx; rw [hx1, heap_setCell_same w1 g 0 _ _ _ HU1.out]; rfl
  have HR1x : Hid (RS x1 p B y1 f1) := RS.grown HR1.out HG1x.out (.inr HPG.out)
  have HW1x : Hid (Below W.heap.size W x1) := HW1.out.grown HG1x.out HW1.out.size (fun j hj => by cases hj; have := HP.out; have := HPG.out; omega)
  go_wp2_with fail
  rw [← hx1]
  clear hx1 c0 z0
  refine Calls.mono (kindOf_t _ _ _ HK.out _) ?_
  rintro er1 w2 ⟨rfl, hb⟩
  have HU2 : Hid (UBx w2 g #[.int .i64 2, .int .u64 0, .int .u64 0, .int .i64 0, .int .i64 0, .int .i64 0, .slice none 0 0, .int .i64 0, .slice none 0 0]) := (hb.block g (Array.getElem?_eq_some_iff.1 HU1x.out).1).trans HU1x.out
  have HR2 : Hid (RS w2 p B y1 f1) := RS.below HR1x.out hb
  have HW2 : Hid (Below W.heap.size W w2) := below_next HW1x.out hb
  have HS2 : Hid (g < w2.heap.size) := (Array.getElem?_eq_some_iff.1 HU2.out).1
  clear hb
  go_wp2_with fail
  refine Calls.mono (must_t true _ (RS.below HR2.out (al (Below.refl _ _) _))) ?_
  rintro er1 w3 ⟨rfl, hr, hg⟩
  have HU3 : Hid (UBx w3 g #[.int .i64 2, .int .u64 0, .int .u64 0, .int .i64 0, .int .i64 0, .int .i64 0, .slice none 0 0, .int .i64 0, .slice none 0 0]) := gr_box hg (by have := HPG.out; omega) (((al (Below.refl _ _) _).block g HS2.out).trans HU2.out)
  have HK3 : Hid (w3.heap[w2.heap.size]? = some (.cells #[.int .i64 2, .func (.func 82) #[] #[], .func (.func 83) #[] #[], .func (.func 84) #[] #[]] 64 (0, 0))) := gr_box hg (by have := HPG.out; have := HS2.out; omega) (heap_alloc_new w2 _)
  have HR3 : Hid (RS w3 p B y1 (mustF true f1)) := hr
  have HW3 : Hid (Below W.heap.size W w3) := (HW2.out.alloc HW2.out.size _).grown hg (HW2.out.alloc HW2.out.size _).size (fun j hj => by cases hj; exact HP.out.1)
  clear hr hg
  obtain ⟨κ, hκ⟩ : ∃ κ, κ = w2.heap.size := ⟨_, rfl⟩
  rw [← hκ] at HK3 HS2 ⊢
  clear hκ
  go_wp2_with fail
  refine Calls.mono (number_t (m := mxU) _ HR3.out HE2.out) ?_
  rintro er1 w4 ⟨rfl, hr, hg⟩
  have HU4 : Hid (UBx w4 g #[.int .i64 2, .int .u64 0, .int .u64 0, .int .i64 0, .int .i64 0, .int .i64 0, .slice none 0 0, .int .i64 0, .slice none 0 0]) := gr_box hg (by have := HPG.out; omega) HU3.out
  have HK4 : Hid (w4.heap[κ]? = some (.cells #[.int .i64 2, .func (.func 82) #[] #[], .func (.func 83) #[] #[], .func (.func 84) #[] #[]] 64 (0, 0))) := gr_box hg (by have := HPG.out; have := HS2.out; omega) HK3.out
  have HR4 : Hid (RS w4 p B y2 f2) := hr
  have HW4 : Hid (Below W.heap.size W w4) := HW3.out.grown hg HW3.out.size (fun j hj => by cases hj; exact HP.out.1)
  clear hr hg
  have c1 : w4.cell? ⟨g, 1, none⟩ = some (.int .u64 0) := by rw [cell_of_row _ _ _ _ _ _ HU4.out]; rfl
  have z1 : w4.frozen? ⟨g, 1, none⟩ = false := by simp [World.frozen?, HU4.out]
  obtain ⟨x4, hx4⟩ : ∃ x : World, x = w4.setCell ⟨g, 1, none⟩ (.int .u64 (n2 : Nat)) := ⟨_, rfl⟩
  have HG4x : Hid (w4.grownBy x4 (some g)) := by unfold Hid; rw [hx4]; exact gset1 _ _ _ _
  have HU4x : Hid (UBx x4 g #[.int .i64 2, .int .u64 (n2 : Nat), .int .u64 0, .int .i64 0, .int .i64 0, .int .i64 0, .slice none 0 0, .int .i64 0, .slice none 0 0]) := by unfold Hid UBx; rw [hx4, heap_setCell_same w4 g 1 _ _ _ HU4.out]; rfl
  have HK4x : Hid (x4.heap[κ]? = some (.cells #[.int .i64 2, .func (.func 82) #[] #[], .func (.func 83) #[] #[], .func (.func 84) #[] #[]] 64 (0, 0))) := gr_box HG4x.out (by have := HS2.out; omega) HK4.out
  have HR4x : Hid (RS x4 p B y2 f2) := RS.grown HR4.out HG4x.out (.inr HPG.out)
  have HW4x : Hid (Below W.heap.size W x4) := HW4.out.grown HG4x.out HW4.out.size (fun j hj => by cases hj; have := HP.out; have := HPG.out; omega)
  go_wp2_with (go_at_call 39; refine Calls.mono (goodName_b _ b2 HQ2.out _) ?_; rintro er1 wq ⟨rfl, hq⟩; have hq := hq.symm; subst hq)
  rw [← hx4]
  clear hx4 c1 z1
  refine Calls.mono (must_t b2 _ HR4x.out) ?_
  rintro er1 w5 ⟨rfl, hr, hg⟩
  have HU5 : Hid (UBx w5 g #[.int .i64 2, .int .u64 (n2 : Nat), .int .u64 0, .int .i64 0, .int .i64 0, .int .i64 0, .slice none 0 0, .int .i64 0, .slice none 0 0]) := gr_box hg (by have := HPG.out; omega) HU4x.out
  have HK5 : Hid (w5.heap[κ]? = some (.cells #[.int .i64 2, .func (.func 82) #[] #[], .func (.func 83) #[] #[], .func (.func 84) #[] #[]] 64 (0, 0))) := gr_box hg (by have := HPG.out; have := HS2.out; omega) HK4x.out
  have HR5 : Hid (RS w5 p B y2 (mustF b2 f2)) := hr
  have HW5 : Hid (Below W.heap.size W w5) := HW4x.out.grown hg HW4x.out.size (fun j hj => by cases hj; exact HP.out.1)
  clear hr hg
  go_wp2_with fail
  refine Calls.mono (number_t (m := mxU) _ HR5.out HE3.out) ?_
  rintro er1 w6 ⟨rfl, hr, hg⟩
  have HU6 : Hid (UBx w6 g #[.int .i64 2, .int .u64 (n2 : Nat), .int .u64 0, .int .i64 0, .int .i64 0, .int .i64 0, .slice none 0 0, .int .i64 0, .slice none 0 0]) := gr_box hg (by have := HPG.out; omega) HU5.out
  have HK6 : Hid (w6.heap[κ]? = some (.cells #[.int .i64 2, .func (.func 82) #[] #[], .func (.func 83) #[] #[], .func (.func 84) #[] #[]] 64 (0, 0))) := gr_box hg (by have := HPG.out; have := HS2.out; omega) HK5.out
  have HR6 : Hid (RS w6 p B y3 f3) := hr
  have HW6 : Hid (Below W.heap.size W w6) := HW5.out.grown hg HW5.out.size (fun j hj => by cases hj; exact HP.out.1)
  clear hr hg
  have c2 : w6.cell? ⟨g, 2, none⟩ = some (.int .u64 0) := by rw [cell_of_row _ _ _ _ _ _ HU6.out]; rfl
  have z2 : w6.frozen? ⟨g, 2, none⟩ = false := by simp [World.frozen?, HU6.out]
  obtain ⟨x6, hx6⟩ : ∃ x : World, x = w6.setCell ⟨g, 2, none⟩ (.int .u64 (n3 : Nat)) := ⟨_, rfl⟩
  have HG6x : Hid (w6.grownBy x6 (some g)) := by unfold Hid; rw [hx6]; exact gset1 _ _ _ _
  have HU6x : Hid (UBx x6 g #[.int .i64 2, .int .u64 (n2 : Nat), .int .u64 (n3 : Nat), .int .i64 0, .int .i64 0, .int .i64 0, .slice none 0 0, .int .i64 0, .slice none 0 0]) := by unfold Hid UBx; rw [hx6, heap_setCell_same w6 g 2 _ _ _ HU6.out]; rfl
  have HK6x : Hid (x6.heap[κ]? = some (.cells #[.int .i64 2, .func (.func 82) #[] #[], .func (.func 83) #[] #[], .func (.func 84) #[] #[]] 64 (0, 0))) := gr_box HG6x.out (by have := HS2.out; omega) HK6.out
  have HR6x : Hid (RS x6 p B y3 f3) := RS.grown HR6.out HG6x.out (.inr HPG.out)
  have HW6x : Hid (Below W.heap.size W x6) := HW6.out.grown HG6x.out HW6.out.size (fun j hj => by cases hj; have := HP.out; have := HPG.out; omega)
  go_wp2_with (go_at_call 39; refine Calls.mono (goodName_b _ b3 HQ3.out _) ?_; rintro er1 wq ⟨rfl, hq⟩; have hq := hq.symm; subst hq)
  rw [← hx6]
  clear hx6 c2 z2
  refine Calls.mono (must_t b3 _ HR6x.out) ?_
  rintro er1 w7 ⟨rfl, hr, hg⟩
  have HU7 : Hid (UBx w7 g #[.int .i64 2, .int .u64 (n2 : Nat), .int .u64 (n3 : Nat), .int .i64 0, .int .i64 0, .int .i64 0, .slice none 0 0, .int .i64 0, .slice none 0 0]) := gr_box hg (by have := HPG.out; omega) HU6x.out
  have HK7 : Hid (w7.heap[κ]? = some (.cells #[.int .i64 2, .func (.func 82) #[] #[], .func (.func 83) #[] #[], .func (.func 84) #[] #[]] 64 (0, 0))) := gr_box hg (by have := HPG.out; have := HS2.out; omega) HK6x.out
  have HR7 : Hid (RS w7 p B y3 (mustF b3 f3)) := hr
  have HW7 : Hid (Below W.heap.size W w7) := HW6x.out.grown hg HW6x.out.size (fun j hj => by cases hj; exact HP.out.1)
  clear hr hg
  go_wp2_with fail
  refine Calls.mono (err_t _ HR7.out) ?_
  rintro er1 u ⟨rfl, hu⟩
  rw [hu]
  clear hu u
  have hfb : (mustF b3 f3 == 0) = true := by simpa using hf
  obtain ⟨F, hF⟩ : ∃ F, F = mustF b3 f3 := ⟨_, rfl⟩
  rw [← hF] at hf hfb HR7 ⊢
  clear hF
  subst hf
  have hkf : w7.cell? ⟨κ, 3, none⟩ = some (.func (.func 84) #[] #[]) := by rw [cell_of_row _ _ _ _ _ _ HK7.out]; rfl
  go_wp2_with fail
  clear hkf
  refine Calls.mono (readReport_b q1 g 2 (n2 : Nat) (n3 : Nat) _ _ _ _ _ _ W w7 HR7.out HW7.out HP.out.1 HPG.out HU7.out HD1.out HT1.out rfl q2 HD2.out HT2.out HD3.out rfl) ?_
  rintro er1 w8 ⟨a8, c8, rfl, hr8, hu8, ho8, hw8⟩
  obtain ⟨D, hD⟩ : ∃ D, D = L.length := ⟨_, rfl⟩
  have HU8 : Hid (UBx w8 g #[.int .i64 2, .int .u64 (n2 : Nat), .int .u64 (n3 : Nat), .int .i64 0, .int .i64 0, .int .i64 0, .slice none 0 0, .int .i64 0, .slice a8 D c8]) := by unfold Hid; rw [hD]; exact hu8
  have HR8 : Hid (RS w8 p B v3 t3) := hr8
  have HO8 : Hid (OwnR w8 (g + 1) (.slice a8 L.length c8) L) := ho8
  have HW8 : Hid (Below W.heap.size W w8) := hw8
  have HDD : Hid (D = L.length) := hD
  clear hr8 hu8 ho8 hw8 hD
  go_wp2_with (first
    | (refine wpList_load_g (by rfl) 26 _ rfl g 0 (by rfl) [.int .i64 2, .int .u64 (n2 : Nat), .int .u64 (n3 : Nat), .int .i64 0, .int .i64 0, .int .i64 0, .slice none 0 0, .int .i64 0, .slice a8 D c8] _ (box_range HU8.out) Tryd.underlying26 rfl info_un ?_)
    | (refine wpList_store_mid rfl 26 _ _ rfl g 0 #[.int .i64 2, .int .u64 (n2 : Nat), .int .u64 (n3 : Nat), .int .i64 0, .int .i64 0, .int .i64 0, .slice none 0 0, .int .i64 0, .slice a8 D c8] rfl rfl (box_there HU8.out rfl) (by kernel_rfl) (by simp [Value.oneCell']) ?_))
  (try simp only [Exit.inBlock, Exit.then])
  refine bodyPost_ret (results_cell_row Tryd.results35 _ _ g 26 #[.int .i64 2, .int .u64 (n2 : Nat), .int .u64 (n3 : Nat), .int .i64 0, .int .i64 0, .int .i64 0, .slice none 0 0, .int .i64 0, .slice a8 D c8] (0, 0) _ rfl (box_set HU8.out rfl) Tryd.underlying26 rfl (by kernel_rfl)) rfl ?_
  have hfin := setCells_grown g [.int .i64 2, .int .u64 (n2 : Nat), .int .u64 (n3 : Nat), .int .i64 0, .int .i64 0, .int .i64 0, .slice none 0 0, .int .i64 0, .slice a8 D c8] 0 w8
  rw [← HGS.out]
  exact ⟨none, 0, a8, c8, by rw [HDD.out]; rfl, World.ownsRow_nil _ _ _ _, OwnR.grown HO8.out hfin (Nat.lt_succ_self _), RS.grown HR8.out hfin (.inr HPG.out), HW8.out.grown hfin HW8.out.size (fun j hj => by cases hj; have := HP.out; have := HPG.out; omega)⟩
theorem read_3b {p B n1 n2 n3 : Nat} {ys y1 y2 y3 : List UInt8} {f f1 f2 f3 : Int} (b2 b3 : Bool) (W w : World) (h : RS w p B ys f) (hW : Below W.heap.size W w) (hpW : W.heap.size ≤ p)
    (e1 : nmS mxU (ys, f) = (3, y1, f1)) (e2 : nmS mxU (y1, mustF true f1) = (n2, y2, f2)) (hb2 : b2 = true ↔ nameOk (n2 : Int)) (e3 : nmS mxU (y2, mustF b2 f2) = (n3, y3, f3)) (hb3 : b3 = true ↔ nameOk (n3 : Int)) (hf : mustF b3 f3 = 0) :
    Calls Tryd.prog 35 #[.pointer (some ⟨p, 0, none⟩)] w fun er w' => RdOut W p B w.heap.size ⟨3, (n2 : Nat), (n3 : Nat), 0, 0, 0, [], 0, []⟩ y3 0 er w' := by
  have HP : Hid (W.heap.size ≤ p ∧ p < w.heap.size) := ⟨hpW, h.lt⟩
  have HE1 : Hid _ := e1
  have HE2 : Hid _ := e2
  have HE3 : Hid _ := e3
  have HQ2 : Hid _ := hb2
  have HQ3 : Hid _ := hb3
  have HR0 : Hid (RS w p B ys f) := h
  have HW0 : Hid (Below W.heap.size W w) := hW
  have HK : Hid (KindIs (3 : Int) kd3 true) := .inr (.inr (.inl ⟨rfl, rfl, rfl⟩))
  clear h hW hpW e1 e2 e3 hb2 hb3
  have hsf := fun (u : World) (a : Addr) (n : Nat) => run_store Tryd.prog u a (.func (.func n) #[] #[]) .plain rfl
  have hsn := fun (u : World) (a : Addr) => run_store Tryd.prog u a .nilFunc .plain rfl
  go_enter Tryd.func35, Tryd.ntmps35
  go_wp2_with fail
  refine Calls.mono (small_t _ (RS.below HR0.out (al (Below.refl _ _) _)) HE1.out) ?_
  rintro er1 w1 ⟨rfl, hr, hg⟩
  obtain ⟨g, hgs⟩ : ∃ g, g = w.heap.size := ⟨_, rfl⟩
  rw [← hgs]
  have HGS : Hid (g = w.heap.size) := hgs
  have HPG : Hid (p < g) := by unfold Hid; rw [hgs]; exact HP.out.2
  have HU1 : Hid (UBx w1 g #[.int .i64 0, .int .u64 0, .int .u64 0, .int .i64 0, .int .i64 0, .int .i64 0, .slice none 0 0, .int .i64 0, .slice none 0 0]) := by unfold Hid; rw [hgs]; exact gr_box hg (by have := HP.out; omega) (heap_alloc_new w _)
  have HR1 : Hid (RS w1 p B y1 f1) := hr
  have HW1 : Hid (Below W.heap.size W w1) := (HW0.out.alloc HW0.out.size _).grown hg (HW0.out.alloc HW0.out.size _).size (fun j hj => by cases hj; exact HP.out.1)
  clear hr hg hgs
  have c0 : w1.cell? ⟨g, 0, none⟩ = some (.int .i64 0) := by rw [cell_of_row _ _ _ _ _ _ HU1.out]; rfl
  have z0 : w1.frozen? ⟨g, 0, none⟩ = false := by simp [World.frozen?, HU1.out]
  obtain ⟨x1, hx1⟩ : ∃ x : World, x = w1.setCell ⟨g, 0, none⟩ (.int .i64 3) := ⟨_, rfl⟩
  have HG1x : Hid (w1.grownBy x1 (some g)) := by unfold Hid; rw [hx1]; exact gset1 _ _ _ _
  have HU1x : Hid (UBx x1 g #[.int .i64 3, .int .u64 0, .int .u64 0, .int .i64 0, .int .i64 0, .int .i64 0, .slice none 0 0, .int .i64 0, .slice none 0 0]) := by unfold Hid UBx; rw [hx1, heap_setCell_same w1 g 0 _ _ _ HU1.out]; rfl
  have HR1x : Hid (RS x1 p B y1 f1) := RS.grown HR1.out HG1x.out (.inr HPG.out)
  have HW1x : Hid (Below W.heap.size W x1) := HW1.out.grown HG1x.out HW1.out.size (fun j hj => by cases hj; have := HP.out; have := HPG.out; omega)
  go_wp2_with fail
  rw [← hx1]
  clear hx1 c0 z0
  refine Calls.mono (kindOf_t _ _ _ HK.out _) ?_
  rintro er1 w2 ⟨rfl, hb⟩
  have HU2 : Hid (UBx w2 g #[.int .i64 3, .int .u64 0, .int .u64 0, .int .i64 0, .int .i64 0, .int .i64 0, .slice none 0 0, .int .i64 0, .slice none 0 0]) := (hb.block g (Array.getElem?_eq_some_iff.1 HU1x.out).1).trans HU1x.out
  have HR2 : Hid (RS w2 p B y1 f1) := RS.below HR1x.out hb
  have HW2 : Hid (Below W.heap.size W w2) := below_next HW1x.out hb
  have HS2 : Hid (g < w2.heap.size) := (Array.getElem?_eq_some_iff.1 HU2.out).1
  clear hb
  go_wp2_with fail
  refine Calls.mono (must_t true _ (RS.below HR2.out (al (Below.refl _ _) _))) ?_
  rintro er1 w3 ⟨rfl, hr, hg⟩
  have HU3 : Hid (UBx w3 g #[.int .i64 3, .int .u64 0, .int .u64 0, .int .i64 0, .int .i64 0, .int .i64 0, .slice none 0 0, .int .i64 0, .slice none 0 0]) := gr_box hg (by have := HPG.out; omega) (((al (Below.refl _ _) _).block g HS2.out).trans HU2.out)
  have HK3 : Hid (w3.heap[w2.heap.size]? = some (.cells #[.int .i64 3, .func (.func 85) #[] #[], .func (.func 86) #[] #[], .func (.func 87) #[] #[]] 64 (0, 0))) := gr_box hg (by have := HPG.out; have := HS2.out; omega) (heap_alloc_new w2 _)
  have HR3 : Hid (RS w3 p B y1 (mustF true f1)) := hr
  have HW3 : Hid (Below W.heap.size W w3) := (HW2.out.alloc HW2.out.size _).grown hg (HW2.out.alloc HW2.out.size _).size (fun j hj => by cases hj; exact HP.out.1)
  clear hr hg
  obtain ⟨κ, hκ⟩ : ∃ κ, κ = w2.heap.size := ⟨_, rfl⟩
  rw [← hκ] at HK3 HS2 ⊢
  clear hκ
  go_wp2_with fail
  refine Calls.mono (number_t (m := mxU) _ HR3.out HE2.out) ?_
  rintro er1 w4 ⟨rfl, hr, hg⟩
  have HU4 : Hid (UBx w4 g #[.int .i64 3, .int .u64 0, .int .u64 0, .int .i64 0, .int .i64 0, .int .i64 0, .slice none 0 0, .int .i64 0, .slice none 0 0]) := gr_box hg (by have := HPG.out; omega) HU3.out
  have HK4 : Hid (w4.heap[κ]? = some (.cells #[.int .i64 3, .func (.func 85) #[] #[], .func (.func 86) #[] #[], .func (.func 87) #[] #[]] 64 (0, 0))) := gr_box hg (by have := HPG.out; have := HS2.out; omega) HK3.out
  have HR4 : Hid (RS w4 p B y2 f2) := hr
  have HW4 : Hid (Below W.heap.size W w4) := HW3.out.grown hg HW3.out.size (fun j hj => by cases hj; exact HP.out.1)
  clear hr hg
  have c1 : w4.cell? ⟨g, 1, none⟩ = some (.int .u64 0) := by rw [cell_of_row _ _ _ _ _ _ HU4.out]; rfl
  have z1 : w4.frozen? ⟨g, 1, none⟩ = false := by simp [World.frozen?, HU4.out]
  obtain ⟨x4, hx4⟩ : ∃ x : World, x = w4.setCell ⟨g, 1, none⟩ (.int .u64 (n2 : Nat)) := ⟨_, rfl⟩
  have HG4x : Hid (w4.grownBy x4 (some g)) := by unfold Hid; rw [hx4]; exact gset1 _ _ _ _
  have HU4x : Hid (UBx x4 g #[.int .i64 3, .int .u64 (n2 : Nat), .int .u64 0, .int .i64 0, .int .i64 0, .int .i64 0, .slice none 0 0, .int .i64 0, .slice none 0 0]) := by unfold Hid UBx; rw [hx4, heap_setCell_same w4 g 1 _ _ _ HU4.out]; rfl
  have HK4x : Hid (x4.heap[κ]? = some (.cells #[.int .i64 3, .func (.func 85) #[] #[], .func (.func 86) #[] #[], .func (.func 87) #[] #[]] 64 (0, 0))) := gr_box HG4x.out (by have := HS2.out; omega) HK4.out
  have HR4x : Hid (RS x4 p B y2 f2) := RS.grown HR4.out HG4x.out (.inr HPG.out)
  have HW4x : Hid (Below W.heap.size W x4) := HW4.out.grown HG4x.out HW4.out.size (fun j hj => by cases hj; have := HP.out; have := HPG.out; omega)
  go_wp2_with (go_at_call 39; refine Calls.mono (goodName_b _ b2 HQ2.out _) ?_; rintro er1 wq ⟨rfl, hq⟩; have hq := hq.symm; subst hq)
  rw [← hx4]
  clear hx4 c1 z1
  refine Calls.mono (must_t b2 _ HR4x.out) ?_
  rintro er1 w5 ⟨rfl, hr, hg⟩
  have HU5 : Hid (UBx w5 g #[.int .i64 3, .int .u64 (n2 : Nat), .int .u64 0, .int .i64 0, .int .i64 0, .int .i64 0, .slice none 0 0, .int .i64 0, .slice none 0 0]) := gr_box hg (by have := HPG.out; omega) HU4x.out
  have HK5 : Hid (w5.heap[κ]? = some (.cells #[.int .i64 3, .func (.func 85) #[] #[], .func (.func 86) #[] #[], .func (.func 87) #[] #[]] 64 (0, 0))) := gr_box hg (by have := HPG.out; have := HS2.out; omega) HK4x.out
  have HR5 : Hid (RS w5 p B y2 (mustF b2 f2)) := hr
  have HW5 : Hid (Below W.heap.size W w5) := HW4x.out.grown hg HW4x.out.size (fun j hj => by cases hj; exact HP.out.1)
  clear hr hg
  go_wp2_with fail
  refine Calls.mono (number_t (m := mxU) _ HR5.out HE3.out) ?_
  rintro er1 w6 ⟨rfl, hr, hg⟩
  have HU6 : Hid (UBx w6 g #[.int .i64 3, .int .u64 (n2 : Nat), .int .u64 0, .int .i64 0, .int .i64 0, .int .i64 0, .slice none 0 0, .int .i64 0, .slice none 0 0]) := gr_box hg (by have := HPG.out; omega) HU5.out
  have HK6 : Hid (w6.heap[κ]? = some (.cells #[.int .i64 3, .func (.func 85) #[] #[], .func (.func 86) #[] #[], .func (.func 87) #[] #[]] 64 (0, 0))) := gr_box hg (by have := HPG.out; have := HS2.out; omega) HK5.out
  have HR6 : Hid (RS w6 p B y3 f3) := hr
  have HW6 : Hid (Below W.heap.size W w6) := HW5.out.grown hg HW5.out.size (fun j hj => by cases hj; exact HP.out.1)
  clear hr hg
  have c2 : w6.cell? ⟨g, 2, none⟩ = some (.int .u64 0) := by rw [cell_of_row _ _ _ _ _ _ HU6.out]; rfl
  have z2 : w6.frozen? ⟨g, 2, none⟩ = false := by simp [World.frozen?, HU6.out]
  obtain ⟨x6, hx6⟩ : ∃ x : World, x = w6.setCell ⟨g, 2, none⟩ (.int .u64 (n3 : Nat)) := ⟨_, rfl⟩
  have HG6x : Hid (w6.grownBy x6 (some g)) := by unfold Hid; rw [hx6]; exact gset1 _ _ _ _
  have HU6x : Hid (UBx x6 g #[.int .i64 3, .int .u64 (n2 : Nat), .int .u64 (n3 : Nat), .int .i64 0, .int .i64 0, .int .i64 0, .slice none 0 0, .int .i64 0, .slice none 0 0]) := by unfold Hid UBx; rw [hx6, heap_setCell_same w6 g 2 _ _ _ HU6.out]; rfl
  have HK6x : Hid (x6.heap[κ]? = some (.cells #[.int .i64 3, .func (.func 85) #[] #[], .func (.func 86) #[] #[], .func (.func 87) #[] #[]] 64 (0, 0))) := gr_box HG6x.out (by have := HS2.out; omega) HK6.out
  have HR6x : Hid (RS x6 p B y3 f3) := RS.grown HR6.out HG6x.out (.inr HPG.out)
  have HW6x : Hid (Below W.heap.size W x6) := HW6.out.grown HG6x.out HW6.out.size (fun j hj => by cases hj; have := HP.out; have := HPG.out; omega)
  go_wp2_with (go_at_call 39; refine Calls.mono (goodName_b _ b3 HQ3.out _) ?_; rintro er1 wq ⟨rfl, hq⟩; have hq := hq.symm; subst hq)
  rw [← hx6]
  clear hx6 c2 z2
  refine Calls.mono (must_t b3 _ HR6x.out) ?_
  rintro er1 w7 ⟨rfl, hr, hg⟩
  have HU7 : Hid (UBx w7 g #[.int .i64 3, .int .u64 (n2 : Nat), .int .u64 (n3 : Nat), .int .i64 0, .int .i64 0, .int .i64 0, .slice none 0 0, .int .i64 0, .slice none 0 0]) := gr_box hg (by have := HPG.out; omega) HU6x.out
  have HK7 : Hid (w7.heap[κ]? = some (.cells #[.int .i64 3, .func (.func 85) #[] #[], .func (.func 86) #[] #[], .func (.func 87) #[] #[]] 64 (0, 0))) := gr_box hg (by have := HPG.out; have := HS2.out; omega) HK6x.out
  have HR7 : Hid (RS w7 p B y3 (mustF b3 f3)) := hr
  have HW7 : Hid (Below W.heap.size W w7) := HW6x.out.grown hg HW6x.out.size (fun j hj => by cases hj; exact HP.out.1)
  clear hr hg
  go_wp2_with fail
  refine Calls.mono (err_t _ HR7.out) ?_
  rintro er1 u ⟨rfl, hu⟩
  rw [hu]
  clear hu u
  have hfb : (mustF b3 f3 == 0) = true := by simpa using hf
  obtain ⟨F, hF⟩ : ∃ F, F = mustF b3 f3 := ⟨_, rfl⟩
  rw [← hF] at hf hfb HR7 ⊢
  clear hF
  subst hf
  have hkf : w7.cell? ⟨κ, 3, none⟩ = some (.func (.func 87) #[] #[]) := by rw [cell_of_row _ _ _ _ _ _ HK7.out]; rfl
  go_wp2_with fail
  clear hkf
  refine Calls.mono (readCancel_t p g w7) ?_
  rintro er1 w8 ⟨rfl, hw8⟩
  rw [hw8]
  clear hw8 w8
  go_wp2_with (first
    | (refine wpList_load_g (by rfl) 26 _ rfl g 0 (by rfl) [.int .i64 3, .int .u64 (n2 : Nat), .int .u64 (n3 : Nat), .int .i64 0, .int .i64 0, .int .i64 0, .slice none 0 0, .int .i64 0, .slice none 0 0] _ (box_range HU7.out) Tryd.underlying26 rfl info_un ?_)
    | (refine wpList_store_mid rfl 26 _ _ rfl g 0 #[.int .i64 3, .int .u64 (n2 : Nat), .int .u64 (n3 : Nat), .int .i64 0, .int .i64 0, .int .i64 0, .slice none 0 0, .int .i64 0, .slice none 0 0] rfl rfl (box_there HU7.out rfl) (by kernel_rfl) (by simp [Value.oneCell']) ?_))
  (try simp only [Exit.inBlock, Exit.then])
  refine bodyPost_ret (results_cell_row Tryd.results35 _ _ g 26 #[.int .i64 3, .int .u64 (n2 : Nat), .int .u64 (n3 : Nat), .int .i64 0, .int .i64 0, .int .i64 0, .slice none 0 0, .int .i64 0, .slice none 0 0] (0, 0) _ rfl (box_set HU7.out rfl) Tryd.underlying26 rfl (by kernel_rfl)) rfl ?_
  have hfin := setCells_grown g [.int .i64 3, .int .u64 (n2 : Nat), .int .u64 (n3 : Nat), .int .i64 0, .int .i64 0, .int .i64 0, .slice none 0 0, .int .i64 0, .slice none 0 0] 0 w7
  rw [← HGS.out]
  exact ⟨none, 0, none, 0, rfl, World.ownsRow_nil _ _ _ _, OwnR.nil _ _, RS.grown HR7.out hfin (.inr HPG.out), HW7.out.grown hfin HW7.out.size (fun j hj => by cases hj; have := HP.out; have := HPG.out; omega)⟩
end
end Go.Proofs.YtjigbopkmffjaaaDoor
namespace Go.Proofs.YtjigbopkmffjaaaDoor
set_option linter.unusedVariables false
set_option linter.unusedSimpArgs false
open Go.RowKit
def poly : Nat := 3988292384
/-- one bit moved out of the register -/
def stp (c : Nat) : Nat := if c % 2 = 1 then c / 2 ^^^ poly else c / 2
def stpN : Nat → Nat → Nat
  | 0, c => c
  | k + 1, c => stp (stpN k c)
theorem xor_odd (a b : Nat) : (a ^^^ b) % 2 = (a + b) % 2 := by
  have h := Nat.testBit_xor a b 0
  rw [Nat.testBit_zero, Nat.testBit_zero, Nat.testBit_zero] at h
  rcases Nat.mod_two_eq_zero_or_one a with ha | ha <;> rcases Nat.mod_two_eq_zero_or_one b with hb | hb <;> rcases Nat.mod_two_eq_zero_or_one (a ^^^ b) with hc | hc <;> simp [ha, hb, hc] at h <;> omega
theorem xor_half (a b : Nat) : (a ^^^ b) / 2 = a / 2 ^^^ b / 2 := Nat.xor_div_two
theorem xor4 (a b p : Nat) : (a ^^^ p) ^^^ (b ^^^ p) = a ^^^ b := by
  rw [Nat.xor_assoc, Nat.xor_comm p, Nat.xor_assoc, Nat.xor_self, Nat.xor_zero]
theorem stp_xor (a b : Nat) : stp (a ^^^ b) = stp a ^^^ stp b := by
  unfold stp
  rw [xor_odd, xor_half]
  rcases Nat.mod_two_eq_zero_or_one a with ha | ha <;> rcases Nat.mod_two_eq_zero_or_one b with hb | hb
  · rw [if_neg (by omega), if_neg (by omega), if_neg (by omega)]
  · rw [if_pos (by omega), if_neg (by omega), if_pos hb, Nat.xor_assoc]
  · rw [if_pos (by omega), if_pos ha, if_neg (by omega), Nat.xor_assoc, Nat.xor_assoc, Nat.xor_comm (b / 2)]
  · rw [if_neg (by omega), if_pos ha, if_pos hb, xor4]
theorem stpN_xor (k : Nat) (a b : Nat) : stpN k (a ^^^ b) = stpN k a ^^^ stpN k b := by
  induction k with
  | zero => rfl
  | succ k ih => simp only [stpN]; rw [ih, stp_xor]
theorem stp_double (y : Nat) : stp (2 * y) = y := by unfold stp; rw [if_neg (by omega)]; omega
theorem stp_zero : stp 0 = 0 := rfl
theorem stpN_zero (k : Nat) : stpN k 0 = 0 := by induction k with | zero => rfl | succ k ih => simp only [stpN]; rw [ih, stp_zero]
theorem stpN_add (j k c : Nat) : stpN (j + k) c = stpN j (stpN k c) := by
  induction j with
  | zero => rw [Nat.zero_add]; rfl
  | succ j ih => rw [Nat.succ_add]; simp only [stpN]; rw [ih]
theorem xor_lt32 {a b : Nat} (ha : a < 4294967296) (hb : b < 4294967296) : a ^^^ b < 4294967296 := Nat.xor_lt_two_pow (n := 32) ha hb
theorem stp_lt {c : Nat} (h : c < 4294967296) : stp c < 4294967296 := by
  unfold stp
  split
  · exact xor_lt32 (by omega) (by decide)
  · omega
theorem stpN_lt (k : Nat) {c : Nat} (h : c < 4294967296) : stpN k c < 4294967296 := by
  induction k with
  | zero => exact h
  | succ k ih => exact stp_lt ih
/-- a multiple of 16: four steps only shift -/
theorem stp4_high (h : Nat) : stpN 4 (16 * h) = h := by
  have e : 16 * h = 2 * (2 * (2 * (2 * h))) := by omega
  rw [e]
  simp only [stpN, stp_double]
theorem xor_16 (c : Nat) : c = (16 * (c / 16)) ^^^ (c % 16) := by
  have h : (2 ^ 4 * (c / 16)) ||| (c % 16) = 2 ^ 4 * (c / 16) + c % 16 := Nat.two_pow_add_eq_or_of_lt (by omega) _ |>.symm
  apply Nat.eq_of_testBit_eq
  intro i
  rw [Nat.testBit_xor]
  have e16 : (16 : Nat) = 2 ^ 4 := by decide
  rw [e16, Nat.testBit_two_pow_mul, Nat.testBit_mod_two_pow, Nat.testBit_div_two_pow]
  by_cases hi : i < 4
  · simp [hi, show ¬ 4 ≤ i from by omega]
  · simp [hi, show 4 ≤ i from by omega, show i - 4 + 4 = i from by omega]
/-- the table's words -/
theorem tab_stp (l : Nat) (h : l < 16) : tab.getD l 0 = ((stpN 4 l : Nat) : Int) := by
  have : ∀ l : Fin 16, tab.getD l.1 0 = ((stpN 4 l.1 : Nat) : Int) := by decide +kernel
  exact this ⟨l, h⟩
theorem crcHalf_stp (c : Nat) (h : c < 4294967296) : crcHalf (c : Int) = ((stpN 4 c : Nat) : Int) := by
  unfold crcHalf tabAt
  have e1 : ((c : Int) % 16).toNat = c % 16 := by omega
  rw [e1, tab_stp _ (by omega), show (c : Int) / 16 = ((c / 16 : Nat) : Int) from by omega, u32_xor_nat _ _ (by omega) (stpN_lt 4 (by omega))]
  congr 1
  conv => rhs; rw [xor_16 c, stpN_xor, stp4_high]
/-- the register behind a byte -/
def crcB (c : Nat) (x : UInt8) : Nat := stpN 8 (c ^^^ x.toNat)
def crcN (xs : List UInt8) : Nat := xs.foldl crcB 4294967295
theorem crcB_lt {c : Nat} (h : c < 4294967296) (x : UInt8) : crcB c x < 4294967296 := stpN_lt 8 (xor_lt32 h (by have := x.toNat_lt; omega))
theorem crcStep_B (c : Nat) (h : c < 4294967296) (x : UInt8) : crcStep (c : Int) (x.toNat : Int) = ((crcB c x : Nat) : Int) := by
  have hx := x.toNat_lt
  unfold crcStep crcB
  rw [show ((x.toNat : Int)) % 4294967296 = (x.toNat : Int) from by omega, u32_xor_nat _ _ h (by omega)]
  have h1 : c ^^^ x.toNat < 4294967296 := xor_lt32 h (by omega)
  rw [crcHalf_stp _ h1, crcHalf_stp _ (stpN_lt 4 h1), ← stpN_add 4 4]
theorem foldB_lt (xs : List UInt8) : ∀ c, c < 4294967296 → xs.foldl crcB c < 4294967296 := by
  induction xs with
  | nil => intro c h; exact h
  | cons x xs ih => intro c h; exact ih _ (crcB_lt h x)
theorem crcN_lt (xs : List UInt8) : crcN xs < 4294967296 := foldB_lt xs _ (by decide)
theorem crcI_N (xs : List UInt8) : crcI xs = ((crcN xs : Nat) : Int) := by
  unfold crcI crcN
  suffices h : ∀ c : Nat, c < 4294967296 → xs.foldl (fun z x => crcStep z x.toNat) (c : Int) = ((xs.foldl crcB c : Nat) : Int) from h _ (by decide)
  induction xs with
  | nil => intro c _; rfl
  | cons x xs ih => intro c h; simp only [List.foldl_cons]; rw [crcStep_B c h x]; exact ih _ (crcB_lt h x)
/-- the sum -/
def crcS (xs : List UInt8) : Nat := 4294967295 ^^^ crcN xs
theorem crcS_lt (xs : List UInt8) : crcS xs < 4294967296 := xor_lt32 (by decide) (crcN_lt xs)
theorem crcS_eq (xs : List UInt8) : bits .xor .u32 4294967295 (crcI xs) = ((crcS xs : Nat) : Int) := by
  rw [crcI_N]
  exact u32_xor_nat 4294967295 _ (by decide) (crcN_lt xs)
/-- bit by bit, each bit changed into the register's low end as it comes -/
theorem bit_at (x k : Nat) : x / 2 ^ k = (x / 2 ^ k % 2) ^^^ (2 * (x / 2 ^ (k + 1))) := by
  have e : x / 2 ^ (k + 1) = x / 2 ^ k / 2 := by rw [Nat.pow_succ, Nat.div_div_eq_div_mul]
  rw [e]
  generalize x / 2 ^ k = y
  apply Nat.eq_of_testBit_eq
  intro i
  rw [Nat.testBit_xor]
  rcases i with _ | i
  · rw [Nat.testBit_zero, Nat.testBit_zero, Nat.testBit_zero]; simp
  · rw [Nat.testBit_succ, Nat.testBit_succ, Nat.testBit_succ]
    rw [show y % 2 / 2 = 0 from by omega, show 2 * (y / 2) / 2 = y / 2 from by omega]
    simp
def bitB (x : Nat) (c : Nat) : Nat → Nat
  | 0 => c
  | k + 1 => stp (bitB x c k ^^^ (x / 2 ^ k % 2))
theorem bitB_stp (x c k : Nat) : bitB x c k ^^^ (x / 2 ^ k) = stpN k (c ^^^ x) := by
  induction k with
  | zero => simp [bitB, stpN]
  | succ k ih =>
    simp only [bitB, stpN]
    rw [← ih]
    conv => rhs; rw [bit_at x k]
    rw [← Nat.xor_assoc, stp_xor (_ ^^^ _), stp_double]
theorem bitB_8 (x : UInt8) (c : Nat) : bitB x.toNat c 8 = crcB c x := by
  have h := bitB_stp x.toNat c 8
  have hx := x.toNat_lt
  rw [show x.toNat / 2 ^ 8 = 0 from by omega, Nat.xor_zero] at h
  exact h
theorem bitB_lt (x c : Nat) (h : c < 4294967296) (k : Nat) : bitB x c k < 4294967296 := by
  induction k with
  | zero => exact h
  | succ k ih => exact stp_lt (xor_lt32 ih (by omega))
end Go.Proofs.YtjigbopkmffjaaaDoor
namespace Go.Proofs.YtjigbopkmffjaaaDoor
set_option linter.unusedVariables false
set_option linter.unusedSimpArgs false
open Go.RowKit
/-- the seal: the sum's four bytes, the lowest first -/
def sealL (xs : List UInt8) : List UInt8 := [UInt8.ofNat (crcS xs % 256), UInt8.ofNat (crcS xs / 256 % 256), UInt8.ofNat (crcS xs / 65536 % 256), UInt8.ofNat (crcS xs / 16777216 % 256)]
theorem crc_any' (ao : Option Addr) (cap : Nat) (xs : List UInt8) (w : World) (hx : Rd w ao xs) (hl : xs.length ≤ 140737488355328) (ht : TabOk w) :
    Calls Tryd.prog 71 #[.slice ao xs.length cap] w fun e w' => e = .returned (.int .u32 (crcS xs : Nat)) ∧ w' = w := by
  rw [← crcS_eq]
  exact crc_any ao cap xs w hx hl ht
theorem u8_of (m : Nat) (h : m < 256) : ((UInt8.ofNat m).toNat : Int) = (m : Int) := by rw [UInt8.toNat_ofNat']; omega
theorem bv_seal (xs : List UInt8) : bv (sealL xs) = [.int .u8 ((crcS xs : Int) % 256), .int .u8 ((crcS xs : Int) / 256 % 256), .int .u8 ((crcS xs : Int) / 65536 % 256), .int .u8 ((crcS xs : Int) / 16777216)] := by
  have hc := crcS_lt xs
  unfold bv sealL
  simp only [List.map_cons, List.map_nil]
  rw [u8_of _ (by omega), u8_of _ (by omega), u8_of _ (by omega), u8_of _ (by omega)]
  rw [show crcS xs / 16777216 % 256 = crcS xs / 16777216 from by omega]
  simp
theorem own_lit (w : World) (C : Array Value) (xs : List UInt8) (h : C.toList = bv xs) (hl : xs.length ≤ maxLen) : Own (w.alloc (.cells C 5)) w.heap.size (.slice (some ⟨w.heap.size, 0, none⟩) xs.length xs.length) xs := by
  have hs : C.size = xs.length := by rw [← Array.length_toList, h, bv_length]
  have h1 := World.ownsRow_lit (base := w.heap.size) (e := 5) (size := 1) w C xs.length (Nat.le_refl _) hl (by omega)
  rw [h] at h1
  exact h1
set_option maxRecDepth 20000 in
set_option maxHeartbeats 400000 in
theorem sealOf_any (ao : Option Addr) (cap : Nat) (xs : List UInt8) (w : World) (hx : Rd w ao xs) (hl : xs.length ≤ 140737488355328) (ht : TabOk w) :
    Calls Tryd.prog 38 #[.slice ao xs.length cap] w fun e w' => e = .returned (.slice (some ⟨w.heap.size, 0, none⟩) 4 4) ∧ Own w' w.heap.size (.slice (some ⟨w.heap.size, 0, none⟩) 4 4) (sealL xs) ∧ Below w.heap.size w w' ∧ w.heap.size < w'.heap.size := by
  go_enter Tryd.func38, Tryd.ntmps38
  go_wp2_with fail
  refine (crc_any' ao cap xs w hx hl ht).mono ?_
  rintro e w1 ⟨rfl, hw⟩
  subst hw
  have hc := crcS_lt xs
  go_wp2
  go_ret
  exact ⟨rfl, own_lit w1 _ (sealL xs) (by rw [bv_seal]) (by simp [sealL, maxLen]), (Below.refl _ _).alloc (Nat.le_refl _) _, by simp⟩

set_option maxRecDepth 20000 in
set_option maxHeartbeats 400000 in
theorem seal_any (ao : Option Addr) (cap : Nat) (xs : List UInt8) (w : World) (hx : Rd w ao xs) (hnil : ao = none → cap = 0) (hl : xs.length + 4 ≤ 140737488355328) (ht : TabOk w) :
    Calls Tryd.prog 13 #[.slice ao xs.length cap] w fun e w' => ∃ v, e = .returned v ∧ Own w' w.heap.size v (xs ++ sealL xs) ∧ Below w.heap.size w w' := by
  have HN : Hid (ao = none → cap = 0) := hnil
  clear hnil
  go_enter Tryd.func13, Tryd.ntmps13
  go_wp2_with fail
  refine (sealOf_any ao cap xs w hx (by omega) ht).mono ?_
  rintro e w1 ⟨rfl, hown1, hb1, hs1⟩
  obtain ⟨aq, cq, hv, -, -, -, hr1, -⟩ := hown1.val
  simp only [Value.slice.injEq] at hv
  rw [← hv.1] at hr1
  clear hv
  go_wp2_with fail
  refine (concat_any w1.heap.size 0 2 [⟨ao, cap, xs⟩, ⟨some ⟨w.heap.size, 0, none⟩, 4, sealL xs⟩] _ (by simp) (cells2 (by simp [Part.v]) (by simp [Part.v, sealL]) ⟨(hx.below hb1).alloc _, HN.out⟩ ⟨hr1.alloc _, fun h => by cases h⟩) (by rw [catL2, List.length_append]; simp only [sealL, List.length_cons, List.length_nil]; omega)).mono ?_
  rintro e w2 ⟨v, rfl, hown, hb2⟩
  go_wp2
  go_ret
  rw [catL2] at hown
  have hz : w.heap.size ≤ (w1.alloc (.cells #[.slice ao xs.length cap, .slice (some ⟨w.heap.size, 0, none⟩) 4 4] 23)).heap.size := by simp; omega
  exact ⟨v, rfl, hown.base hz, (hb1.alloc (by omega) _).trans (hb2.mono hz)⟩

theorem sealOf_n (ao : Option Addr) (n cap : Nat) (xs : List UInt8) (hn : n = xs.length) (w : World) (hx : Rd w ao xs) (hl : n ≤ 140737488355328) (ht : TabOk w) :
    Calls Tryd.prog 38 #[.slice ao n cap] w fun e w' => e = .returned (.slice (some ⟨w.heap.size, 0, none⟩) 4 4) ∧ Own w' w.heap.size (.slice (some ⟨w.heap.size, 0, none⟩) 4 4) (sealL xs) ∧ Below w.heap.size w w' ∧ w.heap.size < w'.heap.size := by subst hn; exact sealOf_any ao cap xs w hx hl ht
theorem crc_n (ao : Option Addr) (n cap : Nat) (xs : List UInt8) (hn : n = xs.length) (w : World) (hx : Rd w ao xs) (hl : n ≤ 140737488355328) (ht : TabOk w) :
    Calls Tryd.prog 71 #[.slice ao n cap] w fun e w' => e = .returned (.int .u32 (crcS xs : Nat)) ∧ w' = w := by subst hn; exact crc_any' ao cap xs w hx hl ht
theorem seal_n (ao : Option Addr) (n cap : Nat) (xs : List UInt8) (hn : n = xs.length) (w : World) (hx : Rd w ao xs) (hnil : ao = none → cap = 0) (hl : n + 4 ≤ 140737488355328) (ht : TabOk w) :
    Calls Tryd.prog 13 #[.slice ao n cap] w fun e w' => ∃ v, e = .returned v ∧ Own w' w.heap.size v (xs ++ sealL xs) ∧ Below w.heap.size w w' := by subst hn; exact seal_any ao cap xs w hx hnil hl ht
theorem Rd.of_own {w : World} {B : Nat} {ao : Option Addr} {n cap : Nat} {xs : List UInt8} (h : Own w B (.slice ao n cap) xs) : Rd w ao xs := by
  obtain ⟨a, c, hv, -, -, -, hr, -⟩ := h.val
  simp only [Value.slice.injEq] at hv
  rw [hv.1]
  exact hr
end Go.Proofs.YtjigbopkmffjaaaDoor
