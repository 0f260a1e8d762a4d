import Derived.Test.YtplncfahpdmcoaaGreatDoorUDp
import Derived.Test.YtplncfahpdmcoaaGreatDoorSeal
import Derived.Test.YtplncfahpdmcoaaGreatDoorClone
import Derived.Test.YtplncfahpdmcoaaGreatDoorRegn
namespace Go.Proofs.YtplncfahpdmcoaaGreatDoor
set_option linter.unusedVariables false
set_option linter.unusedSimpArgs false
open Go.RowKit
/-- a unit's value -/
abbrev unV (u : Un) (da : Option Addr) (dc : Nat) (ga : Option Addr) (gc : Nat) : Value := .agg #[.int .i64 u.kind, .int .u64 u.ep, .int .u64 u.se, .int .i64 u.path, .int .i64 u.idx, .int .i64 u.cnt, .slice da u.data.length dc, .int .i64 u.code, .slice ga u.got.length gc]
/-- what read gives: a unit with memory of its own -/
def RdOut (W : World) (p B g : Nat) (u : Un) (y : List UInt8) (f : Int) (er : Ending) (w' : World) : Prop := ∃ da dc ga gc, er = .returned (unV u da dc ga gc) ∧ Own w' (g + 1) (.slice da u.data.length dc) u.data ∧ OwnR w' (g + 1) (.slice ga u.got.length gc) u.got ∧ RS w' p B y f ∧ Below W.heap.size W w'
section
set_option maxRecDepth 20000
set_option maxHeartbeats 3200000
theorem read_0a {p B n1 n2 n3 : Nat} {ys y1 y2 y3 : List UInt8} {f f1 f2 f3 : Int} (b2 b3 : Bool) (W w : World) (h : RS w p B ys f) (hW : Below W.heap.size W w) (hpW : W.heap.size ≤ p)
    (e1 : nmS mxU (ys, f) = (n1, y1, f1)) (hk : n1 ≠ 1 ∧ n1 ≠ 2 ∧ n1 ≠ 3) (e2 : nmS mxU (y1, mustF false f1) = (n2, y2, f2)) (hb2 : b2 = true ↔ nameOk (n2 : Int)) (e3 : nmS mxU (y2, mustF b2 f2) = (n3, y3, f3)) (hb3 : b3 = true ↔ nameOk (n3 : Int)) (hf : ¬ mustF b3 f3 = 0) :
    Calls Tryz.prog 29 #[.pointer (some ⟨p, 0, none⟩)] w fun er w' => RdOut W p B w.heap.size ⟨(n1 : Nat), (n2 : Nat), (n3 : Nat), 0, 0, 0, [], 0, []⟩ y3 (mustF b3 f3) er w' := by
  have HP : Hid (W.heap.size ≤ p ∧ p < w.heap.size) := ⟨hpW, h.lt⟩
  have HE1 : Hid _ := e1
  have HE2 : Hid _ := e2
  have HE3 : Hid _ := e3
  have HQ2 : Hid _ := hb2
  have HQ3 : Hid _ := hb3
  have HR0 : Hid (RS w p B ys f) := h
  have HW0 : Hid (Below W.heap.size W w) := hW
  have HK : Hid (KindIs (n1 : Int) kd0 false) := .inr (.inr (.inr ⟨⟨by omega, by omega, by omega⟩, rfl, rfl⟩))
  clear hk
  clear h hW hpW e1 e2 e3 hb2 hb3
  have hsf := fun (u : World) (a : Addr) (n : Nat) => run_store Tryz.prog u a (.func (.func n) #[] #[]) .plain rfl
  have hsn := fun (u : World) (a : Addr) => run_store Tryz.prog u a .nilFunc .plain rfl
  go_enter Tryz.func29, Tryz.ntmps29
  go_wp2_with fail
  refine Calls.mono (small_t _ (RS.below HR0.out (al (Below.refl _ _) _)) HE1.out) ?_
  rintro er1 w1 ⟨rfl, hr, hg⟩
  obtain ⟨g, hgs⟩ : ∃ g, g = w.heap.size := ⟨_, rfl⟩
  rw [← hgs]
  have HGS : Hid (g = w.heap.size) := hgs
  have HPG : Hid (p < g) := by unfold Hid; rw [hgs]; exact HP.out.2
  have HU1 : Hid (UBx w1 g #[.int .i64 0, .int .u64 0, .int .u64 0, .int .i64 0, .int .i64 0, .int .i64 0, .slice none 0 0, .int .i64 0, .slice none 0 0]) := by unfold Hid; rw [hgs]; exact gr_box hg (by have := HP.out; omega) (heap_alloc_new w _)
  have HR1 : Hid (RS w1 p B y1 f1) := hr
  have HW1 : Hid (Below W.heap.size W w1) := (HW0.out.alloc HW0.out.size _).grown hg (HW0.out.alloc HW0.out.size _).size (fun j hj => by cases hj; exact HP.out.1)
  clear hr hg hgs
  have c0 : w1.cell? ⟨g, 0, none⟩ = some (.int .i64 0) := by rw [cell_of_row _ _ _ _ _ _ HU1.out]; rfl
  have z0 : w1.frozen? ⟨g, 0, none⟩ = false := by simp [World.frozen?, HU1.out]
  obtain ⟨x1, hx1⟩ : ∃ x : World, x = w1.setCell ⟨g, 0, none⟩ (.int .i64 (n1 : Nat)) := ⟨_, rfl⟩
  have HG1x : Hid (w1.grownBy x1 (some g)) := by unfold Hid; rw [hx1]; exact gset1 _ _ _ _
  have HU1x : Hid (UBx x1 g #[.int .i64 (n1 : Nat), .int .u64 0, .int .u64 0, .int .i64 0, .int .i64 0, .int .i64 0, .slice none 0 0, .int .i64 0, .slice none 0 0]) := by unfold Hid UBx; rw [hx1, heap_setCell_same w1 g 0 _ _ _ HU1.out]; rfl
  have HR1x : Hid (RS x1 p B y1 f1) := RS.grown HR1.out HG1x.out (.inr HPG.out)
  have HW1x : Hid (Below W.heap.size W x1) := HW1.out.grown HG1x.out HW1.out.size (fun j hj => by cases hj; have := HP.out; have := HPG.out; omega)
  go_wp2_with fail
  rw [← hx1]
  clear hx1 c0 z0
  refine Calls.mono (kindOf_t _ _ _ HK.out _) ?_
  rintro er1 w2 ⟨rfl, hb⟩
  have HU2 : Hid (UBx w2 g #[.int .i64 (n1 : Nat), .int .u64 0, .int .u64 0, .int .i64 0, .int .i64 0, .int .i64 0, .slice none 0 0, .int .i64 0, .slice none 0 0]) := (hb.block g (Array.getElem?_eq_some_iff.1 HU1x.out).1).trans HU1x.out
  have HR2 : Hid (RS w2 p B y1 f1) := RS.below HR1x.out hb
  have HW2 : Hid (Below W.heap.size W w2) := below_next HW1x.out hb
  have HS2 : Hid (g < w2.heap.size) := (Array.getElem?_eq_some_iff.1 HU2.out).1
  clear hb
  go_wp2_with fail
  refine Calls.mono (must_t false _ (RS.below HR2.out (al (Below.refl _ _) _))) ?_
  rintro er1 w3 ⟨rfl, hr, hg⟩
  have HU3 : Hid (UBx w3 g #[.int .i64 (n1 : Nat), .int .u64 0, .int .u64 0, .int .i64 0, .int .i64 0, .int .i64 0, .slice none 0 0, .int .i64 0, .slice none 0 0]) := gr_box hg (by have := HPG.out; omega) (((al (Below.refl _ _) _).block g HS2.out).trans HU2.out)
  have HK3 : Hid (w3.heap[w2.heap.size]? = some (.cells #[.int .i64 0, .nilFunc, .nilFunc, .nilFunc] 54 (0, 0))) := gr_box hg (by have := HPG.out; have := HS2.out; omega) (heap_alloc_new w2 _)
  have HR3 : Hid (RS w3 p B y1 (mustF false f1)) := hr
  have HW3 : Hid (Below W.heap.size W w3) := (HW2.out.alloc HW2.out.size _).grown hg (HW2.out.alloc HW2.out.size _).size (fun j hj => by cases hj; exact HP.out.1)
  clear hr hg
  obtain ⟨κ, hκ⟩ : ∃ κ, κ = w2.heap.size := ⟨_, rfl⟩
  rw [← hκ] at HK3 HS2 ⊢
  clear hκ
  go_wp2_with fail
  refine Calls.mono (number_t (m := mxU) _ HR3.out HE2.out) ?_
  rintro er1 w4 ⟨rfl, hr, hg⟩
  have HU4 : Hid (UBx w4 g #[.int .i64 (n1 : Nat), .int .u64 0, .int .u64 0, .int .i64 0, .int .i64 0, .int .i64 0, .slice none 0 0, .int .i64 0, .slice none 0 0]) := gr_box hg (by have := HPG.out; omega) HU3.out
  have HK4 : Hid (w4.heap[κ]? = some (.cells #[.int .i64 0, .nilFunc, .nilFunc, .nilFunc] 54 (0, 0))) := gr_box hg (by have := HPG.out; have := HS2.out; omega) HK3.out
  have HR4 : Hid (RS w4 p B y2 f2) := hr
  have HW4 : Hid (Below W.heap.size W w4) := HW3.out.grown hg HW3.out.size (fun j hj => by cases hj; exact HP.out.1)
  clear hr hg
  have c1 : w4.cell? ⟨g, 1, none⟩ = some (.int .u64 0) := by rw [cell_of_row _ _ _ _ _ _ HU4.out]; rfl
  have z1 : w4.frozen? ⟨g, 1, none⟩ = false := by simp [World.frozen?, HU4.out]
  obtain ⟨x4, hx4⟩ : ∃ x : World, x = w4.setCell ⟨g, 1, none⟩ (.int .u64 (n2 : Nat)) := ⟨_, rfl⟩
  have HG4x : Hid (w4.grownBy x4 (some g)) := by unfold Hid; rw [hx4]; exact gset1 _ _ _ _
  have HU4x : Hid (UBx x4 g #[.int .i64 (n1 : Nat), .int .u64 (n2 : Nat), .int .u64 0, .int .i64 0, .int .i64 0, .int .i64 0, .slice none 0 0, .int .i64 0, .slice none 0 0]) := by unfold Hid UBx; rw [hx4, heap_setCell_same w4 g 1 _ _ _ HU4.out]; rfl
  have HK4x : Hid (x4.heap[κ]? = some (.cells #[.int .i64 0, .nilFunc, .nilFunc, .nilFunc] 54 (0, 0))) := gr_box HG4x.out (by have := HS2.out; omega) HK4.out
  have HR4x : Hid (RS x4 p B y2 f2) := RS.grown HR4.out HG4x.out (.inr HPG.out)
  have HW4x : Hid (Below W.heap.size W x4) := HW4.out.grown HG4x.out HW4.out.size (fun j hj => by cases hj; have := HP.out; have := HPG.out; omega)
  go_wp2_with (go_at_call 45; refine Calls.mono (goodName_b _ b2 HQ2.out _) ?_; rintro er1 wq ⟨rfl, hq⟩; have hq := hq.symm; subst hq)
  rw [← hx4]
  clear hx4 c1 z1
  refine Calls.mono (must_t b2 _ HR4x.out) ?_
  rintro er1 w5 ⟨rfl, hr, hg⟩
  have HU5 : Hid (UBx w5 g #[.int .i64 (n1 : Nat), .int .u64 (n2 : Nat), .int .u64 0, .int .i64 0, .int .i64 0, .int .i64 0, .slice none 0 0, .int .i64 0, .slice none 0 0]) := gr_box hg (by have := HPG.out; omega) HU4x.out
  have HK5 : Hid (w5.heap[κ]? = some (.cells #[.int .i64 0, .nilFunc, .nilFunc, .nilFunc] 54 (0, 0))) := gr_box hg (by have := HPG.out; have := HS2.out; omega) HK4x.out
  have HR5 : Hid (RS w5 p B y2 (mustF b2 f2)) := hr
  have HW5 : Hid (Below W.heap.size W w5) := HW4x.out.grown hg HW4x.out.size (fun j hj => by cases hj; exact HP.out.1)
  clear hr hg
  go_wp2_with fail
  refine Calls.mono (number_t (m := mxU) _ HR5.out HE3.out) ?_
  rintro er1 w6 ⟨rfl, hr, hg⟩
  have HU6 : Hid (UBx w6 g #[.int .i64 (n1 : Nat), .int .u64 (n2 : Nat), .int .u64 0, .int .i64 0, .int .i64 0, .int .i64 0, .slice none 0 0, .int .i64 0, .slice none 0 0]) := gr_box hg (by have := HPG.out; omega) HU5.out
  have HK6 : Hid (w6.heap[κ]? = some (.cells #[.int .i64 0, .nilFunc, .nilFunc, .nilFunc] 54 (0, 0))) := gr_box hg (by have := HPG.out; have := HS2.out; omega) HK5.out
  have HR6 : Hid (RS w6 p B y3 f3) := hr
  have HW6 : Hid (Below W.heap.size W w6) := HW5.out.grown hg HW5.out.size (fun j hj => by cases hj; exact HP.out.1)
  clear hr hg
  have c2 : w6.cell? ⟨g, 2, none⟩ = some (.int .u64 0) := by rw [cell_of_row _ _ _ _ _ _ HU6.out]; rfl
  have z2 : w6.frozen? ⟨g, 2, none⟩ = false := by simp [World.frozen?, HU6.out]
  obtain ⟨x6, hx6⟩ : ∃ x : World, x = w6.setCell ⟨g, 2, none⟩ (.int .u64 (n3 : Nat)) := ⟨_, rfl⟩
  have HG6x : Hid (w6.grownBy x6 (some g)) := by unfold Hid; rw [hx6]; exact gset1 _ _ _ _
  have HU6x : Hid (UBx x6 g #[.int .i64 (n1 : Nat), .int .u64 (n2 : Nat), .int .u64 (n3 : Nat), .int .i64 0, .int .i64 0, .int .i64 0, .slice none 0 0, .int .i64 0, .slice none 0 0]) := by unfold Hid UBx; rw [hx6, heap_setCell_same w6 g 2 _ _ _ HU6.out]; rfl
  have HK6x : Hid (x6.heap[κ]? = some (.cells #[.int .i64 0, .nilFunc, .nilFunc, .nilFunc] 54 (0, 0))) := gr_box HG6x.out (by have := HS2.out; omega) HK6.out
  have HR6x : Hid (RS x6 p B y3 f3) := RS.grown HR6.out HG6x.out (.inr HPG.out)
  have HW6x : Hid (Below W.heap.size W x6) := HW6.out.grown HG6x.out HW6.out.size (fun j hj => by cases hj; have := HP.out; have := HPG.out; omega)
  go_wp2_with (go_at_call 45; refine Calls.mono (goodName_b _ b3 HQ3.out _) ?_; rintro er1 wq ⟨rfl, hq⟩; have hq := hq.symm; subst hq)
  rw [← hx6]
  clear hx6 c2 z2
  refine Calls.mono (must_t b3 _ HR6x.out) ?_
  rintro er1 w7 ⟨rfl, hr, hg⟩
  have HU7 : Hid (UBx w7 g #[.int .i64 (n1 : Nat), .int .u64 (n2 : Nat), .int .u64 (n3 : Nat), .int .i64 0, .int .i64 0, .int .i64 0, .slice none 0 0, .int .i64 0, .slice none 0 0]) := gr_box hg (by have := HPG.out; omega) HU6x.out
  have HK7 : Hid (w7.heap[κ]? = some (.cells #[.int .i64 0, .nilFunc, .nilFunc, .nilFunc] 54 (0, 0))) := gr_box hg (by have := HPG.out; have := HS2.out; omega) HK6x.out
  have HR7 : Hid (RS w7 p B y3 (mustF b3 f3)) := hr
  have HW7 : Hid (Below W.heap.size W w7) := HW6x.out.grown hg HW6x.out.size (fun j hj => by cases hj; exact HP.out.1)
  clear hr hg
  go_wp2_with fail
  refine Calls.mono (err_t _ HR7.out) ?_
  rintro er1 u ⟨rfl, hu⟩
  rw [hu]
  clear hu u
  have hfb : (mustF b3 f3 == 0) = false := by simpa using hf
  obtain ⟨F, hF⟩ : ∃ F, F = mustF b3 f3 := ⟨_, rfl⟩
  rw [← hF] at hf hfb HR7 ⊢
  have HFF : Hid (F = mustF b3 f3) := hF
  clear hF
  go_wp2_with (first
    | (refine wpList_load_g (by rfl) 26 _ rfl g 0 (by rfl) [.int .i64 (n1 : Nat), .int .u64 (n2 : Nat), .int .u64 (n3 : Nat), .int .i64 0, .int .i64 0, .int .i64 0, .slice none 0 0, .int .i64 0, .slice none 0 0] _ (box_range HU7.out) Tryz.underlying26 rfl info_un ?_)
    | (refine wpList_store_mid rfl 26 _ _ rfl g 0 #[.int .i64 (n1 : Nat), .int .u64 (n2 : Nat), .int .u64 (n3 : Nat), .int .i64 0, .int .i64 0, .int .i64 0, .slice none 0 0, .int .i64 0, .slice none 0 0] rfl rfl (box_there HU7.out rfl) (by kernel_rfl) (by simp [Value.oneCell']) ?_))
  (try simp only [Exit.inBlock, Exit.then])
  refine bodyPost_ret (results_cell_row Tryz.results29 _ _ g 26 #[.int .i64 (n1 : Nat), .int .u64 (n2 : Nat), .int .u64 (n3 : Nat), .int .i64 0, .int .i64 0, .int .i64 0, .slice none 0 0, .int .i64 0, .slice none 0 0] (0, 0) _ rfl (box_set HU7.out rfl) Tryz.underlying26 rfl (by kernel_rfl)) rfl ?_
  have hfin := setCells_grown g [.int .i64 (n1 : Nat), .int .u64 (n2 : Nat), .int .u64 (n3 : Nat), .int .i64 0, .int .i64 0, .int .i64 0, .slice none 0 0, .int .i64 0, .slice none 0 0] 0 w7
  rw [← HFF.out, ← HGS.out]
  exact ⟨none, 0, none, 0, rfl, World.ownsRow_nil _ _ _ _, OwnR.nil _ _, RS.grown HR7.out hfin (.inr HPG.out), HW7.out.grown hfin HW7.out.size (fun j hj => by cases hj; have := HP.out; have := HPG.out; omega)⟩
theorem read_1a {p B n1 n2 n3 : Nat} {ys y1 y2 y3 : List UInt8} {f f1 f2 f3 : Int} (b2 b3 : Bool) (W w : World) (h : RS w p B ys f) (hW : Below W.heap.size W w) (hpW : W.heap.size ≤ p)
    (e1 : nmS mxU (ys, f) = (1, y1, f1)) (e2 : nmS mxU (y1, mustF true f1) = (n2, y2, f2)) (hb2 : b2 = true ↔ nameOk (n2 : Int)) (e3 : nmS mxU (y2, mustF b2 f2) = (n3, y3, f3)) (hb3 : b3 = true ↔ nameOk (n3 : Int)) (hf : ¬ mustF b3 f3 = 0) :
    Calls Tryz.prog 29 #[.pointer (some ⟨p, 0, none⟩)] w fun er w' => RdOut W p B w.heap.size ⟨1, (n2 : Nat), (n3 : Nat), 0, 0, 0, [], 0, []⟩ y3 (mustF b3 f3) er w' := by
  have HP : Hid (W.heap.size ≤ p ∧ p < w.heap.size) := ⟨hpW, h.lt⟩
  have HE1 : Hid _ := e1
  have HE2 : Hid _ := e2
  have HE3 : Hid _ := e3
  have HQ2 : Hid _ := hb2
  have HQ3 : Hid _ := hb3
  have HR0 : Hid (RS w p B ys f) := h
  have HW0 : Hid (Below W.heap.size W w) := hW
  have HK : Hid (KindIs (1 : Int) kd1 true) := .inl ⟨rfl, rfl, rfl⟩
  clear h hW hpW e1 e2 e3 hb2 hb3
  have hsf := fun (u : World) (a : Addr) (n : Nat) => run_store Tryz.prog u a (.func (.func n) #[] #[]) .plain rfl
  have hsn := fun (u : World) (a : Addr) => run_store Tryz.prog u a .nilFunc .plain rfl
  go_enter Tryz.func29, Tryz.ntmps29
  go_wp2_with fail
  refine Calls.mono (small_t _ (RS.below HR0.out (al (Below.refl _ _) _)) HE1.out) ?_
  rintro er1 w1 ⟨rfl, hr, hg⟩
  obtain ⟨g, hgs⟩ : ∃ g, g = w.heap.size := ⟨_, rfl⟩
  rw [← hgs]
  have HGS : Hid (g = w.heap.size) := hgs
  have HPG : Hid (p < g) := by unfold Hid; rw [hgs]; exact HP.out.2
  have HU1 : Hid (UBx w1 g #[.int .i64 0, .int .u64 0, .int .u64 0, .int .i64 0, .int .i64 0, .int .i64 0, .slice none 0 0, .int .i64 0, .slice none 0 0]) := by unfold Hid; rw [hgs]; exact gr_box hg (by have := HP.out; omega) (heap_alloc_new w _)
  have HR1 : Hid (RS w1 p B y1 f1) := hr
  have HW1 : Hid (Below W.heap.size W w1) := (HW0.out.alloc HW0.out.size _).grown hg (HW0.out.alloc HW0.out.size _).size (fun j hj => by cases hj; exact HP.out.1)
  clear hr hg hgs
  have c0 : w1.cell? ⟨g, 0, none⟩ = some (.int .i64 0) := by rw [cell_of_row _ _ _ _ _ _ HU1.out]; rfl
  have z0 : w1.frozen? ⟨g, 0, none⟩ = false := by simp [World.frozen?, HU1.out]
  obtain ⟨x1, hx1⟩ : ∃ x : World, x = w1.setCell ⟨g, 0, none⟩ (.int .i64 1) := ⟨_, rfl⟩
  have HG1x : Hid (w1.grownBy x1 (some g)) := by unfold Hid; rw [hx1]; exact gset1 _ _ _ _
  have HU1x : Hid (UBx x1 g #[.int .i64 1, .int .u64 0, .int .u64 0, .int .i64 0, .int .i64 0, .int .i64 0, .slice none 0 0, .int .i64 0, .slice none 0 0]) := by unfold Hid UBx; rw [hx1, heap_setCell_same w1 g 0 _ _ _ HU1.out]; rfl
  have HR1x : Hid (RS x1 p B y1 f1) := RS.grown HR1.out HG1x.out (.inr HPG.out)
  have HW1x : Hid (Below W.heap.size W x1) := HW1.out.grown HG1x.out HW1.out.size (fun j hj => by cases hj; have := HP.out; have := HPG.out; omega)
  go_wp2_with fail
  rw [← hx1]
  clear hx1 c0 z0
  refine Calls.mono (kindOf_t _ _ _ HK.out _) ?_
  rintro er1 w2 ⟨rfl, hb⟩
  have HU2 : Hid (UBx w2 g #[.int .i64 1, .int .u64 0, .int .u64 0, .int .i64 0, .int .i64 0, .int .i64 0, .slice none 0 0, .int .i64 0, .slice none 0 0]) := (hb.block g (Array.getElem?_eq_some_iff.1 HU1x.out).1).trans HU1x.out
  have HR2 : Hid (RS w2 p B y1 f1) := RS.below HR1x.out hb
  have HW2 : Hid (Below W.heap.size W w2) := below_next HW1x.out hb
  have HS2 : Hid (g < w2.heap.size) := (Array.getElem?_eq_some_iff.1 HU2.out).1
  clear hb
  go_wp2_with fail
  refine Calls.mono (must_t true _ (RS.below HR2.out (al (Below.refl _ _) _))) ?_
  rintro er1 w3 ⟨rfl, hr, hg⟩
  have HU3 : Hid (UBx w3 g #[.int .i64 1, .int .u64 0, .int .u64 0, .int .i64 0, .int .i64 0, .int .i64 0, .slice none 0 0, .int .i64 0, .slice none 0 0]) := gr_box hg (by have := HPG.out; omega) (((al (Below.refl _ _) _).block g HS2.out).trans HU2.out)
  have HK3 : Hid (w3.heap[w2.heap.size]? = some (.cells #[.int .i64 1, .func (.func 64) #[] #[], .func (.func 65) #[] #[], .func (.func 66) #[] #[]] 54 (0, 0))) := gr_box hg (by have := HPG.out; have := HS2.out; omega) (heap_alloc_new w2 _)
  have HR3 : Hid (RS w3 p B y1 (mustF true f1)) := hr
  have HW3 : Hid (Below W.heap.size W w3) := (HW2.out.alloc HW2.out.size _).grown hg (HW2.out.alloc HW2.out.size _).size (fun j hj => by cases hj; exact HP.out.1)
  clear hr hg
  obtain ⟨κ, hκ⟩ : ∃ κ, κ = w2.heap.size := ⟨_, rfl⟩
  rw [← hκ] at HK3 HS2 ⊢
  clear hκ
  go_wp2_with fail
  refine Calls.mono (number_t (m := mxU) _ HR3.out HE2.out) ?_
  rintro er1 w4 ⟨rfl, hr, hg⟩
  have HU4 : Hid (UBx w4 g #[.int .i64 1, .int .u64 0, .int .u64 0, .int .i64 0, .int .i64 0, .int .i64 0, .slice none 0 0, .int .i64 0, .slice none 0 0]) := gr_box hg (by have := HPG.out; omega) HU3.out
  have HK4 : Hid (w4.heap[κ]? = some (.cells #[.int .i64 1, .func (.func 64) #[] #[], .func (.func 65) #[] #[], .func (.func 66) #[] #[]] 54 (0, 0))) := gr_box hg (by have := HPG.out; have := HS2.out; omega) HK3.out
  have HR4 : Hid (RS w4 p B y2 f2) := hr
  have HW4 : Hid (Below W.heap.size W w4) := HW3.out.grown hg HW3.out.size (fun j hj => by cases hj; exact HP.out.1)
  clear hr hg
  have c1 : w4.cell? ⟨g, 1, none⟩ = some (.int .u64 0) := by rw [cell_of_row _ _ _ _ _ _ HU4.out]; rfl
  have z1 : w4.frozen? ⟨g, 1, none⟩ = false := by simp [World.frozen?, HU4.out]
  obtain ⟨x4, hx4⟩ : ∃ x : World, x = w4.setCell ⟨g, 1, none⟩ (.int .u64 (n2 : Nat)) := ⟨_, rfl⟩
  have HG4x : Hid (w4.grownBy x4 (some g)) := by unfold Hid; rw [hx4]; exact gset1 _ _ _ _
  have HU4x : Hid (UBx x4 g #[.int .i64 1, .int .u64 (n2 : Nat), .int .u64 0, .int .i64 0, .int .i64 0, .int .i64 0, .slice none 0 0, .int .i64 0, .slice none 0 0]) := by unfold Hid UBx; rw [hx4, heap_setCell_same w4 g 1 _ _ _ HU4.out]; rfl
  have HK4x : Hid (x4.heap[κ]? = some (.cells #[.int .i64 1, .func (.func 64) #[] #[], .func (.func 65) #[] #[], .func (.func 66) #[] #[]] 54 (0, 0))) := gr_box HG4x.out (by have := HS2.out; omega) HK4.out
  have HR4x : Hid (RS x4 p B y2 f2) := RS.grown HR4.out HG4x.out (.inr HPG.out)
  have HW4x : Hid (Below W.heap.size W x4) := HW4.out.grown HG4x.out HW4.out.size (fun j hj => by cases hj; have := HP.out; have := HPG.out; omega)
  go_wp2_with (go_at_call 45; refine Calls.mono (goodName_b _ b2 HQ2.out _) ?_; rintro er1 wq ⟨rfl, hq⟩; have hq := hq.symm; subst hq)
  rw [← hx4]
  clear hx4 c1 z1
  refine Calls.mono (must_t b2 _ HR4x.out) ?_
  rintro er1 w5 ⟨rfl, hr, hg⟩
  have HU5 : Hid (UBx w5 g #[.int .i64 1, .int .u64 (n2 : Nat), .int .u64 0, .int .i64 0, .int .i64 0, .int .i64 0, .slice none 0 0, .int .i64 0, .slice none 0 0]) := gr_box hg (by have := HPG.out; omega) HU4x.out
  have HK5 : Hid (w5.heap[κ]? = some (.cells #[.int .i64 1, .func (.func 64) #[] #[], .func (.func 65) #[] #[], .func (.func 66) #[] #[]] 54 (0, 0))) := gr_box hg (by have := HPG.out; have := HS2.out; omega) HK4x.out
  have HR5 : Hid (RS w5 p B y2 (mustF b2 f2)) := hr
  have HW5 : Hid (Below W.heap.size W w5) := HW4x.out.grown hg HW4x.out.size (fun j hj => by cases hj; exact HP.out.1)
  clear hr hg
  go_wp2_with fail
  refine Calls.mono (number_t (m := mxU) _ HR5.out HE3.out) ?_
  rintro er1 w6 ⟨rfl, hr, hg⟩
  have HU6 : Hid (UBx w6 g #[.int .i64 1, .int .u64 (n2 : Nat), .int .u64 0, .int .i64 0, .int .i64 0, .int .i64 0, .slice none 0 0, .int .i64 0, .slice none 0 0]) := gr_box hg (by have := HPG.out; omega) HU5.out
  have HK6 : Hid (w6.heap[κ]? = some (.cells #[.int .i64 1, .func (.func 64) #[] #[], .func (.func 65) #[] #[], .func (.func 66) #[] #[]] 54 (0, 0))) := gr_box hg (by have := HPG.out; have := HS2.out; omega) HK5.out
  have HR6 : Hid (RS w6 p B y3 f3) := hr
  have HW6 : Hid (Below W.heap.size W w6) := HW5.out.grown hg HW5.out.size (fun j hj => by cases hj; exact HP.out.1)
  clear hr hg
  have c2 : w6.cell? ⟨g, 2, none⟩ = some (.int .u64 0) := by rw [cell_of_row _ _ _ _ _ _ HU6.out]; rfl
  have z2 : w6.frozen? ⟨g, 2, none⟩ = false := by simp [World.frozen?, HU6.out]
  obtain ⟨x6, hx6⟩ : ∃ x : World, x = w6.setCell ⟨g, 2, none⟩ (.int .u64 (n3 : Nat)) := ⟨_, rfl⟩
  have HG6x : Hid (w6.grownBy x6 (some g)) := by unfold Hid; rw [hx6]; exact gset1 _ _ _ _
  have HU6x : Hid (UBx x6 g #[.int .i64 1, .int .u64 (n2 : Nat), .int .u64 (n3 : Nat), .int .i64 0, .int .i64 0, .int .i64 0, .slice none 0 0, .int .i64 0, .slice none 0 0]) := by unfold Hid UBx; rw [hx6, heap_setCell_same w6 g 2 _ _ _ HU6.out]; rfl
  have HK6x : Hid (x6.heap[κ]? = some (.cells #[.int .i64 1, .func (.func 64) #[] #[], .func (.func 65) #[] #[], .func (.func 66) #[] #[]] 54 (0, 0))) := gr_box HG6x.out (by have := HS2.out; omega) HK6.out
  have HR6x : Hid (RS x6 p B y3 f3) := RS.grown HR6.out HG6x.out (.inr HPG.out)
  have HW6x : Hid (Below W.heap.size W x6) := HW6.out.grown HG6x.out HW6.out.size (fun j hj => by cases hj; have := HP.out; have := HPG.out; omega)
  go_wp2_with (go_at_call 45; refine Calls.mono (goodName_b _ b3 HQ3.out _) ?_; rintro er1 wq ⟨rfl, hq⟩; have hq := hq.symm; subst hq)
  rw [← hx6]
  clear hx6 c2 z2
  refine Calls.mono (must_t b3 _ HR6x.out) ?_
  rintro er1 w7 ⟨rfl, hr, hg⟩
  have HU7 : Hid (UBx w7 g #[.int .i64 1, .int .u64 (n2 : Nat), .int .u64 (n3 : Nat), .int .i64 0, .int .i64 0, .int .i64 0, .slice none 0 0, .int .i64 0, .slice none 0 0]) := gr_box hg (by have := HPG.out; omega) HU6x.out
  have HK7 : Hid (w7.heap[κ]? = some (.cells #[.int .i64 1, .func (.func 64) #[] #[], .func (.func 65) #[] #[], .func (.func 66) #[] #[]] 54 (0, 0))) := gr_box hg (by have := HPG.out; have := HS2.out; omega) HK6x.out
  have HR7 : Hid (RS w7 p B y3 (mustF b3 f3)) := hr
  have HW7 : Hid (Below W.heap.size W w7) := HW6x.out.grown hg HW6x.out.size (fun j hj => by cases hj; exact HP.out.1)
  clear hr hg
  go_wp2_with fail
  refine Calls.mono (err_t _ HR7.out) ?_
  rintro er1 u ⟨rfl, hu⟩
  rw [hu]
  clear hu u
  have hfb : (mustF b3 f3 == 0) = false := by simpa using hf
  obtain ⟨F, hF⟩ : ∃ F, F = mustF b3 f3 := ⟨_, rfl⟩
  rw [← hF] at hf hfb HR7 ⊢
  have HFF : Hid (F = mustF b3 f3) := hF
  clear hF
  go_wp2_with (first
    | (refine wpList_load_g (by rfl) 26 _ rfl g 0 (by rfl) [.int .i64 1, .int .u64 (n2 : Nat), .int .u64 (n3 : Nat), .int .i64 0, .int .i64 0, .int .i64 0, .slice none 0 0, .int .i64 0, .slice none 0 0] _ (box_range HU7.out) Tryz.underlying26 rfl info_un ?_)
    | (refine wpList_store_mid rfl 26 _ _ rfl g 0 #[.int .i64 1, .int .u64 (n2 : Nat), .int .u64 (n3 : Nat), .int .i64 0, .int .i64 0, .int .i64 0, .slice none 0 0, .int .i64 0, .slice none 0 0] rfl rfl (box_there HU7.out rfl) (by kernel_rfl) (by simp [Value.oneCell']) ?_))
  (try simp only [Exit.inBlock, Exit.then])
  refine bodyPost_ret (results_cell_row Tryz.results29 _ _ g 26 #[.int .i64 1, .int .u64 (n2 : Nat), .int .u64 (n3 : Nat), .int .i64 0, .int .i64 0, .int .i64 0, .slice none 0 0, .int .i64 0, .slice none 0 0] (0, 0) _ rfl (box_set HU7.out rfl) Tryz.underlying26 rfl (by kernel_rfl)) rfl ?_
  have hfin := setCells_grown g [.int .i64 1, .int .u64 (n2 : Nat), .int .u64 (n3 : Nat), .int .i64 0, .int .i64 0, .int .i64 0, .slice none 0 0, .int .i64 0, .slice none 0 0] 0 w7
  rw [← HFF.out, ← HGS.out]
  exact ⟨none, 0, none, 0, rfl, World.ownsRow_nil _ _ _ _, OwnR.nil _ _, RS.grown HR7.out hfin (.inr HPG.out), HW7.out.grown hfin HW7.out.size (fun j hj => by cases hj; have := HP.out; have := HPG.out; omega)⟩
theorem read_2a {p B n1 n2 n3 : Nat} {ys y1 y2 y3 : List UInt8} {f f1 f2 f3 : Int} (b2 b3 : Bool) (W w : World) (h : RS w p B ys f) (hW : Below W.heap.size W w) (hpW : W.heap.size ≤ p)
    (e1 : nmS mxU (ys, f) = (2, y1, f1)) (e2 : nmS mxU (y1, mustF true f1) = (n2, y2, f2)) (hb2 : b2 = true ↔ nameOk (n2 : Int)) (e3 : nmS mxU (y2, mustF b2 f2) = (n3, y3, f3)) (hb3 : b3 = true ↔ nameOk (n3 : Int)) (hf : ¬ mustF b3 f3 = 0) :
    Calls Tryz.prog 29 #[.pointer (some ⟨p, 0, none⟩)] w fun er w' => RdOut W p B w.heap.size ⟨2, (n2 : Nat), (n3 : Nat), 0, 0, 0, [], 0, []⟩ y3 (mustF b3 f3) er w' := by
  have HP : Hid (W.heap.size ≤ p ∧ p < w.heap.size) := ⟨hpW, h.lt⟩
  have HE1 : Hid _ := e1
  have HE2 : Hid _ := e2
  have HE3 : Hid _ := e3
  have HQ2 : Hid _ := hb2
  have HQ3 : Hid _ := hb3
  have HR0 : Hid (RS w p B ys f) := h
  have HW0 : Hid (Below W.heap.size W w) := hW
  have HK : Hid (KindIs (2 : Int) kd2 true) := .inr (.inl ⟨rfl, rfl, rfl⟩)
  clear h hW hpW e1 e2 e3 hb2 hb3
  have hsf := fun (u : World) (a : Addr) (n : Nat) => run_store Tryz.prog u a (.func (.func n) #[] #[]) .plain rfl
  have hsn := fun (u : World) (a : Addr) => run_store Tryz.prog u a .nilFunc .plain rfl
  go_enter Tryz.func29, Tryz.ntmps29
  go_wp2_with fail
  refine Calls.mono (small_t _ (RS.below HR0.out (al (Below.refl _ _) _)) HE1.out) ?_
  rintro er1 w1 ⟨rfl, hr, hg⟩
  obtain ⟨g, hgs⟩ : ∃ g, g = w.heap.size := ⟨_, rfl⟩
  rw [← hgs]
  have HGS : Hid (g = w.heap.size) := hgs
  have HPG : Hid (p < g) := by unfold Hid; rw [hgs]; exact HP.out.2
  have HU1 : Hid (UBx w1 g #[.int .i64 0, .int .u64 0, .int .u64 0, .int .i64 0, .int .i64 0, .int .i64 0, .slice none 0 0, .int .i64 0, .slice none 0 0]) := by unfold Hid; rw [hgs]; exact gr_box hg (by have := HP.out; omega) (heap_alloc_new w _)
  have HR1 : Hid (RS w1 p B y1 f1) := hr
  have HW1 : Hid (Below W.heap.size W w1) := (HW0.out.alloc HW0.out.size _).grown hg (HW0.out.alloc HW0.out.size _).size (fun j hj => by cases hj; exact HP.out.1)
  clear hr hg hgs
  have c0 : w1.cell? ⟨g, 0, none⟩ = some (.int .i64 0) := by rw [cell_of_row _ _ _ _ _ _ HU1.out]; rfl
  have z0 : w1.frozen? ⟨g, 0, none⟩ = false := by simp [World.frozen?, HU1.out]
  obtain ⟨x1, hx1⟩ : ∃ x : World, x = w1.setCell ⟨g, 0, none⟩ (.int .i64 2) := ⟨_, rfl⟩
  have HG1x : Hid (w1.grownBy x1 (some g)) := by unfold Hid; rw [hx1]; exact gset1 _ _ _ _
  have HU1x : Hid (UBx x1 g #[.int .i64 2, .int .u64 0, .int .u64 0, .int .i64 0, .int .i64 0, .int .i64 0, .slice none 0 0, .int .i64 0, .slice none 0 0]) := by unfold Hid UBx; rw [hx1, heap_setCell_same w1 g 0 _ _ _ HU1.out]; rfl
  have HR1x : Hid (RS x1 p B y1 f1) := RS.grown HR1.out HG1x.out (.inr HPG.out)
  have HW1x : Hid (Below W.heap.size W x1) := HW1.out.grown HG1x.out HW1.out.size (fun j hj => by cases hj; have := HP.out; have := HPG.out; omega)
  go_wp2_with fail
  rw [← hx1]
  clear hx1 c0 z0
  refine Calls.mono (kindOf_t _ _ _ HK.out _) ?_
  rintro er1 w2 ⟨rfl, hb⟩
  have HU2 : Hid (UBx w2 g #[.int .i64 2, .int .u64 0, .int .u64 0, .int .i64 0, .int .i64 0, .int .i64 0, .slice none 0 0, .int .i64 0, .slice none 0 0]) := (hb.block g (Array.getElem?_eq_some_iff.1 HU1x.out).1).trans HU1x.out
  have HR2 : Hid (RS w2 p B y1 f1) := RS.below HR1x.out hb
  have HW2 : Hid (Below W.heap.size W w2) := below_next HW1x.out hb
  have HS2 : Hid (g < w2.heap.size) := (Array.getElem?_eq_some_iff.1 HU2.out).1
  clear hb
  go_wp2_with fail
  refine Calls.mono (must_t true _ (RS.below HR2.out (al (Below.refl _ _) _))) ?_
  rintro er1 w3 ⟨rfl, hr, hg⟩
  have HU3 : Hid (UBx w3 g #[.int .i64 2, .int .u64 0, .int .u64 0, .int .i64 0, .int .i64 0, .int .i64 0, .slice none 0 0, .int .i64 0, .slice none 0 0]) := gr_box hg (by have := HPG.out; omega) (((al (Below.refl _ _) _).block g HS2.out).trans HU2.out)
  have HK3 : Hid (w3.heap[w2.heap.size]? = some (.cells #[.int .i64 2, .func (.func 67) #[] #[], .func (.func 68) #[] #[], .func (.func 69) #[] #[]] 54 (0, 0))) := gr_box hg (by have := HPG.out; have := HS2.out; omega) (heap_alloc_new w2 _)
  have HR3 : Hid (RS w3 p B y1 (mustF true f1)) := hr
  have HW3 : Hid (Below W.heap.size W w3) := (HW2.out.alloc HW2.out.size _).grown hg (HW2.out.alloc HW2.out.size _).size (fun j hj => by cases hj; exact HP.out.1)
  clear hr hg
  obtain ⟨κ, hκ⟩ : ∃ κ, κ = w2.heap.size := ⟨_, rfl⟩
  rw [← hκ] at HK3 HS2 ⊢
  clear hκ
  go_wp2_with fail
  refine Calls.mono (number_t (m := mxU) _ HR3.out HE2.out) ?_
  rintro er1 w4 ⟨rfl, hr, hg⟩
  have HU4 : Hid (UBx w4 g #[.int .i64 2, .int .u64 0, .int .u64 0, .int .i64 0, .int .i64 0, .int .i64 0, .slice none 0 0, .int .i64 0, .slice none 0 0]) := gr_box hg (by have := HPG.out; omega) HU3.out
  have HK4 : Hid (w4.heap[κ]? = some (.cells #[.int .i64 2, .func (.func 67) #[] #[], .func (.func 68) #[] #[], .func (.func 69) #[] #[]] 54 (0, 0))) := gr_box hg (by have := HPG.out; have := HS2.out; omega) HK3.out
  have HR4 : Hid (RS w4 p B y2 f2) := hr
  have HW4 : Hid (Below W.heap.size W w4) := HW3.out.grown hg HW3.out.size (fun j hj => by cases hj; exact HP.out.1)
  clear hr hg
  have c1 : w4.cell? ⟨g, 1, none⟩ = some (.int .u64 0) := by rw [cell_of_row _ _ _ _ _ _ HU4.out]; rfl
  have z1 : w4.frozen? ⟨g, 1, none⟩ = false := by simp [World.frozen?, HU4.out]
  obtain ⟨x4, hx4⟩ : ∃ x : World, x = w4.setCell ⟨g, 1, none⟩ (.int .u64 (n2 : Nat)) := ⟨_, rfl⟩
  have HG4x : Hid (w4.grownBy x4 (some g)) := by unfold Hid; rw [hx4]; exact gset1 _ _ _ _
  have HU4x : Hid (UBx x4 g #[.int .i64 2, .int .u64 (n2 : Nat), .int .u64 0, .int .i64 0, .int .i64 0, .int .i64 0, .slice none 0 0, .int .i64 0, .slice none 0 0]) := by unfold Hid UBx; rw [hx4, heap_setCell_same w4 g 1 _ _ _ HU4.out]; rfl
  have HK4x : Hid (x4.heap[κ]? = some (.cells #[.int .i64 2, .func (.func 67) #[] #[], .func (.func 68) #[] #[], .func (.func 69) #[] #[]] 54 (0, 0))) := gr_box HG4x.out (by have := HS2.out; omega) HK4.out
  have HR4x : Hid (RS x4 p B y2 f2) := RS.grown HR4.out HG4x.out (.inr HPG.out)
  have HW4x : Hid (Below W.heap.size W x4) := HW4.out.grown HG4x.out HW4.out.size (fun j hj => by cases hj; have := HP.out; have := HPG.out; omega)
  go_wp2_with (go_at_call 45; refine Calls.mono (goodName_b _ b2 HQ2.out _) ?_; rintro er1 wq ⟨rfl, hq⟩; have hq := hq.symm; subst hq)
  rw [← hx4]
  clear hx4 c1 z1
  refine Calls.mono (must_t b2 _ HR4x.out) ?_
  rintro er1 w5 ⟨rfl, hr, hg⟩
  have HU5 : Hid (UBx w5 g #[.int .i64 2, .int .u64 (n2 : Nat), .int .u64 0, .int .i64 0, .int .i64 0, .int .i64 0, .slice none 0 0, .int .i64 0, .slice none 0 0]) := gr_box hg (by have := HPG.out; omega) HU4x.out
  have HK5 : Hid (w5.heap[κ]? = some (.cells #[.int .i64 2, .func (.func 67) #[] #[], .func (.func 68) #[] #[], .func (.func 69) #[] #[]] 54 (0, 0))) := gr_box hg (by have := HPG.out; have := HS2.out; omega) HK4x.out
  have HR5 : Hid (RS w5 p B y2 (mustF b2 f2)) := hr
  have HW5 : Hid (Below W.heap.size W w5) := HW4x.out.grown hg HW4x.out.size (fun j hj => by cases hj; exact HP.out.1)
  clear hr hg
  go_wp2_with fail
  refine Calls.mono (number_t (m := mxU) _ HR5.out HE3.out) ?_
  rintro er1 w6 ⟨rfl, hr, hg⟩
  have HU6 : Hid (UBx w6 g #[.int .i64 2, .int .u64 (n2 : Nat), .int .u64 0, .int .i64 0, .int .i64 0, .int .i64 0, .slice none 0 0, .int .i64 0, .slice none 0 0]) := gr_box hg (by have := HPG.out; omega) HU5.out
  have HK6 : Hid (w6.heap[κ]? = some (.cells #[.int .i64 2, .func (.func 67) #[] #[], .func (.func 68) #[] #[], .func (.func 69) #[] #[]] 54 (0, 0))) := gr_box hg (by have := HPG.out; have := HS2.out; omega) HK5.out
  have HR6 : Hid (RS w6 p B y3 f3) := hr
  have HW6 : Hid (Below W.heap.size W w6) := HW5.out.grown hg HW5.out.size (fun j hj => by cases hj; exact HP.out.1)
  clear hr hg
  have c2 : w6.cell? ⟨g, 2, none⟩ = some (.int .u64 0) := by rw [cell_of_row _ _ _ _ _ _ HU6.out]; rfl
  have z2 : w6.frozen? ⟨g, 2, none⟩ = false := by simp [World.frozen?, HU6.out]
  obtain ⟨x6, hx6⟩ : ∃ x : World, x = w6.setCell ⟨g, 2, none⟩ (.int .u64 (n3 : Nat)) := ⟨_, rfl⟩
  have HG6x : Hid (w6.grownBy x6 (some g)) := by unfold Hid; rw [hx6]; exact gset1 _ _ _ _
  have HU6x : Hid (UBx x6 g #[.int .i64 2, .int .u64 (n2 : Nat), .int .u64 (n3 : Nat), .int .i64 0, .int .i64 0, .int .i64 0, .slice none 0 0, .int .i64 0, .slice none 0 0]) := by unfold Hid UBx; rw [hx6, heap_setCell_same w6 g 2 _ _ _ HU6.out]; rfl
  have HK6x : Hid (x6.heap[κ]? = some (.cells #[.int .i64 2, .func (.func 67) #[] #[], .func (.func 68) #[] #[], .func (.func 69) #[] #[]] 54 (0, 0))) := gr_box HG6x.out (by have := HS2.out; omega) HK6.out
  have HR6x : Hid (RS x6 p B y3 f3) := RS.grown HR6.out HG6x.out (.inr HPG.out)
  have HW6x : Hid (Below W.heap.size W x6) := HW6.out.grown HG6x.out HW6.out.size (fun j hj => by cases hj; have := HP.out; have := HPG.out; omega)
  go_wp2_with (go_at_call 45; refine Calls.mono (goodName_b _ b3 HQ3.out _) ?_; rintro er1 wq ⟨rfl, hq⟩; have hq := hq.symm; subst hq)
  rw [← hx6]
  clear hx6 c2 z2
  refine Calls.mono (must_t b3 _ HR6x.out) ?_
  rintro er1 w7 ⟨rfl, hr, hg⟩
  have HU7 : Hid (UBx w7 g #[.int .i64 2, .int .u64 (n2 : Nat), .int .u64 (n3 : Nat), .int .i64 0, .int .i64 0, .int .i64 0, .slice none 0 0, .int .i64 0, .slice none 0 0]) := gr_box hg (by have := HPG.out; omega) HU6x.out
  have HK7 : Hid (w7.heap[κ]? = some (.cells #[.int .i64 2, .func (.func 67) #[] #[], .func (.func 68) #[] #[], .func (.func 69) #[] #[]] 54 (0, 0))) := gr_box hg (by have := HPG.out; have := HS2.out; omega) HK6x.out
  have HR7 : Hid (RS w7 p B y3 (mustF b3 f3)) := hr
  have HW7 : Hid (Below W.heap.size W w7) := HW6x.out.grown hg HW6x.out.size (fun j hj => by cases hj; exact HP.out.1)
  clear hr hg
  go_wp2_with fail
  refine Calls.mono (err_t _ HR7.out) ?_
  rintro er1 u ⟨rfl, hu⟩
  rw [hu]
  clear hu u
  have hfb : (mustF b3 f3 == 0) = false := by simpa using hf
  obtain ⟨F, hF⟩ : ∃ F, F = mustF b3 f3 := ⟨_, rfl⟩
  rw [← hF] at hf hfb HR7 ⊢
  have HFF : Hid (F = mustF b3 f3) := hF
  clear hF
  go_wp2_with (first
    | (refine wpList_load_g (by rfl) 26 _ rfl g 0 (by rfl) [.int .i64 2, .int .u64 (n2 : Nat), .int .u64 (n3 : Nat), .int .i64 0, .int .i64 0, .int .i64 0, .slice none 0 0, .int .i64 0, .slice none 0 0] _ (box_range HU7.out) Tryz.underlying26 rfl info_un ?_)
    | (refine wpList_store_mid rfl 26 _ _ rfl g 0 #[.int .i64 2, .int .u64 (n2 : Nat), .int .u64 (n3 : Nat), .int .i64 0, .int .i64 0, .int .i64 0, .slice none 0 0, .int .i64 0, .slice none 0 0] rfl rfl (box_there HU7.out rfl) (by kernel_rfl) (by simp [Value.oneCell']) ?_))
  (try simp only [Exit.inBlock, Exit.then])
  refine bodyPost_ret (results_cell_row Tryz.results29 _ _ g 26 #[.int .i64 2, .int .u64 (n2 : Nat), .int .u64 (n3 : Nat), .int .i64 0, .int .i64 0, .int .i64 0, .slice none 0 0, .int .i64 0, .slice none 0 0] (0, 0) _ rfl (box_set HU7.out rfl) Tryz.underlying26 rfl (by kernel_rfl)) rfl ?_
  have hfin := setCells_grown g [.int .i64 2, .int .u64 (n2 : Nat), .int .u64 (n3 : Nat), .int .i64 0, .int .i64 0, .int .i64 0, .slice none 0 0, .int .i64 0, .slice none 0 0] 0 w7
  rw [← HFF.out, ← HGS.out]
  exact ⟨none, 0, none, 0, rfl, World.ownsRow_nil _ _ _ _, OwnR.nil _ _, RS.grown HR7.out hfin (.inr HPG.out), HW7.out.grown hfin HW7.out.size (fun j hj => by cases hj; have := HP.out; have := HPG.out; omega)⟩
theorem read_3a {p B n1 n2 n3 : Nat} {ys y1 y2 y3 : List UInt8} {f f1 f2 f3 : Int} (b2 b3 : Bool) (W w : World) (h : RS w p B ys f) (hW : Below W.heap.size W w) (hpW : W.heap.size ≤ p)
    (e1 : nmS mxU (ys, f) = (3, y1, f1)) (e2 : nmS mxU (y1, mustF true f1) = (n2, y2, f2)) (hb2 : b2 = true ↔ nameOk (n2 : Int)) (e3 : nmS mxU (y2, mustF b2 f2) = (n3, y3, f3)) (hb3 : b3 = true ↔ nameOk (n3 : Int)) (hf : ¬ mustF b3 f3 = 0) :
    Calls Tryz.prog 29 #[.pointer (some ⟨p, 0, none⟩)] w fun er w' => RdOut W p B w.heap.size ⟨3, (n2 : Nat), (n3 : Nat), 0, 0, 0, [], 0, []⟩ y3 (mustF b3 f3) er w' := by
  have HP : Hid (W.heap.size ≤ p ∧ p < w.heap.size) := ⟨hpW, h.lt⟩
  have HE1 : Hid _ := e1
  have HE2 : Hid _ := e2
  have HE3 : Hid _ := e3
  have HQ2 : Hid _ := hb2
  have HQ3 : Hid _ := hb3
  have HR0 : Hid (RS w p B ys f) := h
  have HW0 : Hid (Below W.heap.size W w) := hW
  have HK : Hid (KindIs (3 : Int) kd3 true) := .inr (.inr (.inl ⟨rfl, rfl, rfl⟩))
  clear h hW hpW e1 e2 e3 hb2 hb3
  have hsf := fun (u : World) (a : Addr) (n : Nat) => run_store Tryz.prog u a (.func (.func n) #[] #[]) .plain rfl
  have hsn := fun (u : World) (a : Addr) => run_store Tryz.prog u a .nilFunc .plain rfl
  go_enter Tryz.func29, Tryz.ntmps29
  go_wp2_with fail
  refine Calls.mono (small_t _ (RS.below HR0.out (al (Below.refl _ _) _)) HE1.out) ?_
  rintro er1 w1 ⟨rfl, hr, hg⟩
  obtain ⟨g, hgs⟩ : ∃ g, g = w.heap.size := ⟨_, rfl⟩
  rw [← hgs]
  have HGS : Hid (g = w.heap.size) := hgs
  have HPG : Hid (p < g) := by unfold Hid; rw [hgs]; exact HP.out.2
  have HU1 : Hid (UBx w1 g #[.int .i64 0, .int .u64 0, .int .u64 0, .int .i64 0, .int .i64 0, .int .i64 0, .slice none 0 0, .int .i64 0, .slice none 0 0]) := by unfold Hid; rw [hgs]; exact gr_box hg (by have := HP.out; omega) (heap_alloc_new w _)
  have HR1 : Hid (RS w1 p B y1 f1) := hr
  have HW1 : Hid (Below W.heap.size W w1) := (HW0.out.alloc HW0.out.size _).grown hg (HW0.out.alloc HW0.out.size _).size (fun j hj => by cases hj; exact HP.out.1)
  clear hr hg hgs
  have c0 : w1.cell? ⟨g, 0, none⟩ = some (.int .i64 0) := by rw [cell_of_row _ _ _ _ _ _ HU1.out]; rfl
  have z0 : w1.frozen? ⟨g, 0, none⟩ = false := by simp [World.frozen?, HU1.out]
  obtain ⟨x1, hx1⟩ : ∃ x : World, x = w1.setCell ⟨g, 0, none⟩ (.int .i64 3) := ⟨_, rfl⟩
  have HG1x : Hid (w1.grownBy x1 (some g)) := by unfold Hid; rw [hx1]; exact gset1 _ _ _ _
  have HU1x : Hid (UBx x1 g #[.int .i64 3, .int .u64 0, .int .u64 0, .int .i64 0, .int .i64 0, .int .i64 0, .slice none 0 0, .int .i64 0, .slice none 0 0]) := by unfold Hid UBx; rw [hx1, heap_setCell_same w1 g 0 _ _ _ HU1.out]; rfl
  have HR1x : Hid (RS x1 p B y1 f1) := RS.grown HR1.out HG1x.out (.inr HPG.out)
  have HW1x : Hid (Below W.heap.size W x1) := HW1.out.grown HG1x.out HW1.out.size (fun j hj => by cases hj; have := HP.out; have := HPG.out; omega)
  go_wp2_with fail
  rw [← hx1]
  clear hx1 c0 z0
  refine Calls.mono (kindOf_t _ _ _ HK.out _) ?_
  rintro er1 w2 ⟨rfl, hb⟩
  have HU2 : Hid (UBx w2 g #[.int .i64 3, .int .u64 0, .int .u64 0, .int .i64 0, .int .i64 0, .int .i64 0, .slice none 0 0, .int .i64 0, .slice none 0 0]) := (hb.block g (Array.getElem?_eq_some_iff.1 HU1x.out).1).trans HU1x.out
  have HR2 : Hid (RS w2 p B y1 f1) := RS.below HR1x.out hb
  have HW2 : Hid (Below W.heap.size W w2) := below_next HW1x.out hb
  have HS2 : Hid (g < w2.heap.size) := (Array.getElem?_eq_some_iff.1 HU2.out).1
  clear hb
  go_wp2_with fail
  refine Calls.mono (must_t true _ (RS.below HR2.out (al (Below.refl _ _) _))) ?_
  rintro er1 w3 ⟨rfl, hr, hg⟩
  have HU3 : Hid (UBx w3 g #[.int .i64 3, .int .u64 0, .int .u64 0, .int .i64 0, .int .i64 0, .int .i64 0, .slice none 0 0, .int .i64 0, .slice none 0 0]) := gr_box hg (by have := HPG.out; omega) (((al (Below.refl _ _) _).block g HS2.out).trans HU2.out)
  have HK3 : Hid (w3.heap[w2.heap.size]? = some (.cells #[.int .i64 3, .func (.func 70) #[] #[], .func (.func 71) #[] #[], .func (.func 72) #[] #[]] 54 (0, 0))) := gr_box hg (by have := HPG.out; have := HS2.out; omega) (heap_alloc_new w2 _)
  have HR3 : Hid (RS w3 p B y1 (mustF true f1)) := hr
  have HW3 : Hid (Below W.heap.size W w3) := (HW2.out.alloc HW2.out.size _).grown hg (HW2.out.alloc HW2.out.size _).size (fun j hj => by cases hj; exact HP.out.1)
  clear hr hg
  obtain ⟨κ, hκ⟩ : ∃ κ, κ = w2.heap.size := ⟨_, rfl⟩
  rw [← hκ] at HK3 HS2 ⊢
  clear hκ
  go_wp2_with fail
  refine Calls.mono (number_t (m := mxU) _ HR3.out HE2.out) ?_
  rintro er1 w4 ⟨rfl, hr, hg⟩
  have HU4 : Hid (UBx w4 g #[.int .i64 3, .int .u64 0, .int .u64 0, .int .i64 0, .int .i64 0, .int .i64 0, .slice none 0 0, .int .i64 0, .slice none 0 0]) := gr_box hg (by have := HPG.out; omega) HU3.out
  have HK4 : Hid (w4.heap[κ]? = some (.cells #[.int .i64 3, .func (.func 70) #[] #[], .func (.func 71) #[] #[], .func (.func 72) #[] #[]] 54 (0, 0))) := gr_box hg (by have := HPG.out; have := HS2.out; omega) HK3.out
  have HR4 : Hid (RS w4 p B y2 f2) := hr
  have HW4 : Hid (Below W.heap.size W w4) := HW3.out.grown hg HW3.out.size (fun j hj => by cases hj; exact HP.out.1)
  clear hr hg
  have c1 : w4.cell? ⟨g, 1, none⟩ = some (.int .u64 0) := by rw [cell_of_row _ _ _ _ _ _ HU4.out]; rfl
  have z1 : w4.frozen? ⟨g, 1, none⟩ = false := by simp [World.frozen?, HU4.out]
  obtain ⟨x4, hx4⟩ : ∃ x : World, x = w4.setCell ⟨g, 1, none⟩ (.int .u64 (n2 : Nat)) := ⟨_, rfl⟩
  have HG4x : Hid (w4.grownBy x4 (some g)) := by unfold Hid; rw [hx4]; exact gset1 _ _ _ _
  have HU4x : Hid (UBx x4 g #[.int .i64 3, .int .u64 (n2 : Nat), .int .u64 0, .int .i64 0, .int .i64 0, .int .i64 0, .slice none 0 0, .int .i64 0, .slice none 0 0]) := by unfold Hid UBx; rw [hx4, heap_setCell_same w4 g 1 _ _ _ HU4.out]; rfl
  have HK4x : Hid (x4.heap[κ]? = some (.cells #[.int .i64 3, .func (.func 70) #[] #[], .func (.func 71) #[] #[], .func (.func 72) #[] #[]] 54 (0, 0))) := gr_box HG4x.out (by have := HS2.out; omega) HK4.out
  have HR4x : Hid (RS x4 p B y2 f2) := RS.grown HR4.out HG4x.out (.inr HPG.out)
  have HW4x : Hid (Below W.heap.size W x4) := HW4.out.grown HG4x.out HW4.out.size (fun j hj => by cases hj; have := HP.out; have := HPG.out; omega)
  go_wp2_with (go_at_call 45; refine Calls.mono (goodName_b _ b2 HQ2.out _) ?_; rintro er1 wq ⟨rfl, hq⟩; have hq := hq.symm; subst hq)
  rw [← hx4]
  clear hx4 c1 z1
  refine Calls.mono (must_t b2 _ HR4x.out) ?_
  rintro er1 w5 ⟨rfl, hr, hg⟩
  have HU5 : Hid (UBx w5 g #[.int .i64 3, .int .u64 (n2 : Nat), .int .u64 0, .int .i64 0, .int .i64 0, .int .i64 0, .slice none 0 0, .int .i64 0, .slice none 0 0]) := gr_box hg (by have := HPG.out; omega) HU4x.out
  have HK5 : Hid (w5.heap[κ]? = some (.cells #[.int .i64 3, .func (.func 70) #[] #[], .func (.func 71) #[] #[], .func (.func 72) #[] #[]] 54 (0, 0))) := gr_box hg (by have := HPG.out; have := HS2.out; omega) HK4x.out
  have HR5 : Hid (RS w5 p B y2 (mustF b2 f2)) := hr
  have HW5 : Hid (Below W.heap.size W w5) := HW4x.out.grown hg HW4x.out.size (fun j hj => by cases hj; exact HP.out.1)
  clear hr hg
  go_wp2_with fail
  refine Calls.mono (number_t (m := mxU) _ HR5.out HE3.out) ?_
  rintro er1 w6 ⟨rfl, hr, hg⟩
  have HU6 : Hid (UBx w6 g #[.int .i64 3, .int .u64 (n2 : Nat), .int .u64 0, .int .i64 0, .int .i64 0, .int .i64 0, .slice none 0 0, .int .i64 0, .slice none 0 0]) := gr_box hg (by have := HPG.out; omega) HU5.out
  have HK6 : Hid (w6.heap[κ]? = some (.cells #[.int .i64 3, .func (.func 70) #[] #[], .func (.func 71) #[] #[], .func (.func 72) #[] #[]] 54 (0, 0))) := gr_box hg (by have := HPG.out; have := HS2.out; omega) HK5.out
  have HR6 : Hid (RS w6 p B y3 f3) := hr
  have HW6 : Hid (Below W.heap.size W w6) := HW5.out.grown hg HW5.out.size (fun j hj => by cases hj; exact HP.out.1)
  clear hr hg
  have c2 : w6.cell? ⟨g, 2, none⟩ = some (.int .u64 0) := by rw [cell_of_row _ _ _ _ _ _ HU6.out]; rfl
  have z2 : w6.frozen? ⟨g, 2, none⟩ = false := by simp [World.frozen?, HU6.out]
  obtain ⟨x6, hx6⟩ : ∃ x : World, x = w6.setCell ⟨g, 2, none⟩ (.int .u64 (n3 : Nat)) := ⟨_, rfl⟩
  have HG6x : Hid (w6.grownBy x6 (some g)) := by unfold Hid; rw [hx6]; exact gset1 _ _ _ _
  have HU6x : Hid (UBx x6 g #[.int .i64 3, .int .u64 (n2 : Nat), .int .u64 (n3 : Nat), .int .i64 0, .int .i64 0, .int .i64 0, .slice none 0 0, .int .i64 0, .slice none 0 0]) := by unfold Hid UBx; rw [hx6, heap_setCell_same w6 g 2 _ _ _ HU6.out]; rfl
  have HK6x : Hid (x6.heap[κ]? = some (.cells #[.int .i64 3, .func (.func 70) #[] #[], .func (.func 71) #[] #[], .func (.func 72) #[] #[]] 54 (0, 0))) := gr_box HG6x.out (by have := HS2.out; omega) HK6.out
  have HR6x : Hid (RS x6 p B y3 f3) := RS.grown HR6.out HG6x.out (.inr HPG.out)
  have HW6x : Hid (Below W.heap.size W x6) := HW6.out.grown HG6x.out HW6.out.size (fun j hj => by cases hj; have := HP.out; have := HPG.out; omega)
  go_wp2_with (go_at_call 45; refine Calls.mono (goodName_b _ b3 HQ3.out _) ?_; rintro er1 wq ⟨rfl, hq⟩; have hq := hq.symm; subst hq)
  rw [← hx6]
  clear hx6 c2 z2
  refine Calls.mono (must_t b3 _ HR6x.out) ?_
  rintro er1 w7 ⟨rfl, hr, hg⟩
  have HU7 : Hid (UBx w7 g #[.int .i64 3, .int .u64 (n2 : Nat), .int .u64 (n3 : Nat), .int .i64 0, .int .i64 0, .int .i64 0, .slice none 0 0, .int .i64 0, .slice none 0 0]) := gr_box hg (by have := HPG.out; omega) HU6x.out
  have HK7 : Hid (w7.heap[κ]? = some (.cells #[.int .i64 3, .func (.func 70) #[] #[], .func (.func 71) #[] #[], .func (.func 72) #[] #[]] 54 (0, 0))) := gr_box hg (by have := HPG.out; have := HS2.out; omega) HK6x.out
  have HR7 : Hid (RS w7 p B y3 (mustF b3 f3)) := hr
  have HW7 : Hid (Below W.heap.size W w7) := HW6x.out.grown hg HW6x.out.size (fun j hj => by cases hj; exact HP.out.1)
  clear hr hg
  go_wp2_with fail
  refine Calls.mono (err_t _ HR7.out) ?_
  rintro er1 u ⟨rfl, hu⟩
  rw [hu]
  clear hu u
  have hfb : (mustF b3 f3 == 0) = false := by simpa using hf
  obtain ⟨F, hF⟩ : ∃ F, F = mustF b3 f3 := ⟨_, rfl⟩
  rw [← hF] at hf hfb HR7 ⊢
  have HFF : Hid (F = mustF b3 f3) := hF
  clear hF
  go_wp2_with (first
    | (refine wpList_load_g (by rfl) 26 _ rfl g 0 (by rfl) [.int .i64 3, .int .u64 (n2 : Nat), .int .u64 (n3 : Nat), .int .i64 0, .int .i64 0, .int .i64 0, .slice none 0 0, .int .i64 0, .slice none 0 0] _ (box_range HU7.out) Tryz.underlying26 rfl info_un ?_)
    | (refine wpList_store_mid rfl 26 _ _ rfl g 0 #[.int .i64 3, .int .u64 (n2 : Nat), .int .u64 (n3 : Nat), .int .i64 0, .int .i64 0, .int .i64 0, .slice none 0 0, .int .i64 0, .slice none 0 0] rfl rfl (box_there HU7.out rfl) (by kernel_rfl) (by simp [Value.oneCell']) ?_))
  (try simp only [Exit.inBlock, Exit.then])
  refine bodyPost_ret (results_cell_row Tryz.results29 _ _ g 26 #[.int .i64 3, .int .u64 (n2 : Nat), .int .u64 (n3 : Nat), .int .i64 0, .int .i64 0, .int .i64 0, .slice none 0 0, .int .i64 0, .slice none 0 0] (0, 0) _ rfl (box_set HU7.out rfl) Tryz.underlying26 rfl (by kernel_rfl)) rfl ?_
  have hfin := setCells_grown g [.int .i64 3, .int .u64 (n2 : Nat), .int .u64 (n3 : Nat), .int .i64 0, .int .i64 0, .int .i64 0, .slice none 0 0, .int .i64 0, .slice none 0 0] 0 w7
  rw [← HFF.out, ← HGS.out]
  exact ⟨none, 0, none, 0, rfl, World.ownsRow_nil _ _ _ _, OwnR.nil _ _, RS.grown HR7.out hfin (.inr HPG.out), HW7.out.grown hfin HW7.out.size (fun j hj => by cases hj; have := HP.out; have := HPG.out; omega)⟩
theorem read_1b {p B n1 n2 n3 : Nat} {ys y1 y2 y3 : List UInt8} {f f1 f2 f3 : Int} (b2 b3 : Bool) (W w : World) (h : RS w p B ys f) (hW : Below W.heap.size W w) (hpW : W.heap.size ≤ p)
    (e1 : nmS mxU (ys, f) = (1, y1, f1)) (e2 : nmS mxU (y1, mustF true f1) = (n2, y2, f2)) (hb2 : b2 = true ↔ nameOk (n2 : Int)) (e3 : nmS mxU (y2, mustF b2 f2) = (n3, y3, f3)) (hb3 : b3 = true ↔ nameOk (n3 : Int)) (hf : mustF b3 f3 = 0) {m1 m2 m3 : Nat} {v1 v2 v3 v4 d : List UInt8} {t1 t2 t3 t4 : Int} (q1 q2 q3 q4 : Bool) (E1 : nmS mxU (y3, 0) = (m1, v1, t1)) (hq1 : q1 = true ↔ ((m1 : Int) = 1 ∨ (m1 : Int) = 2)) (E2 : nmS mxU (v1, mustF q1 t1) = (m2, v2, t2)) (hq2 : q2 = true ↔ (0 ≤ (m2 : Int) ∧ (m2 : Int) < 64)) (E3 : nmS mxU (v2, mustF q2 t2) = (m3, v3, t3)) (hq3 : q3 = true ↔ ((m2 : Int) < (m3 : Int) ∧ (m3 : Int) ≤ 64)) (E4 : byS 1024 (v3, mustF q3 t3) = (d, v4, t4)) (hq4 : q4 = true ↔ (1 ≤ d.length ∧ d.length ≤ 1024)) :
    Calls Tryz.prog 29 #[.pointer (some ⟨p, 0, none⟩)] w fun er w' => RdOut W p B w.heap.size ⟨1, (n2 : Nat), (n3 : Nat), (m1 : Nat), (m2 : Nat), (m3 : Nat), d, 0, []⟩ v4 (mustF q4 t4) er w' := by
  have HP : Hid (W.heap.size ≤ p ∧ p < w.heap.size) := ⟨hpW, h.lt⟩
  have HE1 : Hid _ := e1
  have HE2 : Hid _ := e2
  have HE3 : Hid _ := e3
  have HQ2 : Hid _ := hb2
  have HQ3 : Hid _ := hb3
  have HR0 : Hid (RS w p B ys f) := h
  have HW0 : Hid (Below W.heap.size W w) := hW
  have HK : Hid (KindIs (1 : Int) kd1 true) := .inl ⟨rfl, rfl, rfl⟩
  have HD1 : Hid _ := E1
  have HD2 : Hid _ := E2
  have HD3 : Hid _ := E3
  have HD4 : Hid _ := E4
  have HT1 : Hid _ := hq1
  have HT2 : Hid _ := hq2
  have HT3 : Hid _ := hq3
  have HT4 : Hid _ := hq4
  clear E1 E2 E3 E4 hq1 hq2 hq3 hq4
  clear h hW hpW e1 e2 e3 hb2 hb3
  have hsf := fun (u : World) (a : Addr) (n : Nat) => run_store Tryz.prog u a (.func (.func n) #[] #[]) .plain rfl
  have hsn := fun (u : World) (a : Addr) => run_store Tryz.prog u a .nilFunc .plain rfl
  go_enter Tryz.func29, Tryz.ntmps29
  go_wp2_with fail
  refine Calls.mono (small_t _ (RS.below HR0.out (al (Below.refl _ _) _)) HE1.out) ?_
  rintro er1 w1 ⟨rfl, hr, hg⟩
  obtain ⟨g, hgs⟩ : ∃ g, g = w.heap.size := ⟨_, rfl⟩
  rw [← hgs]
  have HGS : Hid (g = w.heap.size) := hgs
  have HPG : Hid (p < g) := by unfold Hid; rw [hgs]; exact HP.out.2
  have HU1 : Hid (UBx w1 g #[.int .i64 0, .int .u64 0, .int .u64 0, .int .i64 0, .int .i64 0, .int .i64 0, .slice none 0 0, .int .i64 0, .slice none 0 0]) := by unfold Hid; rw [hgs]; exact gr_box hg (by have := HP.out; omega) (heap_alloc_new w _)
  have HR1 : Hid (RS w1 p B y1 f1) := hr
  have HW1 : Hid (Below W.heap.size W w1) := (HW0.out.alloc HW0.out.size _).grown hg (HW0.out.alloc HW0.out.size _).size (fun j hj => by cases hj; exact HP.out.1)
  clear hr hg hgs
  have c0 : w1.cell? ⟨g, 0, none⟩ = some (.int .i64 0) := by rw [cell_of_row _ _ _ _ _ _ HU1.out]; rfl
  have z0 : w1.frozen? ⟨g, 0, none⟩ = false := by simp [World.frozen?, HU1.out]
  obtain ⟨x1, hx1⟩ : ∃ x : World, x = w1.setCell ⟨g, 0, none⟩ (.int .i64 1) := ⟨_, rfl⟩
  have HG1x : Hid (w1.grownBy x1 (some g)) := by unfold Hid; rw [hx1]; exact gset1 _ _ _ _
  have HU1x : Hid (UBx x1 g #[.int .i64 1, .int .u64 0, .int .u64 0, .int .i64 0, .int .i64 0, .int .i64 0, .slice none 0 0, .int .i64 0, .slice none 0 0]) := by unfold Hid UBx; rw [hx1, heap_setCell_same w1 g 0 _ _ _ HU1.out]; rfl
  have HR1x : Hid (RS x1 p B y1 f1) := RS.grown HR1.out HG1x.out (.inr HPG.out)
  have HW1x : Hid (Below W.heap.size W x1) := HW1.out.grown HG1x.out HW1.out.size (fun j hj => by cases hj; have := HP.out; have := HPG.out; omega)
  go_wp2_with fail
  rw [← hx1]
  clear hx1 c0 z0
  refine Calls.mono (kindOf_t _ _ _ HK.out _) ?_
  rintro er1 w2 ⟨rfl, hb⟩
  have HU2 : Hid (UBx w2 g #[.int .i64 1, .int .u64 0, .int .u64 0, .int .i64 0, .int .i64 0, .int .i64 0, .slice none 0 0, .int .i64 0, .slice none 0 0]) := (hb.block g (Array.getElem?_eq_some_iff.1 HU1x.out).1).trans HU1x.out
  have HR2 : Hid (RS w2 p B y1 f1) := RS.below HR1x.out hb
  have HW2 : Hid (Below W.heap.size W w2) := below_next HW1x.out hb
  have HS2 : Hid (g < w2.heap.size) := (Array.getElem?_eq_some_iff.1 HU2.out).1
  clear hb
  go_wp2_with fail
  refine Calls.mono (must_t true _ (RS.below HR2.out (al (Below.refl _ _) _))) ?_
  rintro er1 w3 ⟨rfl, hr, hg⟩
  have HU3 : Hid (UBx w3 g #[.int .i64 1, .int .u64 0, .int .u64 0, .int .i64 0, .int .i64 0, .int .i64 0, .slice none 0 0, .int .i64 0, .slice none 0 0]) := gr_box hg (by have := HPG.out; omega) (((al (Below.refl _ _) _).block g HS2.out).trans HU2.out)
  have HK3 : Hid (w3.heap[w2.heap.size]? = some (.cells #[.int .i64 1, .func (.func 64) #[] #[], .func (.func 65) #[] #[], .func (.func 66) #[] #[]] 54 (0, 0))) := gr_box hg (by have := HPG.out; have := HS2.out; omega) (heap_alloc_new w2 _)
  have HR3 : Hid (RS w3 p B y1 (mustF true f1)) := hr
  have HW3 : Hid (Below W.heap.size W w3) := (HW2.out.alloc HW2.out.size _).grown hg (HW2.out.alloc HW2.out.size _).size (fun j hj => by cases hj; exact HP.out.1)
  clear hr hg
  obtain ⟨κ, hκ⟩ : ∃ κ, κ = w2.heap.size := ⟨_, rfl⟩
  rw [← hκ] at HK3 HS2 ⊢
  clear hκ
  go_wp2_with fail
  refine Calls.mono (number_t (m := mxU) _ HR3.out HE2.out) ?_
  rintro er1 w4 ⟨rfl, hr, hg⟩
  have HU4 : Hid (UBx w4 g #[.int .i64 1, .int .u64 0, .int .u64 0, .int .i64 0, .int .i64 0, .int .i64 0, .slice none 0 0, .int .i64 0, .slice none 0 0]) := gr_box hg (by have := HPG.out; omega) HU3.out
  have HK4 : Hid (w4.heap[κ]? = some (.cells #[.int .i64 1, .func (.func 64) #[] #[], .func (.func 65) #[] #[], .func (.func 66) #[] #[]] 54 (0, 0))) := gr_box hg (by have := HPG.out; have := HS2.out; omega) HK3.out
  have HR4 : Hid (RS w4 p B y2 f2) := hr
  have HW4 : Hid (Below W.heap.size W w4) := HW3.out.grown hg HW3.out.size (fun j hj => by cases hj; exact HP.out.1)
  clear hr hg
  have c1 : w4.cell? ⟨g, 1, none⟩ = some (.int .u64 0) := by rw [cell_of_row _ _ _ _ _ _ HU4.out]; rfl
  have z1 : w4.frozen? ⟨g, 1, none⟩ = false := by simp [World.frozen?, HU4.out]
  obtain ⟨x4, hx4⟩ : ∃ x : World, x = w4.setCell ⟨g, 1, none⟩ (.int .u64 (n2 : Nat)) := ⟨_, rfl⟩
  have HG4x : Hid (w4.grownBy x4 (some g)) := by unfold Hid; rw [hx4]; exact gset1 _ _ _ _
  have HU4x : Hid (UBx x4 g #[.int .i64 1, .int .u64 (n2 : Nat), .int .u64 0, .int .i64 0, .int .i64 0, .int .i64 0, .slice none 0 0, .int .i64 0, .slice none 0 0]) := by unfold Hid UBx; rw [hx4, heap_setCell_same w4 g 1 _ _ _ HU4.out]; rfl
  have HK4x : Hid (x4.heap[κ]? = some (.cells #[.int .i64 1, .func (.func 64) #[] #[], .func (.func 65) #[] #[], .func (.func 66) #[] #[]] 54 (0, 0))) := gr_box HG4x.out (by have := HS2.out; omega) HK4.out
  have HR4x : Hid (RS x4 p B y2 f2) := RS.grown HR4.out HG4x.out (.inr HPG.out)
  have HW4x : Hid (Below W.heap.size W x4) := HW4.out.grown HG4x.out HW4.out.size (fun j hj => by cases hj; have := HP.out; have := HPG.out; omega)
  go_wp2_with (go_at_call 45; refine Calls.mono (goodName_b _ b2 HQ2.out _) ?_; rintro er1 wq ⟨rfl, hq⟩; have hq := hq.symm; subst hq)
  rw [← hx4]
  clear hx4 c1 z1
  refine Calls.mono (must_t b2 _ HR4x.out) ?_
  rintro er1 w5 ⟨rfl, hr, hg⟩
  have HU5 : Hid (UBx w5 g #[.int .i64 1, .int .u64 (n2 : Nat), .int .u64 0, .int .i64 0, .int .i64 0, .int .i64 0, .slice none 0 0, .int .i64 0, .slice none 0 0]) := gr_box hg (by have := HPG.out; omega) HU4x.out
  have HK5 : Hid (w5.heap[κ]? = some (.cells #[.int .i64 1, .func (.func 64) #[] #[], .func (.func 65) #[] #[], .func (.func 66) #[] #[]] 54 (0, 0))) := gr_box hg (by have := HPG.out; have := HS2.out; omega) HK4x.out
  have HR5 : Hid (RS w5 p B y2 (mustF b2 f2)) := hr
  have HW5 : Hid (Below W.heap.size W w5) := HW4x.out.grown hg HW4x.out.size (fun j hj => by cases hj; exact HP.out.1)
  clear hr hg
  go_wp2_with fail
  refine Calls.mono (number_t (m := mxU) _ HR5.out HE3.out) ?_
  rintro er1 w6 ⟨rfl, hr, hg⟩
  have HU6 : Hid (UBx w6 g #[.int .i64 1, .int .u64 (n2 : Nat), .int .u64 0, .int .i64 0, .int .i64 0, .int .i64 0, .slice none 0 0, .int .i64 0, .slice none 0 0]) := gr_box hg (by have := HPG.out; omega) HU5.out
  have HK6 : Hid (w6.heap[κ]? = some (.cells #[.int .i64 1, .func (.func 64) #[] #[], .func (.func 65) #[] #[], .func (.func 66) #[] #[]] 54 (0, 0))) := gr_box hg (by have := HPG.out; have := HS2.out; omega) HK5.out
  have HR6 : Hid (RS w6 p B y3 f3) := hr
  have HW6 : Hid (Below W.heap.size W w6) := HW5.out.grown hg HW5.out.size (fun j hj => by cases hj; exact HP.out.1)
  clear hr hg
  have c2 : w6.cell? ⟨g, 2, none⟩ = some (.int .u64 0) := by rw [cell_of_row _ _ _ _ _ _ HU6.out]; rfl
  have z2 : w6.frozen? ⟨g, 2, none⟩ = false := by simp [World.frozen?, HU6.out]
  obtain ⟨x6, hx6⟩ : ∃ x : World, x = w6.setCell ⟨g, 2, none⟩ (.int .u64 (n3 : Nat)) := ⟨_, rfl⟩
  have HG6x : Hid (w6.grownBy x6 (some g)) := by unfold Hid; rw [hx6]; exact gset1 _ _ _ _
  have HU6x : Hid (UBx x6 g #[.int .i64 1, .int .u64 (n2 : Nat), .int .u64 (n3 : Nat), .int .i64 0, .int .i64 0, .int .i64 0, .slice none 0 0, .int .i64 0, .slice none 0 0]) := by unfold Hid UBx; rw [hx6, heap_setCell_same w6 g 2 _ _ _ HU6.out]; rfl
  have HK6x : Hid (x6.heap[κ]? = some (.cells #[.int .i64 1, .func (.func 64) #[] #[], .func (.func 65) #[] #[], .func (.func 66) #[] #[]] 54 (0, 0))) := gr_box HG6x.out (by have := HS2.out; omega) HK6.out
  have HR6x : Hid (RS x6 p B y3 f3) := RS.grown HR6.out HG6x.out (.inr HPG.out)
  have HW6x : Hid (Below W.heap.size W x6) := HW6.out.grown HG6x.out HW6.out.size (fun j hj => by cases hj; have := HP.out; have := HPG.out; omega)
  go_wp2_with (go_at_call 45; refine Calls.mono (goodName_b _ b3 HQ3.out _) ?_; rintro er1 wq ⟨rfl, hq⟩; have hq := hq.symm; subst hq)
  rw [← hx6]
  clear hx6 c2 z2
  refine Calls.mono (must_t b3 _ HR6x.out) ?_
  rintro er1 w7 ⟨rfl, hr, hg⟩
  have HU7 : Hid (UBx w7 g #[.int .i64 1, .int .u64 (n2 : Nat), .int .u64 (n3 : Nat), .int .i64 0, .int .i64 0, .int .i64 0, .slice none 0 0, .int .i64 0, .slice none 0 0]) := gr_box hg (by have := HPG.out; omega) HU6x.out
  have HK7 : Hid (w7.heap[κ]? = some (.cells #[.int .i64 1, .func (.func 64) #[] #[], .func (.func 65) #[] #[], .func (.func 66) #[] #[]] 54 (0, 0))) := gr_box hg (by have := HPG.out; have := HS2.out; omega) HK6x.out
  have HR7 : Hid (RS w7 p B y3 (mustF b3 f3)) := hr
  have HW7 : Hid (Below W.heap.size W w7) := HW6x.out.grown hg HW6x.out.size (fun j hj => by cases hj; exact HP.out.1)
  clear hr hg
  go_wp2_with fail
  refine Calls.mono (err_t _ HR7.out) ?_
  rintro er1 u ⟨rfl, hu⟩
  rw [hu]
  clear hu u
  have hfb : (mustF b3 f3 == 0) = true := by simpa using hf
  obtain ⟨F, hF⟩ : ∃ F, F = mustF b3 f3 := ⟨_, rfl⟩
  rw [← hF] at hf hfb HR7 ⊢
  clear hF
  subst hf
  have hkf : w7.cell? ⟨κ, 3, none⟩ = some (.func (.func 66) #[] #[]) := by rw [cell_of_row _ _ _ _ _ _ HK7.out]; rfl
  go_wp2_with fail
  clear hkf
  refine Calls.mono (readData_t q1 q2 q3 q4 g 1 (n2 : Nat) (n3 : Nat) _ _ _ _ _ _ W w7 HR7.out HW7.out HP.out.1 HPG.out HU7.out HD1.out HT1.out HD2.out HT2.out HD3.out HT3.out HD4.out HT4.out) ?_
  rintro er1 w8 ⟨a8, c8, rfl, hr8, hu8, ho8, hw8⟩
  obtain ⟨D, hD⟩ : ∃ D, D = d.length := ⟨_, rfl⟩
  have HU8 : Hid (UBx w8 g #[.int .i64 1, .int .u64 (n2 : Nat), .int .u64 (n3 : Nat), .int .i64 (m1 : Nat), .int .i64 (m2 : Nat), .int .i64 (m3 : Nat), .slice a8 D c8, .int .i64 0, .slice none 0 0]) := by unfold Hid; rw [hD]; exact hu8
  have HR8 : Hid (RS w8 p B v4 (mustF q4 t4)) := hr8
  have HO8 : Hid (Own w8 (g + 1) (.slice a8 d.length c8) d) := ho8
  have HW8 : Hid (Below W.heap.size W w8) := hw8
  have HDD : Hid (D = d.length) := hD
  clear hr8 hu8 ho8 hw8 hD
  go_wp2_with (first
    | (refine wpList_load_g (by rfl) 26 _ rfl g 0 (by rfl) [.int .i64 1, .int .u64 (n2 : Nat), .int .u64 (n3 : Nat), .int .i64 (m1 : Nat), .int .i64 (m2 : Nat), .int .i64 (m3 : Nat), .slice a8 D c8, .int .i64 0, .slice none 0 0] _ (box_range HU8.out) Tryz.underlying26 rfl info_un ?_)
    | (refine wpList_store_mid rfl 26 _ _ rfl g 0 #[.int .i64 1, .int .u64 (n2 : Nat), .int .u64 (n3 : Nat), .int .i64 (m1 : Nat), .int .i64 (m2 : Nat), .int .i64 (m3 : Nat), .slice a8 D c8, .int .i64 0, .slice none 0 0] rfl rfl (box_there HU8.out rfl) (by kernel_rfl) (by simp [Value.oneCell']) ?_))
  (try simp only [Exit.inBlock, Exit.then])
  refine bodyPost_ret (results_cell_row Tryz.results29 _ _ g 26 #[.int .i64 1, .int .u64 (n2 : Nat), .int .u64 (n3 : Nat), .int .i64 (m1 : Nat), .int .i64 (m2 : Nat), .int .i64 (m3 : Nat), .slice a8 D c8, .int .i64 0, .slice none 0 0] (0, 0) _ rfl (box_set HU8.out rfl) Tryz.underlying26 rfl (by kernel_rfl)) rfl ?_
  have hfin := setCells_grown g [.int .i64 1, .int .u64 (n2 : Nat), .int .u64 (n3 : Nat), .int .i64 (m1 : Nat), .int .i64 (m2 : Nat), .int .i64 (m3 : Nat), .slice a8 D c8, .int .i64 0, .slice none 0 0] 0 w8
  rw [← HGS.out]
  exact ⟨a8, c8, none, 0, by rw [HDD.out]; rfl, own_lo HO8.out hfin (Nat.lt_succ_self _), OwnR.nil _ _, RS.grown HR8.out hfin (.inr HPG.out), HW8.out.grown hfin HW8.out.size (fun j hj => by cases hj; have := HP.out; have := HPG.out; omega)⟩
theorem read_2b {p B n1 n2 n3 : Nat} {ys y1 y2 y3 : List UInt8} {f f1 f2 f3 : Int} (b2 b3 : Bool) (W w : World) (h : RS w p B ys f) (hW : Below W.heap.size W w) (hpW : W.heap.size ≤ p)
    (e1 : nmS mxU (ys, f) = (2, y1, f1)) (e2 : nmS mxU (y1, mustF true f1) = (n2, y2, f2)) (hb2 : b2 = true ↔ nameOk (n2 : Int)) (e3 : nmS mxU (y2, mustF b2 f2) = (n3, y3, f3)) (hb3 : b3 = true ↔ nameOk (n3 : Int)) (hf : mustF b3 f3 = 0) {m1 : Nat} {v1 : List UInt8} {t1 : Int} (q1 : Bool) (E1 : nmS mxU (y3, 0) = (m1, v1, t1)) (hq1 : q1 = true ↔ (0 ≤ (m1 : Int) ∧ (m1 : Int) ≤ 7)) (hm : ¬ m1 = 0) :
    Calls Tryz.prog 29 #[.pointer (some ⟨p, 0, none⟩)] w fun er w' => RdOut W p B w.heap.size ⟨2, (n2 : Nat), (n3 : Nat), 0, 0, 0, [], (m1 : Nat), []⟩ v1 (mustF q1 t1) er w' := by
  have HP : Hid (W.heap.size ≤ p ∧ p < w.heap.size) := ⟨hpW, h.lt⟩
  have HE1 : Hid _ := e1
  have HE2 : Hid _ := e2
  have HE3 : Hid _ := e3
  have HQ2 : Hid _ := hb2
  have HQ3 : Hid _ := hb3
  have HR0 : Hid (RS w p B ys f) := h
  have HW0 : Hid (Below W.heap.size W w) := hW
  have HK : Hid (KindIs (2 : Int) kd2 true) := .inr (.inl ⟨rfl, rfl, rfl⟩)
  have HD1 : Hid _ := E1
  have HT1 : Hid _ := hq1
  have HM : Hid _ := hm
  clear E1 hq1 hm
  clear h hW hpW e1 e2 e3 hb2 hb3
  have hsf := fun (u : World) (a : Addr) (n : Nat) => run_store Tryz.prog u a (.func (.func n) #[] #[]) .plain rfl
  have hsn := fun (u : World) (a : Addr) => run_store Tryz.prog u a .nilFunc .plain rfl
  go_enter Tryz.func29, Tryz.ntmps29
  go_wp2_with fail
  refine Calls.mono (small_t _ (RS.below HR0.out (al (Below.refl _ _) _)) HE1.out) ?_
  rintro er1 w1 ⟨rfl, hr, hg⟩
  obtain ⟨g, hgs⟩ : ∃ g, g = w.heap.size := ⟨_, rfl⟩
  rw [← hgs]
  have HGS : Hid (g = w.heap.size) := hgs
  have HPG : Hid (p < g) := by unfold Hid; rw [hgs]; exact HP.out.2
  have HU1 : Hid (UBx w1 g #[.int .i64 0, .int .u64 0, .int .u64 0, .int .i64 0, .int .i64 0, .int .i64 0, .slice none 0 0, .int .i64 0, .slice none 0 0]) := by unfold Hid; rw [hgs]; exact gr_box hg (by have := HP.out; omega) (heap_alloc_new w _)
  have HR1 : Hid (RS w1 p B y1 f1) := hr
  have HW1 : Hid (Below W.heap.size W w1) := (HW0.out.alloc HW0.out.size _).grown hg (HW0.out.alloc HW0.out.size _).size (fun j hj => by cases hj; exact HP.out.1)
  clear hr hg hgs
  have c0 : w1.cell? ⟨g, 0, none⟩ = some (.int .i64 0) := by rw [cell_of_row _ _ _ _ _ _ HU1.out]; rfl
  have z0 : w1.frozen? ⟨g, 0, none⟩ = false := by simp [World.frozen?, HU1.out]
  obtain ⟨x1, hx1⟩ : ∃ x : World, x = w1.setCell ⟨g, 0, none⟩ (.int .i64 2) := ⟨_, rfl⟩
  have HG1x : Hid (w1.grownBy x1 (some g)) := by unfold Hid; rw [hx1]; exact gset1 _ _ _ _
  have HU1x : Hid (UBx x1 g #[.int .i64 2, .int .u64 0, .int .u64 0, .int .i64 0, .int .i64 0, .int .i64 0, .slice none 0 0, .int .i64 0, .slice none 0 0]) := by unfold Hid UBx; rw [hx1, heap_setCell_same w1 g 0 _ _ _ HU1.out]; rfl
  have HR1x : Hid (RS x1 p B y1 f1) := RS.grown HR1.out HG1x.out (.inr HPG.out)
  have HW1x : Hid (Below W.heap.size W x1) := HW1.out.grown HG1x.out HW1.out.size (fun j hj => by cases hj; have := HP.out; have := HPG.out; omega)
  go_wp2_with fail
  rw [← hx1]
  clear hx1 c0 z0
  refine Calls.mono (kindOf_t _ _ _ HK.out _) ?_
  rintro er1 w2 ⟨rfl, hb⟩
  have HU2 : Hid (UBx w2 g #[.int .i64 2, .int .u64 0, .int .u64 0, .int .i64 0, .int .i64 0, .int .i64 0, .slice none 0 0, .int .i64 0, .slice none 0 0]) := (hb.block g (Array.getElem?_eq_some_iff.1 HU1x.out).1).trans HU1x.out
  have HR2 : Hid (RS w2 p B y1 f1) := RS.below HR1x.out hb
  have HW2 : Hid (Below W.heap.size W w2) := below_next HW1x.out hb
  have HS2 : Hid (g < w2.heap.size) := (Array.getElem?_eq_some_iff.1 HU2.out).1
  clear hb
  go_wp2_with fail
  refine Calls.mono (must_t true _ (RS.below HR2.out (al (Below.refl _ _) _))) ?_
  rintro er1 w3 ⟨rfl, hr, hg⟩
  have HU3 : Hid (UBx w3 g #[.int .i64 2, .int .u64 0, .int .u64 0, .int .i64 0, .int .i64 0, .int .i64 0, .slice none 0 0, .int .i64 0, .slice none 0 0]) := gr_box hg (by have := HPG.out; omega) (((al (Below.refl _ _) _).block g HS2.out).trans HU2.out)
  have HK3 : Hid (w3.heap[w2.heap.size]? = some (.cells #[.int .i64 2, .func (.func 67) #[] #[], .func (.func 68) #[] #[], .func (.func 69) #[] #[]] 54 (0, 0))) := gr_box hg (by have := HPG.out; have := HS2.out; omega) (heap_alloc_new w2 _)
  have HR3 : Hid (RS w3 p B y1 (mustF true f1)) := hr
  have HW3 : Hid (Below W.heap.size W w3) := (HW2.out.alloc HW2.out.size _).grown hg (HW2.out.alloc HW2.out.size _).size (fun j hj => by cases hj; exact HP.out.1)
  clear hr hg
  obtain ⟨κ, hκ⟩ : ∃ κ, κ = w2.heap.size := ⟨_, rfl⟩
  rw [← hκ] at HK3 HS2 ⊢
  clear hκ
  go_wp2_with fail
  refine Calls.mono (number_t (m := mxU) _ HR3.out HE2.out) ?_
  rintro er1 w4 ⟨rfl, hr, hg⟩
  have HU4 : Hid (UBx w4 g #[.int .i64 2, .int .u64 0, .int .u64 0, .int .i64 0, .int .i64 0, .int .i64 0, .slice none 0 0, .int .i64 0, .slice none 0 0]) := gr_box hg (by have := HPG.out; omega) HU3.out
  have HK4 : Hid (w4.heap[κ]? = some (.cells #[.int .i64 2, .func (.func 67) #[] #[], .func (.func 68) #[] #[], .func (.func 69) #[] #[]] 54 (0, 0))) := gr_box hg (by have := HPG.out; have := HS2.out; omega) HK3.out
  have HR4 : Hid (RS w4 p B y2 f2) := hr
  have HW4 : Hid (Below W.heap.size W w4) := HW3.out.grown hg HW3.out.size (fun j hj => by cases hj; exact HP.out.1)
  clear hr hg
  have c1 : w4.cell? ⟨g, 1, none⟩ = some (.int .u64 0) := by rw [cell_of_row _ _ _ _ _ _ HU4.out]; rfl
  have z1 : w4.frozen? ⟨g, 1, none⟩ = false := by simp [World.frozen?, HU4.out]
  obtain ⟨x4, hx4⟩ : ∃ x : World, x = w4.setCell ⟨g, 1, none⟩ (.int .u64 (n2 : Nat)) := ⟨_, rfl⟩
  have HG4x : Hid (w4.grownBy x4 (some g)) := by unfold Hid; rw [hx4]; exact gset1 _ _ _ _
  have HU4x : Hid (UBx x4 g #[.int .i64 2, .int .u64 (n2 : Nat), .int .u64 0, .int .i64 0, .int .i64 0, .int .i64 0, .slice none 0 0, .int .i64 0, .slice none 0 0]) := by unfold Hid UBx; rw [hx4, heap_setCell_same w4 g 1 _ _ _ HU4.out]; rfl
  have HK4x : Hid (x4.heap[κ]? = some (.cells #[.int .i64 2, .func (.func 67) #[] #[], .func (.func 68) #[] #[], .func (.func 69) #[] #[]] 54 (0, 0))) := gr_box HG4x.out (by have := HS2.out; omega) HK4.out
  have HR4x : Hid (RS x4 p B y2 f2) := RS.grown HR4.out HG4x.out (.inr HPG.out)
  have HW4x : Hid (Below W.heap.size W x4) := HW4.out.grown HG4x.out HW4.out.size (fun j hj => by cases hj; have := HP.out; have := HPG.out; omega)
  go_wp2_with (go_at_call 45; refine Calls.mono (goodName_b _ b2 HQ2.out _) ?_; rintro er1 wq ⟨rfl, hq⟩; have hq := hq.symm; subst hq)
  rw [← hx4]
  clear hx4 c1 z1
  refine Calls.mono (must_t b2 _ HR4x.out) ?_
  rintro er1 w5 ⟨rfl, hr, hg⟩
  have HU5 : Hid (UBx w5 g #[.int .i64 2, .int .u64 (n2 : Nat), .int .u64 0, .int .i64 0, .int .i64 0, .int .i64 0, .slice none 0 0, .int .i64 0, .slice none 0 0]) := gr_box hg (by have := HPG.out; omega) HU4x.out
  have HK5 : Hid (w5.heap[κ]? = some (.cells #[.int .i64 2, .func (.func 67) #[] #[], .func (.func 68) #[] #[], .func (.func 69) #[] #[]] 54 (0, 0))) := gr_box hg (by have := HPG.out; have := HS2.out; omega) HK4x.out
  have HR5 : Hid (RS w5 p B y2 (mustF b2 f2)) := hr
  have HW5 : Hid (Below W.heap.size W w5) := HW4x.out.grown hg HW4x.out.size (fun j hj => by cases hj; exact HP.out.1)
  clear hr hg
  go_wp2_with fail
  refine Calls.mono (number_t (m := mxU) _ HR5.out HE3.out) ?_
  rintro er1 w6 ⟨rfl, hr, hg⟩
  have HU6 : Hid (UBx w6 g #[.int .i64 2, .int .u64 (n2 : Nat), .int .u64 0, .int .i64 0, .int .i64 0, .int .i64 0, .slice none 0 0, .int .i64 0, .slice none 0 0]) := gr_box hg (by have := HPG.out; omega) HU5.out
  have HK6 : Hid (w6.heap[κ]? = some (.cells #[.int .i64 2, .func (.func 67) #[] #[], .func (.func 68) #[] #[], .func (.func 69) #[] #[]] 54 (0, 0))) := gr_box hg (by have := HPG.out; have := HS2.out; omega) HK5.out
  have HR6 : Hid (RS w6 p B y3 f3) := hr
  have HW6 : Hid (Below W.heap.size W w6) := HW5.out.grown hg HW5.out.size (fun j hj => by cases hj; exact HP.out.1)
  clear hr hg
  have c2 : w6.cell? ⟨g, 2, none⟩ = some (.int .u64 0) := by rw [cell_of_row _ _ _ _ _ _ HU6.out]; rfl
  have z2 : w6.frozen? ⟨g, 2, none⟩ = false := by simp [World.frozen?, HU6.out]
  obtain ⟨x6, hx6⟩ : ∃ x : World, x = w6.setCell ⟨g, 2, none⟩ (.int .u64 (n3 : Nat)) := ⟨_, rfl⟩
  have HG6x : Hid (w6.grownBy x6 (some g)) := by unfold Hid; rw [hx6]; exact gset1 _ _ _ _
  have HU6x : Hid (UBx x6 g #[.int .i64 2, .int .u64 (n2 : Nat), .int .u64 (n3 : Nat), .int .i64 0, .int .i64 0, .int .i64 0, .slice none 0 0, .int .i64 0, .slice none 0 0]) := by unfold Hid UBx; rw [hx6, heap_setCell_same w6 g 2 _ _ _ HU6.out]; rfl
  have HK6x : Hid (x6.heap[κ]? = some (.cells #[.int .i64 2, .func (.func 67) #[] #[], .func (.func 68) #[] #[], .func (.func 69) #[] #[]] 54 (0, 0))) := gr_box HG6x.out (by have := HS2.out; omega) HK6.out
  have HR6x : Hid (RS x6 p B y3 f3) := RS.grown HR6.out HG6x.out (.inr HPG.out)
  have HW6x : Hid (Below W.heap.size W x6) := HW6.out.grown HG6x.out HW6.out.size (fun j hj => by cases hj; have := HP.out; have := HPG.out; omega)
  go_wp2_with (go_at_call 45; refine Calls.mono (goodName_b _ b3 HQ3.out _) ?_; rintro er1 wq ⟨rfl, hq⟩; have hq := hq.symm; subst hq)
  rw [← hx6]
  clear hx6 c2 z2
  refine Calls.mono (must_t b3 _ HR6x.out) ?_
  rintro er1 w7 ⟨rfl, hr, hg⟩
  have HU7 : Hid (UBx w7 g #[.int .i64 2, .int .u64 (n2 : Nat), .int .u64 (n3 : Nat), .int .i64 0, .int .i64 0, .int .i64 0, .slice none 0 0, .int .i64 0, .slice none 0 0]) := gr_box hg (by have := HPG.out; omega) HU6x.out
  have HK7 : Hid (w7.heap[κ]? = some (.cells #[.int .i64 2, .func (.func 67) #[] #[], .func (.func 68) #[] #[], .func (.func 69) #[] #[]] 54 (0, 0))) := gr_box hg (by have := HPG.out; have := HS2.out; omega) HK6x.out
  have HR7 : Hid (RS w7 p B y3 (mustF b3 f3)) := hr
  have HW7 : Hid (Below W.heap.size W w7) := HW6x.out.grown hg HW6x.out.size (fun j hj => by cases hj; exact HP.out.1)
  clear hr hg
  go_wp2_with fail
  refine Calls.mono (err_t _ HR7.out) ?_
  rintro er1 u ⟨rfl, hu⟩
  rw [hu]
  clear hu u
  have hfb : (mustF b3 f3 == 0) = true := by simpa using hf
  obtain ⟨F, hF⟩ : ∃ F, F = mustF b3 f3 := ⟨_, rfl⟩
  rw [← hF] at hf hfb HR7 ⊢
  clear hF
  subst hf
  have hkf : w7.cell? ⟨κ, 3, none⟩ = some (.func (.func 69) #[] #[]) := by rw [cell_of_row _ _ _ _ _ _ HK7.out]; rfl
  go_wp2_with fail
  clear hkf
  refine Calls.mono (readReport_a q1 g 2 (n2 : Nat) (n3 : Nat) _ _ _ _ _ _ W w7 HR7.out HW7.out HP.out.1 HPG.out HU7.out HD1.out HT1.out HM.out) ?_
  rintro er1 w8 ⟨rfl, hr8, hu8, hw8⟩
  have HU8 : Hid (UBx w8 g #[.int .i64 2, .int .u64 (n2 : Nat), .int .u64 (n3 : Nat), .int .i64 0, .int .i64 0, .int .i64 0, .slice none 0 0, .int .i64 (m1 : Nat), .slice none 0 0]) := hu8
  have HR8 : Hid (RS w8 p B v1 (mustF q1 t1)) := hr8
  have HW8 : Hid (Below W.heap.size W w8) := hw8
  clear hr8 hu8 hw8
  go_wp2_with (first
    | (refine wpList_load_g (by rfl) 26 _ rfl g 0 (by rfl) [.int .i64 2, .int .u64 (n2 : Nat), .int .u64 (n3 : Nat), .int .i64 0, .int .i64 0, .int .i64 0, .slice none 0 0, .int .i64 (m1 : Nat), .slice none 0 0] _ (box_range HU8.out) Tryz.underlying26 rfl info_un ?_)
    | (refine wpList_store_mid rfl 26 _ _ rfl g 0 #[.int .i64 2, .int .u64 (n2 : Nat), .int .u64 (n3 : Nat), .int .i64 0, .int .i64 0, .int .i64 0, .slice none 0 0, .int .i64 (m1 : Nat), .slice none 0 0] rfl rfl (box_there HU8.out rfl) (by kernel_rfl) (by simp [Value.oneCell']) ?_))
  (try simp only [Exit.inBlock, Exit.then])
  refine bodyPost_ret (results_cell_row Tryz.results29 _ _ g 26 #[.int .i64 2, .int .u64 (n2 : Nat), .int .u64 (n3 : Nat), .int .i64 0, .int .i64 0, .int .i64 0, .slice none 0 0, .int .i64 (m1 : Nat), .slice none 0 0] (0, 0) _ rfl (box_set HU8.out rfl) Tryz.underlying26 rfl (by kernel_rfl)) rfl ?_
  have hfin := setCells_grown g [.int .i64 2, .int .u64 (n2 : Nat), .int .u64 (n3 : Nat), .int .i64 0, .int .i64 0, .int .i64 0, .slice none 0 0, .int .i64 (m1 : Nat), .slice none 0 0] 0 w8
  rw [← HGS.out]
  exact ⟨none, 0, none, 0, rfl, World.ownsRow_nil _ _ _ _, OwnR.nil _ _, RS.grown HR8.out hfin (.inr HPG.out), HW8.out.grown hfin HW8.out.size (fun j hj => by cases hj; have := HP.out; have := HPG.out; omega)⟩
theorem read_2c {p B n1 n2 n3 : Nat} {ys y1 y2 y3 : List UInt8} {f f1 f2 f3 : Int} (b2 b3 : Bool) (W w : World) (h : RS w p B ys f) (hW : Below W.heap.size W w) (hpW : W.heap.size ≤ p)
    (e1 : nmS mxU (ys, f) = (2, y1, f1)) (e2 : nmS mxU (y1, mustF true f1) = (n2, y2, f2)) (hb2 : b2 = true ↔ nameOk (n2 : Int)) (e3 : nmS mxU (y2, mustF b2 f2) = (n3, y3, f3)) (hb3 : b3 = true ↔ nameOk (n3 : Int)) (hf : mustF b3 f3 = 0) {m2 : Nat} {v1 v2 v3 : List UInt8} {t1 t2 t3 : Int} {L : List Rg} (q1 q2 : Bool) (E1 : nmS mxU (y3, 0) = (0, v1, t1)) (hq1 : q1 = true ↔ (0 ≤ ((0 : Nat) : Int) ∧ ((0 : Nat) : Int) ≤ 7)) (E2 : nmS mxU (v1, mustF q1 t1) = (m2, v2, t2)) (hq2 : q2 = true ↔ m2 ≤ 32) (E3 : rgsS m2 [] (v2, mustF q2 t2) = (L, v3, t3)) :
    Calls Tryz.prog 29 #[.pointer (some ⟨p, 0, none⟩)] w fun er w' => RdOut W p B w.heap.size ⟨2, (n2 : Nat), (n3 : Nat), 0, 0, 0, [], 0, L⟩ v3 t3 er w' := by
  have HP : Hid (W.heap.size ≤ p ∧ p < w.heap.size) := ⟨hpW, h.lt⟩
  have HE1 : Hid _ := e1
  have HE2 : Hid _ := e2
  have HE3 : Hid _ := e3
  have HQ2 : Hid _ := hb2
  have HQ3 : Hid _ := hb3
  have HR0 : Hid (RS w p B ys f) := h
  have HW0 : Hid (Below W.heap.size W w) := hW
  have HK : Hid (KindIs (2 : Int) kd2 true) := .inr (.inl ⟨rfl, rfl, rfl⟩)
  have HD1 : Hid _ := E1
  have HD2 : Hid _ := E2
  have HD3 : Hid _ := E3
  have HT1 : Hid _ := hq1
  have HT2 : Hid _ := hq2
  clear E1 E2 E3 hq1 hq2
  clear h hW hpW e1 e2 e3 hb2 hb3
  have hsf := fun (u : World) (a : Addr) (n : Nat) => run_store Tryz.prog u a (.func (.func n) #[] #[]) .plain rfl
  have hsn := fun (u : World) (a : Addr) => run_store Tryz.prog u a .nilFunc .plain rfl
  go_enter Tryz.func29, Tryz.ntmps29
  go_wp2_with fail
  refine Calls.mono (small_t _ (RS.below HR0.out (al (Below.refl _ _) _)) HE1.out) ?_
  rintro er1 w1 ⟨rfl, hr, hg⟩
  obtain ⟨g, hgs⟩ : ∃ g, g = w.heap.size := ⟨_, rfl⟩
  rw [← hgs]
  have HGS : Hid (g = w.heap.size) := hgs
  have HPG : Hid (p < g) := by unfold Hid; rw [hgs]; exact HP.out.2
  have HU1 : Hid (UBx w1 g #[.int .i64 0, .int .u64 0, .int .u64 0, .int .i64 0, .int .i64 0, .int .i64 0, .slice none 0 0, .int .i64 0, .slice none 0 0]) := by unfold Hid; rw [hgs]; exact gr_box hg (by have := HP.out; omega) (heap_alloc_new w _)
  have HR1 : Hid (RS w1 p B y1 f1) := hr
  have HW1 : Hid (Below W.heap.size W w1) := (HW0.out.alloc HW0.out.size _).grown hg (HW0.out.alloc HW0.out.size _).size (fun j hj => by cases hj; exact HP.out.1)
  clear hr hg hgs
  have c0 : w1.cell? ⟨g, 0, none⟩ = some (.int .i64 0) := by rw [cell_of_row _ _ _ _ _ _ HU1.out]; rfl
  have z0 : w1.frozen? ⟨g, 0, none⟩ = false := by simp [World.frozen?, HU1.out]
  obtain ⟨x1, hx1⟩ : ∃ x : World, x = w1.setCell ⟨g, 0, none⟩ (.int .i64 2) := ⟨_, rfl⟩
  have HG1x : Hid (w1.grownBy x1 (some g)) := by unfold Hid; rw [hx1]; exact gset1 _ _ _ _
  have HU1x : Hid (UBx x1 g #[.int .i64 2, .int .u64 0, .int .u64 0, .int .i64 0, .int .i64 0, .int .i64 0, .slice none 0 0, .int .i64 0, .slice none 0 0]) := by unfold Hid UBx; rw [hx1, heap_setCell_same w1 g 0 _ _ _ HU1.out]; rfl
  have HR1x : Hid (RS x1 p B y1 f1) := RS.grown HR1.out HG1x.out (.inr HPG.out)
  have HW1x : Hid (Below W.heap.size W x1) := HW1.out.grown HG1x.out HW1.out.size (fun j hj => by cases hj; have := HP.out; have := HPG.out; omega)
  go_wp2_with fail
  rw [← hx1]
  clear hx1 c0 z0
  refine Calls.mono (kindOf_t _ _ _ HK.out _) ?_
  rintro er1 w2 ⟨rfl, hb⟩
  have HU2 : Hid (UBx w2 g #[.int .i64 2, .int .u64 0, .int .u64 0, .int .i64 0, .int .i64 0, .int .i64 0, .slice none 0 0, .int .i64 0, .slice none 0 0]) := (hb.block g (Array.getElem?_eq_some_iff.1 HU1x.out).1).trans HU1x.out
  have HR2 : Hid (RS w2 p B y1 f1) := RS.below HR1x.out hb
  have HW2 : Hid (Below W.heap.size W w2) := below_next HW1x.out hb
  have HS2 : Hid (g < w2.heap.size) := (Array.getElem?_eq_some_iff.1 HU2.out).1
  clear hb
  go_wp2_with fail
  refine Calls.mono (must_t true _ (RS.below HR2.out (al (Below.refl _ _) _))) ?_
  rintro er1 w3 ⟨rfl, hr, hg⟩
  have HU3 : Hid (UBx w3 g #[.int .i64 2, .int .u64 0, .int .u64 0, .int .i64 0, .int .i64 0, .int .i64 0, .slice none 0 0, .int .i64 0, .slice none 0 0]) := gr_box hg (by have := HPG.out; omega) (((al (Below.refl _ _) _).block g HS2.out).trans HU2.out)
  have HK3 : Hid (w3.heap[w2.heap.size]? = some (.cells #[.int .i64 2, .func (.func 67) #[] #[], .func (.func 68) #[] #[], .func (.func 69) #[] #[]] 54 (0, 0))) := gr_box hg (by have := HPG.out; have := HS2.out; omega) (heap_alloc_new w2 _)
  have HR3 : Hid (RS w3 p B y1 (mustF true f1)) := hr
  have HW3 : Hid (Below W.heap.size W w3) := (HW2.out.alloc HW2.out.size _).grown hg (HW2.out.alloc HW2.out.size _).size (fun j hj => by cases hj; exact HP.out.1)
  clear hr hg
  obtain ⟨κ, hκ⟩ : ∃ κ, κ = w2.heap.size := ⟨_, rfl⟩
  rw [← hκ] at HK3 HS2 ⊢
  clear hκ
  go_wp2_with fail
  refine Calls.mono (number_t (m := mxU) _ HR3.out HE2.out) ?_
  rintro er1 w4 ⟨rfl, hr, hg⟩
  have HU4 : Hid (UBx w4 g #[.int .i64 2, .int .u64 0, .int .u64 0, .int .i64 0, .int .i64 0, .int .i64 0, .slice none 0 0, .int .i64 0, .slice none 0 0]) := gr_box hg (by have := HPG.out; omega) HU3.out
  have HK4 : Hid (w4.heap[κ]? = some (.cells #[.int .i64 2, .func (.func 67) #[] #[], .func (.func 68) #[] #[], .func (.func 69) #[] #[]] 54 (0, 0))) := gr_box hg (by have := HPG.out; have := HS2.out; omega) HK3.out
  have HR4 : Hid (RS w4 p B y2 f2) := hr
  have HW4 : Hid (Below W.heap.size W w4) := HW3.out.grown hg HW3.out.size (fun j hj => by cases hj; exact HP.out.1)
  clear hr hg
  have c1 : w4.cell? ⟨g, 1, none⟩ = some (.int .u64 0) := by rw [cell_of_row _ _ _ _ _ _ HU4.out]; rfl
  have z1 : w4.frozen? ⟨g, 1, none⟩ = false := by simp [World.frozen?, HU4.out]
  obtain ⟨x4, hx4⟩ : ∃ x : World, x = w4.setCell ⟨g, 1, none⟩ (.int .u64 (n2 : Nat)) := ⟨_, rfl⟩
  have HG4x : Hid (w4.grownBy x4 (some g)) := by unfold Hid; rw [hx4]; exact gset1 _ _ _ _
  have HU4x : Hid (UBx x4 g #[.int .i64 2, .int .u64 (n2 : Nat), .int .u64 0, .int .i64 0, .int .i64 0, .int .i64 0, .slice none 0 0, .int .i64 0, .slice none 0 0]) := by unfold Hid UBx; rw [hx4, heap_setCell_same w4 g 1 _ _ _ HU4.out]; rfl
  have HK4x : Hid (x4.heap[κ]? = some (.cells #[.int .i64 2, .func (.func 67) #[] #[], .func (.func 68) #[] #[], .func (.func 69) #[] #[]] 54 (0, 0))) := gr_box HG4x.out (by have := HS2.out; omega) HK4.out
  have HR4x : Hid (RS x4 p B y2 f2) := RS.grown HR4.out HG4x.out (.inr HPG.out)
  have HW4x : Hid (Below W.heap.size W x4) := HW4.out.grown HG4x.out HW4.out.size (fun j hj => by cases hj; have := HP.out; have := HPG.out; omega)
  go_wp2_with (go_at_call 45; refine Calls.mono (goodName_b _ b2 HQ2.out _) ?_; rintro er1 wq ⟨rfl, hq⟩; have hq := hq.symm; subst hq)
  rw [← hx4]
  clear hx4 c1 z1
  refine Calls.mono (must_t b2 _ HR4x.out) ?_
  rintro er1 w5 ⟨rfl, hr, hg⟩
  have HU5 : Hid (UBx w5 g #[.int .i64 2, .int .u64 (n2 : Nat), .int .u64 0, .int .i64 0, .int .i64 0, .int .i64 0, .slice none 0 0, .int .i64 0, .slice none 0 0]) := gr_box hg (by have := HPG.out; omega) HU4x.out
  have HK5 : Hid (w5.heap[κ]? = some (.cells #[.int .i64 2, .func (.func 67) #[] #[], .func (.func 68) #[] #[], .func (.func 69) #[] #[]] 54 (0, 0))) := gr_box hg (by have := HPG.out; have := HS2.out; omega) HK4x.out
  have HR5 : Hid (RS w5 p B y2 (mustF b2 f2)) := hr
  have HW5 : Hid (Below W.heap.size W w5) := HW4x.out.grown hg HW4x.out.size (fun j hj => by cases hj; exact HP.out.1)
  clear hr hg
  go_wp2_with fail
  refine Calls.mono (number_t (m := mxU) _ HR5.out HE3.out) ?_
  rintro er1 w6 ⟨rfl, hr, hg⟩
  have HU6 : Hid (UBx w6 g #[.int .i64 2, .int .u64 (n2 : Nat), .int .u64 0, .int .i64 0, .int .i64 0, .int .i64 0, .slice none 0 0, .int .i64 0, .slice none 0 0]) := gr_box hg (by have := HPG.out; omega) HU5.out
  have HK6 : Hid (w6.heap[κ]? = some (.cells #[.int .i64 2, .func (.func 67) #[] #[], .func (.func 68) #[] #[], .func (.func 69) #[] #[]] 54 (0, 0))) := gr_box hg (by have := HPG.out; have := HS2.out; omega) HK5.out
  have HR6 : Hid (RS w6 p B y3 f3) := hr
  have HW6 : Hid (Below W.heap.size W w6) := HW5.out.grown hg HW5.out.size (fun j hj => by cases hj; exact HP.out.1)
  clear hr hg
  have c2 : w6.cell? ⟨g, 2, none⟩ = some (.int .u64 0) := by rw [cell_of_row _ _ _ _ _ _ HU6.out]; rfl
  have z2 : w6.frozen? ⟨g, 2, none⟩ = false := by simp [World.frozen?, HU6.out]
  obtain ⟨x6, hx6⟩ : ∃ x : World, x = w6.setCell ⟨g, 2, none⟩ (.int .u64 (n3 : Nat)) := ⟨_, rfl⟩
  have HG6x : Hid (w6.grownBy x6 (some g)) := by unfold Hid; rw [hx6]; exact gset1 _ _ _ _
  have HU6x : Hid (UBx x6 g #[.int .i64 2, .int .u64 (n2 : Nat), .int .u64 (n3 : Nat), .int .i64 0, .int .i64 0, .int .i64 0, .slice none 0 0, .int .i64 0, .slice none 0 0]) := by unfold Hid UBx; rw [hx6, heap_setCell_same w6 g 2 _ _ _ HU6.out]; rfl
  have HK6x : Hid (x6.heap[κ]? = some (.cells #[.int .i64 2, .func (.func 67) #[] #[], .func (.func 68) #[] #[], .func (.func 69) #[] #[]] 54 (0, 0))) := gr_box HG6x.out (by have := HS2.out; omega) HK6.out
  have HR6x : Hid (RS x6 p B y3 f3) := RS.grown HR6.out HG6x.out (.inr HPG.out)
  have HW6x : Hid (Below W.heap.size W x6) := HW6.out.grown HG6x.out HW6.out.size (fun j hj => by cases hj; have := HP.out; have := HPG.out; omega)
  go_wp2_with (go_at_call 45; refine Calls.mono (goodName_b _ b3 HQ3.out _) ?_; rintro er1 wq ⟨rfl, hq⟩; have hq := hq.symm; subst hq)
  rw [← hx6]
  clear hx6 c2 z2
  refine Calls.mono (must_t b3 _ HR6x.out) ?_
  rintro er1 w7 ⟨rfl, hr, hg⟩
  have HU7 : Hid (UBx w7 g #[.int .i64 2, .int .u64 (n2 : Nat), .int .u64 (n3 : Nat), .int .i64 0, .int .i64 0, .int .i64 0, .slice none 0 0, .int .i64 0, .slice none 0 0]) := gr_box hg (by have := HPG.out; omega) HU6x.out
  have HK7 : Hid (w7.heap[κ]? = some (.cells #[.int .i64 2, .func (.func 67) #[] #[], .func (.func 68) #[] #[], .func (.func 69) #[] #[]] 54 (0, 0))) := gr_box hg (by have := HPG.out; have := HS2.out; omega) HK6x.out
  have HR7 : Hid (RS w7 p B y3 (mustF b3 f3)) := hr
  have HW7 : Hid (Below W.heap.size W w7) := HW6x.out.grown hg HW6x.out.size (fun j hj => by cases hj; exact HP.out.1)
  clear hr hg
  go_wp2_with fail
  refine Calls.mono (err_t _ HR7.out) ?_
  rintro er1 u ⟨rfl, hu⟩
  rw [hu]
  clear hu u
  have hfb : (mustF b3 f3 == 0) = true := by simpa using hf
  obtain ⟨F, hF⟩ : ∃ F, F = mustF b3 f3 := ⟨_, rfl⟩
  rw [← hF] at hf hfb HR7 ⊢
  clear hF
  subst hf
  have hkf : w7.cell? ⟨κ, 3, none⟩ = some (.func (.func 69) #[] #[]) := by rw [cell_of_row _ _ _ _ _ _ HK7.out]; rfl
  go_wp2_with fail
  clear hkf
  refine Calls.mono (readReport_b q1 g 2 (n2 : Nat) (n3 : Nat) _ _ _ _ _ _ W w7 HR7.out HW7.out HP.out.1 HPG.out HU7.out HD1.out HT1.out rfl q2 HD2.out HT2.out HD3.out rfl) ?_
  rintro er1 w8 ⟨a8, c8, rfl, hr8, hu8, ho8, hw8⟩
  obtain ⟨D, hD⟩ : ∃ D, D = L.length := ⟨_, rfl⟩
  have HU8 : Hid (UBx w8 g #[.int .i64 2, .int .u64 (n2 : Nat), .int .u64 (n3 : Nat), .int .i64 0, .int .i64 0, .int .i64 0, .slice none 0 0, .int .i64 0, .slice a8 D c8]) := by unfold Hid; rw [hD]; exact hu8
  have HR8 : Hid (RS w8 p B v3 t3) := hr8
  have HO8 : Hid (OwnR w8 (g + 1) (.slice a8 L.length c8) L) := ho8
  have HW8 : Hid (Below W.heap.size W w8) := hw8
  have HDD : Hid (D = L.length) := hD
  clear hr8 hu8 ho8 hw8 hD
  go_wp2_with (first
    | (refine wpList_load_g (by rfl) 26 _ rfl g 0 (by rfl) [.int .i64 2, .int .u64 (n2 : Nat), .int .u64 (n3 : Nat), .int .i64 0, .int .i64 0, .int .i64 0, .slice none 0 0, .int .i64 0, .slice a8 D c8] _ (box_range HU8.out) Tryz.underlying26 rfl info_un ?_)
    | (refine wpList_store_mid rfl 26 _ _ rfl g 0 #[.int .i64 2, .int .u64 (n2 : Nat), .int .u64 (n3 : Nat), .int .i64 0, .int .i64 0, .int .i64 0, .slice none 0 0, .int .i64 0, .slice a8 D c8] rfl rfl (box_there HU8.out rfl) (by kernel_rfl) (by simp [Value.oneCell']) ?_))
  (try simp only [Exit.inBlock, Exit.then])
  refine bodyPost_ret (results_cell_row Tryz.results29 _ _ g 26 #[.int .i64 2, .int .u64 (n2 : Nat), .int .u64 (n3 : Nat), .int .i64 0, .int .i64 0, .int .i64 0, .slice none 0 0, .int .i64 0, .slice a8 D c8] (0, 0) _ rfl (box_set HU8.out rfl) Tryz.underlying26 rfl (by kernel_rfl)) rfl ?_
  have hfin := setCells_grown g [.int .i64 2, .int .u64 (n2 : Nat), .int .u64 (n3 : Nat), .int .i64 0, .int .i64 0, .int .i64 0, .slice none 0 0, .int .i64 0, .slice a8 D c8] 0 w8
  rw [← HGS.out]
  exact ⟨none, 0, a8, c8, by rw [HDD.out]; rfl, World.ownsRow_nil _ _ _ _, OwnR.grown HO8.out hfin (Nat.lt_succ_self _), RS.grown HR8.out hfin (.inr HPG.out), HW8.out.grown hfin HW8.out.size (fun j hj => by cases hj; have := HP.out; have := HPG.out; omega)⟩
theorem read_3b {p B n1 n2 n3 : Nat} {ys y1 y2 y3 : List UInt8} {f f1 f2 f3 : Int} (b2 b3 : Bool) (W w : World) (h : RS w p B ys f) (hW : Below W.heap.size W w) (hpW : W.heap.size ≤ p)
    (e1 : nmS mxU (ys, f) = (3, y1, f1)) (e2 : nmS mxU (y1, mustF true f1) = (n2, y2, f2)) (hb2 : b2 = true ↔ nameOk (n2 : Int)) (e3 : nmS mxU (y2, mustF b2 f2) = (n3, y3, f3)) (hb3 : b3 = true ↔ nameOk (n3 : Int)) (hf : mustF b3 f3 = 0) :
    Calls Tryz.prog 29 #[.pointer (some ⟨p, 0, none⟩)] w fun er w' => RdOut W p B w.heap.size ⟨3, (n2 : Nat), (n3 : Nat), 0, 0, 0, [], 0, []⟩ y3 0 er w' := by
  have HP : Hid (W.heap.size ≤ p ∧ p < w.heap.size) := ⟨hpW, h.lt⟩
  have HE1 : Hid _ := e1
  have HE2 : Hid _ := e2
  have HE3 : Hid _ := e3
  have HQ2 : Hid _ := hb2
  have HQ3 : Hid _ := hb3
  have HR0 : Hid (RS w p B ys f) := h
  have HW0 : Hid (Below W.heap.size W w) := hW
  have HK : Hid (KindIs (3 : Int) kd3 true) := .inr (.inr (.inl ⟨rfl, rfl, rfl⟩))
  clear h hW hpW e1 e2 e3 hb2 hb3
  have hsf := fun (u : World) (a : Addr) (n : Nat) => run_store Tryz.prog u a (.func (.func n) #[] #[]) .plain rfl
  have hsn := fun (u : World) (a : Addr) => run_store Tryz.prog u a .nilFunc .plain rfl
  go_enter Tryz.func29, Tryz.ntmps29
  go_wp2_with fail
  refine Calls.mono (small_t _ (RS.below HR0.out (al (Below.refl _ _) _)) HE1.out) ?_
  rintro er1 w1 ⟨rfl, hr, hg⟩
  obtain ⟨g, hgs⟩ : ∃ g, g = w.heap.size := ⟨_, rfl⟩
  rw [← hgs]
  have HGS : Hid (g = w.heap.size) := hgs
  have HPG : Hid (p < g) := by unfold Hid; rw [hgs]; exact HP.out.2
  have HU1 : Hid (UBx w1 g #[.int .i64 0, .int .u64 0, .int .u64 0, .int .i64 0, .int .i64 0, .int .i64 0, .slice none 0 0, .int .i64 0, .slice none 0 0]) := by unfold Hid; rw [hgs]; exact gr_box hg (by have := HP.out; omega) (heap_alloc_new w _)
  have HR1 : Hid (RS w1 p B y1 f1) := hr
  have HW1 : Hid (Below W.heap.size W w1) := (HW0.out.alloc HW0.out.size _).grown hg (HW0.out.alloc HW0.out.size _).size (fun j hj => by cases hj; exact HP.out.1)
  clear hr hg hgs
  have c0 : w1.cell? ⟨g, 0, none⟩ = some (.int .i64 0) := by rw [cell_of_row _ _ _ _ _ _ HU1.out]; rfl
  have z0 : w1.frozen? ⟨g, 0, none⟩ = false := by simp [World.frozen?, HU1.out]
  obtain ⟨x1, hx1⟩ : ∃ x : World, x = w1.setCell ⟨g, 0, none⟩ (.int .i64 3) := ⟨_, rfl⟩
  have HG1x : Hid (w1.grownBy x1 (some g)) := by unfold Hid; rw [hx1]; exact gset1 _ _ _ _
  have HU1x : Hid (UBx x1 g #[.int .i64 3, .int .u64 0, .int .u64 0, .int .i64 0, .int .i64 0, .int .i64 0, .slice none 0 0, .int .i64 0, .slice none 0 0]) := by unfold Hid UBx; rw [hx1, heap_setCell_same w1 g 0 _ _ _ HU1.out]; rfl
  have HR1x : Hid (RS x1 p B y1 f1) := RS.grown HR1.out HG1x.out (.inr HPG.out)
  have HW1x : Hid (Below W.heap.size W x1) := HW1.out.grown HG1x.out HW1.out.size (fun j hj => by cases hj; have := HP.out; have := HPG.out; omega)
  go_wp2_with fail
  rw [← hx1]
  clear hx1 c0 z0
  refine Calls.mono (kindOf_t _ _ _ HK.out _) ?_
  rintro er1 w2 ⟨rfl, hb⟩
  have HU2 : Hid (UBx w2 g #[.int .i64 3, .int .u64 0, .int .u64 0, .int .i64 0, .int .i64 0, .int .i64 0, .slice none 0 0, .int .i64 0, .slice none 0 0]) := (hb.block g (Array.getElem?_eq_some_iff.1 HU1x.out).1).trans HU1x.out
  have HR2 : Hid (RS w2 p B y1 f1) := RS.below HR1x.out hb
  have HW2 : Hid (Below W.heap.size W w2) := below_next HW1x.out hb
  have HS2 : Hid (g < w2.heap.size) := (Array.getElem?_eq_some_iff.1 HU2.out).1
  clear hb
  go_wp2_with fail
  refine Calls.mono (must_t true _ (RS.below HR2.out (al (Below.refl _ _) _))) ?_
  rintro er1 w3 ⟨rfl, hr, hg⟩
  have HU3 : Hid (UBx w3 g #[.int .i64 3, .int .u64 0, .int .u64 0, .int .i64 0, .int .i64 0, .int .i64 0, .slice none 0 0, .int .i64 0, .slice none 0 0]) := gr_box hg (by have := HPG.out; omega) (((al (Below.refl _ _) _).block g HS2.out).trans HU2.out)
  have HK3 : Hid (w3.heap[w2.heap.size]? = some (.cells #[.int .i64 3, .func (.func 70) #[] #[], .func (.func 71) #[] #[], .func (.func 72) #[] #[]] 54 (0, 0))) := gr_box hg (by have := HPG.out; have := HS2.out; omega) (heap_alloc_new w2 _)
  have HR3 : Hid (RS w3 p B y1 (mustF true f1)) := hr
  have HW3 : Hid (Below W.heap.size W w3) := (HW2.out.alloc HW2.out.size _).grown hg (HW2.out.alloc HW2.out.size _).size (fun j hj => by cases hj; exact HP.out.1)
  clear hr hg
  obtain ⟨κ, hκ⟩ : ∃ κ, κ = w2.heap.size := ⟨_, rfl⟩
  rw [← hκ] at HK3 HS2 ⊢
  clear hκ
  go_wp2_with fail
  refine Calls.mono (number_t (m := mxU) _ HR3.out HE2.out) ?_
  rintro er1 w4 ⟨rfl, hr, hg⟩
  have HU4 : Hid (UBx w4 g #[.int .i64 3, .int .u64 0, .int .u64 0, .int .i64 0, .int .i64 0, .int .i64 0, .slice none 0 0, .int .i64 0, .slice none 0 0]) := gr_box hg (by have := HPG.out; omega) HU3.out
  have HK4 : Hid (w4.heap[κ]? = some (.cells #[.int .i64 3, .func (.func 70) #[] #[], .func (.func 71) #[] #[], .func (.func 72) #[] #[]] 54 (0, 0))) := gr_box hg (by have := HPG.out; have := HS2.out; omega) HK3.out
  have HR4 : Hid (RS w4 p B y2 f2) := hr
  have HW4 : Hid (Below W.heap.size W w4) := HW3.out.grown hg HW3.out.size (fun j hj => by cases hj; exact HP.out.1)
  clear hr hg
  have c1 : w4.cell? ⟨g, 1, none⟩ = some (.int .u64 0) := by rw [cell_of_row _ _ _ _ _ _ HU4.out]; rfl
  have z1 : w4.frozen? ⟨g, 1, none⟩ = false := by simp [World.frozen?, HU4.out]
  obtain ⟨x4, hx4⟩ : ∃ x : World, x = w4.setCell ⟨g, 1, none⟩ (.int .u64 (n2 : Nat)) := ⟨_, rfl⟩
  have HG4x : Hid (w4.grownBy x4 (some g)) := by unfold Hid; rw [hx4]; exact gset1 _ _ _ _
  have HU4x : Hid (UBx x4 g #[.int .i64 3, .int .u64 (n2 : Nat), .int .u64 0, .int .i64 0, .int .i64 0, .int .i64 0, .slice none 0 0, .int .i64 0, .slice none 0 0]) := by unfold Hid UBx; rw [hx4, heap_setCell_same w4 g 1 _ _ _ HU4.out]; rfl
  have HK4x : Hid (x4.heap[κ]? = some (.cells #[.int .i64 3, .func (.func 70) #[] #[], .func (.func 71) #[] #[], .func (.func 72) #[] #[]] 54 (0, 0))) := gr_box HG4x.out (by have := HS2.out; omega) HK4.out
  have HR4x : Hid (RS x4 p B y2 f2) := RS.grown HR4.out HG4x.out (.inr HPG.out)
  have HW4x : Hid (Below W.heap.size W x4) := HW4.out.grown HG4x.out HW4.out.size (fun j hj => by cases hj; have := HP.out; have := HPG.out; omega)
  go_wp2_with (go_at_call 45; refine Calls.mono (goodName_b _ b2 HQ2.out _) ?_; rintro er1 wq ⟨rfl, hq⟩; have hq := hq.symm; subst hq)
  rw [← hx4]
  clear hx4 c1 z1
  refine Calls.mono (must_t b2 _ HR4x.out) ?_
  rintro er1 w5 ⟨rfl, hr, hg⟩
  have HU5 : Hid (UBx w5 g #[.int .i64 3, .int .u64 (n2 : Nat), .int .u64 0, .int .i64 0, .int .i64 0, .int .i64 0, .slice none 0 0, .int .i64 0, .slice none 0 0]) := gr_box hg (by have := HPG.out; omega) HU4x.out
  have HK5 : Hid (w5.heap[κ]? = some (.cells #[.int .i64 3, .func (.func 70) #[] #[], .func (.func 71) #[] #[], .func (.func 72) #[] #[]] 54 (0, 0))) := gr_box hg (by have := HPG.out; have := HS2.out; omega) HK4x.out
  have HR5 : Hid (RS w5 p B y2 (mustF b2 f2)) := hr
  have HW5 : Hid (Below W.heap.size W w5) := HW4x.out.grown hg HW4x.out.size (fun j hj => by cases hj; exact HP.out.1)
  clear hr hg
  go_wp2_with fail
  refine Calls.mono (number_t (m := mxU) _ HR5.out HE3.out) ?_
  rintro er1 w6 ⟨rfl, hr, hg⟩
  have HU6 : Hid (UBx w6 g #[.int .i64 3, .int .u64 (n2 : Nat), .int .u64 0, .int .i64 0, .int .i64 0, .int .i64 0, .slice none 0 0, .int .i64 0, .slice none 0 0]) := gr_box hg (by have := HPG.out; omega) HU5.out
  have HK6 : Hid (w6.heap[κ]? = some (.cells #[.int .i64 3, .func (.func 70) #[] #[], .func (.func 71) #[] #[], .func (.func 72) #[] #[]] 54 (0, 0))) := gr_box hg (by have := HPG.out; have := HS2.out; omega) HK5.out
  have HR6 : Hid (RS w6 p B y3 f3) := hr
  have HW6 : Hid (Below W.heap.size W w6) := HW5.out.grown hg HW5.out.size (fun j hj => by cases hj; exact HP.out.1)
  clear hr hg
  have c2 : w6.cell? ⟨g, 2, none⟩ = some (.int .u64 0) := by rw [cell_of_row _ _ _ _ _ _ HU6.out]; rfl
  have z2 : w6.frozen? ⟨g, 2, none⟩ = false := by simp [World.frozen?, HU6.out]
  obtain ⟨x6, hx6⟩ : ∃ x : World, x = w6.setCell ⟨g, 2, none⟩ (.int .u64 (n3 : Nat)) := ⟨_, rfl⟩
  have HG6x : Hid (w6.grownBy x6 (some g)) := by unfold Hid; rw [hx6]; exact gset1 _ _ _ _
  have HU6x : Hid (UBx x6 g #[.int .i64 3, .int .u64 (n2 : Nat), .int .u64 (n3 : Nat), .int .i64 0, .int .i64 0, .int .i64 0, .slice none 0 0, .int .i64 0, .slice none 0 0]) := by unfold Hid UBx; rw [hx6, heap_setCell_same w6 g 2 _ _ _ HU6.out]; rfl
  have HK6x : Hid (x6.heap[κ]? = some (.cells #[.int .i64 3, .func (.func 70) #[] #[], .func (.func 71) #[] #[], .func (.func 72) #[] #[]] 54 (0, 0))) := gr_box HG6x.out (by have := HS2.out; omega) HK6.out
  have HR6x : Hid (RS x6 p B y3 f3) := RS.grown HR6.out HG6x.out (.inr HPG.out)
  have HW6x : Hid (Below W.heap.size W x6) := HW6.out.grown HG6x.out HW6.out.size (fun j hj => by cases hj; have := HP.out; have := HPG.out; omega)
  go_wp2_with (go_at_call 45; refine Calls.mono (goodName_b _ b3 HQ3.out _) ?_; rintro er1 wq ⟨rfl, hq⟩; have hq := hq.symm; subst hq)
  rw [← hx6]
  clear hx6 c2 z2
  refine Calls.mono (must_t b3 _ HR6x.out) ?_
  rintro er1 w7 ⟨rfl, hr, hg⟩
  have HU7 : Hid (UBx w7 g #[.int .i64 3, .int .u64 (n2 : Nat), .int .u64 (n3 : Nat), .int .i64 0, .int .i64 0, .int .i64 0, .slice none 0 0, .int .i64 0, .slice none 0 0]) := gr_box hg (by have := HPG.out; omega) HU6x.out
  have HK7 : Hid (w7.heap[κ]? = some (.cells #[.int .i64 3, .func (.func 70) #[] #[], .func (.func 71) #[] #[], .func (.func 72) #[] #[]] 54 (0, 0))) := gr_box hg (by have := HPG.out; have := HS2.out; omega) HK6x.out
  have HR7 : Hid (RS w7 p B y3 (mustF b3 f3)) := hr
  have HW7 : Hid (Below W.heap.size W w7) := HW6x.out.grown hg HW6x.out.size (fun j hj => by cases hj; exact HP.out.1)
  clear hr hg
  go_wp2_with fail
  refine Calls.mono (err_t _ HR7.out) ?_
  rintro er1 u ⟨rfl, hu⟩
  rw [hu]
  clear hu u
  have hfb : (mustF b3 f3 == 0) = true := by simpa using hf
  obtain ⟨F, hF⟩ : ∃ F, F = mustF b3 f3 := ⟨_, rfl⟩
  rw [← hF] at hf hfb HR7 ⊢
  clear hF
  subst hf
  have hkf : w7.cell? ⟨κ, 3, none⟩ = some (.func (.func 72) #[] #[]) := by rw [cell_of_row _ _ _ _ _ _ HK7.out]; rfl
  go_wp2_with fail
  clear hkf
  refine Calls.mono (readCancel_t p g w7) ?_
  rintro er1 w8 ⟨rfl, hw8⟩
  rw [hw8]
  clear hw8 w8
  go_wp2_with (first
    | (refine wpList_load_g (by rfl) 26 _ rfl g 0 (by rfl) [.int .i64 3, .int .u64 (n2 : Nat), .int .u64 (n3 : Nat), .int .i64 0, .int .i64 0, .int .i64 0, .slice none 0 0, .int .i64 0, .slice none 0 0] _ (box_range HU7.out) Tryz.underlying26 rfl info_un ?_)
    | (refine wpList_store_mid rfl 26 _ _ rfl g 0 #[.int .i64 3, .int .u64 (n2 : Nat), .int .u64 (n3 : Nat), .int .i64 0, .int .i64 0, .int .i64 0, .slice none 0 0, .int .i64 0, .slice none 0 0] rfl rfl (box_there HU7.out rfl) (by kernel_rfl) (by simp [Value.oneCell']) ?_))
  (try simp only [Exit.inBlock, Exit.then])
  refine bodyPost_ret (results_cell_row Tryz.results29 _ _ g 26 #[.int .i64 3, .int .u64 (n2 : Nat), .int .u64 (n3 : Nat), .int .i64 0, .int .i64 0, .int .i64 0, .slice none 0 0, .int .i64 0, .slice none 0 0] (0, 0) _ rfl (box_set HU7.out rfl) Tryz.underlying26 rfl (by kernel_rfl)) rfl ?_
  have hfin := setCells_grown g [.int .i64 3, .int .u64 (n2 : Nat), .int .u64 (n3 : Nat), .int .i64 0, .int .i64 0, .int .i64 0, .slice none 0 0, .int .i64 0, .slice none 0 0] 0 w7
  rw [← HGS.out]
  exact ⟨none, 0, none, 0, rfl, World.ownsRow_nil _ _ _ _, OwnR.nil _ _, RS.grown HR7.out hfin (.inr HPG.out), HW7.out.grown hfin HW7.out.size (fun j hj => by cases hj; have := HP.out; have := HPG.out; omega)⟩
end
end Go.Proofs.YtplncfahpdmcoaaGreatDoor
namespace Go.Proofs.YtplncfahpdmcoaaGreatDoor
set_option linter.unusedVariables false
set_option linter.unusedSimpArgs false
open Go.RowKit
def unS (xs : List UInt8) : List UInt8 × Nat :=
  if xs.length < 4 then ([], 10) else if xs.drop (xs.length - 4) = sealL (xs.take (xs.length - 4)) then (xs.take (xs.length - 4), 0) else ([], 13)
end Go.Proofs.YtplncfahpdmcoaaGreatDoor
namespace Go.Proofs.YtplncfahpdmcoaaGreatDoor
set_option linter.unusedVariables false
set_option linter.unusedSimpArgs false
open Go.RowKit
theorem Rd.dropU {w : World} {b o : Nat} {xs : List UInt8} (h : Rd w (some ⟨b, o, none⟩) xs) (k : Nat) : Rd w (some ⟨b, o + k, none⟩) (xs.drop k) := by
  intro hp
  obtain ⟨b', o', e, hc⟩ := h (by simp at hp; omega)
  cases e
  refine ⟨b, o + k, rfl, fun i hi => ?_⟩
  have h1 := hc (k + i) (by simp at hi; omega)
  rw [Nat.add_assoc, h1]
  simp
set_option maxRecDepth 20000 in
set_option maxHeartbeats 400000 in
theorem equal_any (ao : Option Addr) (n cap : Nat) (ys : List UInt8) (hn : n = ys.length) (bo : Option Addr) (m cap' : Nat) (xs : List UInt8) (hm : m = xs.length) (w : World) (hy : Rd w ao ys) (hx : Rd w bo xs) :
    Calls Tryz.prog 50 #[.slice ao n cap, .slice bo m cap'] w fun e w' => e = .returned (.bool (ys == xs)) ∧ w' = w := by
  subst hn hm
  have h1 := conv_rd' hy _ cap rfl
  have h2 := conv_rd' hx _ cap' rfl
  go_enter Tryz.func50, Tryz.ntmps50
  go_wp2
  go_ret
  exact ⟨rfl, rfl⟩
set_option maxRecDepth 20000 in
set_option maxHeartbeats 400000 in
theorem unseal_any (ao : Option Addr) (cap : Nat) (xs : List UInt8) (w : World) (hx : Rd w ao xs) (hlc : xs.length ≤ cap) (hcm : cap ≤ 9223372036854775807) (hl : xs.length ≤ 140737488355328) (ht : TabOk w) :
    Calls Tryz.prog 27 #[.slice ao xs.length cap] w fun e w' => ∃ v, e = .returned (.tuple #[v, .int .i64 ((unS xs).2 : Nat)]) ∧ Own w' w.heap.size v (unS xs).1 ∧ Below w.heap.size w w' := by
  by_cases h4 : xs.length < 4
  · have HU : Hid (unS xs = ([], 10)) := by unfold Hid unS; rw [if_pos h4]
    have h4I : (xs.length : Int) - 4 < 0 := by omega
    go_enter Tryz.func27, Tryz.ntmps27
    go_wp2
    go_ret2
    rw [HU.out]
    exact ⟨_, rfl, World.ownsRow_nil _ _ _ _, Below.refl _ _⟩
  · obtain ⟨b, o, rfl, -⟩ := hx (by omega)
    obtain ⟨m, hm⟩ : ∃ m : Nat, m = xs.length - 4 := ⟨_, rfl⟩
    have hmI : (xs.length : Int) - 4 = (m : Int) := by omega
    have hmc : m + 4 ≤ cap := by omega
    have hmx : m + 4 = xs.length := by omega
    have HU : Hid (unS xs = if xs.drop m = sealL (xs.take m) then (xs.take m, 0) else ([], 13)) := by
      unfold Hid unS; rw [if_neg h4, ← hm]
    have hrt := hx.take m
    have hrd := hx.dropU m
    have htl : m = (xs.take m).length := by simp; omega
    have hdl : 4 = (xs.drop m).length := by simp; omega
    have HMX : Hid (m + 4 = xs.length) := hmx
    have HTL : Hid (m = (xs.take m).length) := htl
    have HDL : Hid (4 = (xs.drop m).length) := hdl
    clear h4 hm hmx htl hdl
    have hcI : (m : Int) ≤ (xs.length : Int) := by omega
    have hcI2 : (xs.length : Int) ≤ (cap : Int) := by omega
    have hmk : m < cap := by omega
    have hmk1 : ¬ cap = m := by omega
    have hmk2 : m ≤ cap := by omega
    go_enter Tryz.func27, Tryz.ntmps27
    go_wp2_with fail
    refine wp_region_noPanic ?_
    refine wp_region_held_drew (S := (fun u => Below w.heap.size w u)) (by kernel_rfl) (by first | exact (Below.refl _ _).drew | assumption) (fun hHeld => ?_)
    refine take_at (i := 0) 10 (v := ?_) rfl rfl (by kernel_rfl) (by kernel_rfl) (by kernel_rfl) (fun _ _ _ h => h) (by rfl) ?_ hHeld ?_
    rotate_left
    · (intro w hSw; (try dsimp only at hSw); go_simp; try with_reducible rfl)
    simp only [Act.put, List.setIfInBounds_toArray, List.set_cons_zero, List.set_cons_succ]
    refine take_at (i := 1) 11 (v := ?_) rfl rfl (by kernel_rfl) (by kernel_rfl) (by kernel_rfl) (fun _ _ _ h => h) (by rfl) ?_ hHeld ?_
    rotate_left
    · (intro w hSw; (try dsimp only at hSw); go_simp; try with_reducible rfl)
    simp only [Act.put, List.setIfInBounds_toArray, List.set_cons_zero, List.set_cons_succ]
    refine take_at (i := 2) 12 (v := ?_) rfl rfl (by kernel_rfl) (by kernel_rfl) (by kernel_rfl) (fun _ _ _ h => h) (by rfl) ?_ hHeld ?_
    rotate_left
    · (intro w hSw; (try dsimp only at hSw); go_simp; try with_reducible rfl)
    simp only [Act.put, List.setIfInBounds_toArray, List.set_cons_zero, List.set_cons_succ]
    refine take_at (i := 3) 13 (v := ?_) rfl rfl (by kernel_rfl) (by kernel_rfl) (by kernel_rfl) (fun _ _ _ h => h) (by rfl) ?_ hHeld ?_
    rotate_left
    · (intro w hSw; (try dsimp only at hSw); go_simp; try with_reducible rfl)
    simp only [Act.put, List.setIfInBounds_toArray, List.set_cons_zero, List.set_cons_succ]
    refine take_at (i := 4) 14 (v := ?_) rfl rfl (by kernel_rfl) (by kernel_rfl) (by kernel_rfl) (fun _ _ _ h => h) (by rfl) ?_ hHeld ?_
    rotate_left
    · (intro w hSw; (try dsimp only at hSw); go_simp; try with_reducible rfl)
    simp only [Act.put, List.setIfInBounds_toArray, List.set_cons_zero, List.set_cons_succ]
    refine take_at (i := 5) 15 (v := ?_) rfl rfl (by kernel_rfl) (by kernel_rfl) (by kernel_rfl) (fun _ _ _ h => h) (by rfl) ?_ hHeld ?_
    rotate_left
    · (intro w hSw; (try dsimp only at hSw); go_simp; try with_reducible rfl)
    simp only [Act.put, List.setIfInBounds_toArray, List.set_cons_zero, List.set_cons_succ]
    refine run_at (i := 6) rfl (by kernel_rfl) (by rfl) (fun K hK => ?_)
    simp only [List.getElem_toArray, List.getElem_cons_zero, List.getElem_cons_succ]
    go_simp
    first | (go_at_call 49; refine (sealOf_n _ _ cap (xs.take m) HTL.out _ (hrt.below (by first | exact (Below.refl _ _).drew | assumption)) (by omega) (ht.below (by first | exact (Below.refl _ _).drew | assumption))).mono ?_; rintro e w1 ⟨rfl, hown1, hb1, hs1⟩; have hS1 := below_next (B := w) (by first | exact (Below.refl _ _).drew | assumption) hb1) | (go_at_call 50; refine (equal_any _ _ _ (xs.drop m) (by rw [List.length_drop]) _ 4 4 (sealL (xs.take m)) rfl w1 (hrd.below hS1) (Rd.of_own hown1)).mono ?_; rintro e w2 ⟨rfl, rfl⟩; obtain ⟨bb, hbb⟩ : ∃ bb : Bool, bb = (xs.drop m == sealL (xs.take m)) := ⟨_, rfl⟩; rw [← hbb]; have HBB : Hid (bb = (xs.drop m == sealL (xs.take m))) := hbb; clear hbb)
    go_wp2_with fail
    refine hK.out _ _ (by first | exact (Below.refl _ _).drew | assumption) ?_
    clear hK K
    intro hHeld2
    clear hHeld
    have hHeld := hHeld2
    clear hHeld2
    try simp only [Act.put, List.setIfInBounds_toArray, List.set_cons_zero, List.set_cons_succ]
    refine run_at (i := 7) rfl (by kernel_rfl) (by rfl) (fun K hK => ?_)
    simp only [List.getElem_toArray, List.getElem_cons_zero, List.getElem_cons_succ]
    go_simp
    first | (go_at_call 49; refine (sealOf_n _ _ cap (xs.take m) HTL.out _ (hrt.below (by first | exact (Below.refl _ _).drew | assumption)) (by omega) (ht.below (by first | exact (Below.refl _ _).drew | assumption))).mono ?_; rintro e w1 ⟨rfl, hown1, hb1, hs1⟩; have hS1 := below_next (B := w) (by first | exact (Below.refl _ _).drew | assumption) hb1) | (go_at_call 50; refine (equal_any _ _ _ (xs.drop m) (by rw [List.length_drop]) _ 4 4 (sealL (xs.take m)) rfl w1 (hrd.below hS1) (Rd.of_own hown1)).mono ?_; rintro e w2 ⟨rfl, rfl⟩; obtain ⟨bb, hbb⟩ : ∃ bb : Bool, bb = (xs.drop m == sealL (xs.take m)) := ⟨_, rfl⟩; rw [← hbb]; have HBB : Hid (bb = (xs.drop m == sealL (xs.take m))) := hbb; clear hbb)
    go_wp2_with fail
    refine hK.out _ _ (by first | exact (Below.refl _ _).drew | assumption) ?_
    clear hK K
    intro hHeld2
    clear hHeld
    have hHeld := hHeld2
    clear hHeld2
    try simp only [Act.put, List.setIfInBounds_toArray, List.set_cons_zero, List.set_cons_succ]
    refine take_at (i := 8) 18 (v := ?_) rfl rfl (by kernel_rfl) (by kernel_rfl) (by kernel_rfl) (fun _ _ _ h => h) (by rfl) ?_ hHeld ?_
    rotate_left
    · (intro w hSw; (try dsimp only at hSw); go_simp; try with_reducible rfl)
    simp only [Act.put, List.setIfInBounds_toArray, List.set_cons_zero, List.set_cons_succ]
    refine wpAnyH_done (by kernel_rfl) ?_ _
    refine NoPanic.normal ?_
    have hb2 : Below w.heap.size w w2 := hS1
    cases bb with
    | true =>
      have he : xs.drop m = sealL (xs.take m) := beq_iff_eq.1 HBB.out.symm
      have HU2 : Hid (unS xs = (xs.take m, 0)) := by unfold Hid; rw [HU.out, if_pos he]
      clear HU he
      go_wp2_with fail
      refine (clone_n _ _ cap (xs.take m) HTL.out w2 (hrt.below hb2) (fun h => by cases h) (by omega)).mono ?_
      rintro e w3 ⟨v3, rfl, hown3, hb3⟩
      go_wp2
      go_ret2
      rw [HU2.out]
      exact ⟨_, rfl, hown3.base hb2.size, hb2.trans (hb3.mono hb2.size)⟩
    | false =>
      have he : ¬ xs.drop m = sealL (xs.take m) := fun h => by have := HBB.out; rw [h, beq_self_eq_true] at this; cases this
      have HU2 : Hid (unS xs = ([], 13)) := by unfold Hid; rw [HU.out, if_neg he]
      clear HU he
      go_wp2
      go_ret2
      rw [HU2.out]
      exact ⟨_, rfl, World.ownsRow_nil _ _ _ _, hb2⟩
theorem unseal_n (ao : Option Addr) (n cap : Nat) (xs : List UInt8) (hn : n = xs.length) (r : List UInt8) (q : Nat) (hu : unS xs = (r, q)) (w : World) (hx : Rd w ao xs) (hlc : n ≤ cap) (hcm : cap ≤ 9223372036854775807) (hl : n ≤ 140737488355328) (ht : TabOk w) :
    Calls Tryz.prog 27 #[.slice ao n cap] w fun e w' => ∃ v, e = .returned (.tuple #[v, .int .i64 (q : Nat)]) ∧ Own w' w.heap.size v r ∧ Below w.heap.size w w' := by
  subst hn
  have h := unseal_any ao cap xs w hx hlc hcm hl ht
  rw [hu] at h
  exact h
theorem len_seal (xs ys : List UInt8) : (xs ++ sealL ys).length = xs.length + 4 := by simp [sealL]
end Go.Proofs.YtplncfahpdmcoaaGreatDoor
