import Derived.Test.YtjigbopkmffjaaaDoorUX1
namespace Go.Proofs.YtjigbopkmffjaaaDoor
set_option linter.unusedVariables false
set_option linter.unusedSimpArgs false
open Go.RowKit
section
set_option maxRecDepth 20000
set_option maxHeartbeats 6400000
theorem rdec_2c (ao : Option Addr) (n cap : Nat) (xs : List UInt8) (hn : n = xs.length) (w : World) (hx : Rd w ao xs) (hlc : n ≤ cap) (hcm : cap ≤ 9223372036854775807) (hl : n ≤ 140737488355328) {X : List UInt8} (hun : unS xs = (X, 0)) {n1 n2 n3 : Nat} {y1 y2 y3 : List UInt8} {f1 f2 f3 : Int} (b2 b3 : Bool) (e1 : smD 1 3 (X, 0) = (2, y1, f1)) (e2 : nmS mxU (y1, f1) = (n2, y2, f2)) (hb2 : b2 = decide (0 < n2)) (e3 : nmS mxU (y2, mustF b2 f2) = (n3, y3, f3)) (hb3 : b3 = decide (0 < n3)) {m : Nat} {v1 v2 v3 : List UInt8} {g2 g3 : Int} {L : List Rg} (s1 : smD 0 7 (y3, mustF b3 f3) = (0, v1, 0)) (s2 : smD 0 32 (v1, 0) = (m, v2, g2)) (s3 : rgsS m [] (v2, g2) = (L, v3, g3))  :
    Calls Tryd.prog 20 #[.slice ao n cap] w fun er w' => DecR (⟨2, (n2 : Nat), (n3 : Nat), 0, 0, 0, [], 0, L⟩) v3 g3 w er w' := by
  have HUN : Hid _ := fun (u : World) (hu : Below w.heap.size w u) => refUns_b ao n cap xs hn u (hx.below hu) hlc hcm hl hun
  have HS1 : Hid _ := s1
  have HRX : Hid _ := fun (q B N : Nat) (u : World) (h : DX u q B N v1 0) (hN : N ≤ u.heap.size) => ranges_x u h hN s2 s3
  clear s1 s2 s3
  have HQ2 : Hid (b2 = decide (0 < n2)) := hb2
  have HQ3 : Hid (b3 = decide (0 < n3)) := hb3
  clear hb2 hb3
  have HXL : Hid (X.length ≤ 140737488355328) := by
    have h9 := unS_len xs
    rw [hun] at h9
    unfold Hid
    simp only at h9
    omega
  have HE1 : Hid _ := e1
  have HE2 : Hid _ := e2
  have HE3 : Hid _ := e3
  clear e1 e2 e3
  clear hx hn hlc hcm hl hun
  go_enter Tryd.func20, Tryd.ntmps20
  go_wp2_with fail
  refine Calls.mono (HUN.out _ (al (Below.refl _ _) _)) ?_
  rintro er1 w1 ⟨a1, L1, c1, rfl, hL1, hr1, hn1, hb1⟩
  have HL1 : Hid (L1 = X.length) := hL1
  have HR1 : Hid (Rd w1 a1 X) := hr1
  have HN1 : Hid (a1 = none → c1 = 0) := hn1
  have HB1 : Hid (Below w.heap.size w w1) := below_next (al (Below.refl _ _) _) hb1
  obtain ⟨G0, hG0⟩ : ∃ g, g = w.heap.size := ⟨_, rfl⟩
  have HG0 : Hid (G0 = w.heap.size) := hG0
  have HZ1 : Hid (w1.heap[G0]? = some (.cells #[.int .i64 0, .int .u64 0, .int .u64 0, .int .i64 0, .int .i64 0, .int .i64 0, .slice none 0 0, .int .i64 0, .slice none 0 0] 26 (0, 0))) := by unfold Hid; rw [hG0]; exact (hb1.block w.heap.size (by simp)).trans (heap_alloc_new w _)
  rw [← hG0]
  clear hL1 hr1 hn1 hb1 hG0
  go_wp2_with fail
  refine Calls.mono (new_x a1 L1 c1 X HL1.out w1 HR1.out HN1.out (by rw [HL1.out]; exact HXL.out)) ?_
  rintro er1 w2 ⟨q, rfl, hd2, hb2⟩
  obtain ⟨B, hB⟩ : ∃ B, B = w1.heap.size := ⟨_, rfl⟩
  obtain ⟨N, hN⟩ : ∃ N, N = w2.heap.size := ⟨_, rfl⟩
  rw [← hB, ← hN] at hd2
  have HD2 : Hid (DX w2 q B N X 0) := hd2
  have HB2 : Hid (Below w.heap.size w w2) := below_next HB1.out hb2
  have HZ2 : Hid (w2.heap[G0]? = some (.cells #[.int .i64 0, .int .u64 0, .int .u64 0, .int .i64 0, .int .i64 0, .int .i64 0, .slice none 0 0, .int .i64 0, .slice none 0 0] 26 (0, 0))) := (hb2.block G0 (Array.getElem?_eq_some_iff.1 HZ1.out).1).trans HZ1.out
  have HQ : Hid (G0 < q ∧ w.heap.size ≤ q ∧ q < N ∧ G0 = w.heap.size) := by
    have h1 := hd2.lt
    have h2 := (Array.getElem?_eq_some_iff.1 HZ1.out).1
    have h4 := HG0.out
    exact ⟨by omega, by omega, h1.2, h4⟩
  have HNN : Hid (N = w2.heap.size) := hN
  clear hd2 hb2 hB hN
  go_wp2_with fail
  refine Calls.mono (small_x 1 3 (by decide) (by decide) _ HD2.out HE1.out) ?_
  rintro er1 w3 ⟨rfl, hd, hg⟩
  have HD3 : Hid (DX w3 q B N y1 f1) := hd
  have HW3 : Hid (Below w.heap.size w w3) := HB2.out.grown hg HB2.out.size (fun j hj => by cases hj; exact HQ.out.2.1)
  have HZ3 : Hid (w3.heap[G0]? = some (.cells #[.int .i64 0, .int .u64 0, .int .u64 0, .int .i64 0, .int .i64 0, .int .i64 0, .slice none 0 0, .int .i64 0, .slice none 0 0] 26 (0, 0))) := gr_box hg (by have := HQ.out; omega) HZ2.out
  obtain ⟨g, hgg⟩ : ∃ g, g = w3.heap.size := ⟨_, rfl⟩
  have HGE : Hid (g = w3.heap.size) := hgg
  have HGN : Hid (N ≤ g) := by have h1 := hg.size; have h2 := HNN.out; unfold Hid; omega
  have hss := fun (u : World) (a : Addr) (o : Option Addr) (n c : Nat) => run_store Tryd.prog u a (.slice o n c) .plain rfl
  clear hd hg
  go_wp2_with fail
  rw [← hgg]
  clear hgg hss
  refine Calls.mono (number_x (m := mxU) _ (HD3.out.below (al (Below.refl _ _) _)) HE2.out) ?_
  rintro er1 w4 ⟨rfl, hd, hg⟩
  have HD4 : Hid (DX w4 q B N y2 f2) := hd
  have HU4 : Hid (UBx w4 g #[.int .i64 2, .int .u64 0, .int .u64 0, .int .i64 0, .int .i64 0, .int .i64 0, .slice none 0 0, .int .i64 0, .slice none 0 0]) := gr_box hg (by have := HQ.out; have := HGN.out; omega) (by rw [HGE.out]; exact heap_alloc_new w3 _)
  have HW4 : Hid (Below w.heap.size w w4) := (HW3.out.alloc HW3.out.size _).grown hg (HW3.out.alloc HW3.out.size _).size (fun j hj => by cases hj; exact HQ.out.2.1)
  have HZ4 : Hid (w4.heap[G0]? = some (.cells #[.int .i64 0, .int .u64 0, .int .u64 0, .int .i64 0, .int .i64 0, .int .i64 0, .slice none 0 0, .int .i64 0, .slice none 0 0] 26 (0, 0))) := gr_box hg (by have := HQ.out; omega) (((al (Below.refl _ _) _).block G0 (Array.getElem?_eq_some_iff.1 HZ3.out).1).trans HZ3.out)
  clear hd hg
  have cs5 : w4.cell? ⟨g, 1, none⟩ = some (.int .u64 0) := by rw [cell_of_row _ _ _ _ _ _ HU4.out]; rfl
  have zs5 : w4.frozen? ⟨g, 1, none⟩ = false := by simp [World.frozen?, HU4.out]
  obtain ⟨w5, hx5⟩ : ∃ x : World, x = w4.setCell ⟨g, 1, none⟩ (.int .u64 (n2 : Nat)) := ⟨_, rfl⟩
  have HX5 : Hid (w4.grownBy w5 (some g)) := by unfold Hid; rw [hx5]; exact gset1 _ _ _ _
  have HU5 : Hid (UBx w5 g #[.int .i64 2, .int .u64 (n2 : Nat), .int .u64 0, .int .i64 0, .int .i64 0, .int .i64 0, .slice none 0 0, .int .i64 0, .slice none 0 0]) := by unfold Hid UBx; rw [hx5, heap_setCell_same w4 g 1 _ _ _ HU4.out]; rfl
  have HD5 : Hid (DX w5 q B N y2 f2) := DX.grown HD4.out HX5.out (.inr HGN.out)
  have HW5 : Hid (Below w.heap.size w w5) := HW4.out.grown HX5.out HW4.out.size (fun j hj => by cases hj; have := HQ.out; have := HGN.out; omega)
  have HZ5 : Hid (w5.heap[G0]? = some (.cells #[.int .i64 0, .int .u64 0, .int .u64 0, .int .i64 0, .int .i64 0, .int .i64 0, .slice none 0 0, .int .i64 0, .slice none 0 0] 26 (0, 0))) := gr_box HX5.out (by have := HQ.out; have := HGN.out; omega) HZ4.out
  have hbb : b2 = decide ((0 : Int) < (n2 : Int)) := by rw [HQ2.out]; exact decide_eq_decide.2 (by omega)
  go_wp2_with fail
  first | rw [← hbb] | (have hbb' : b2 = decide (0 < n2) := HQ2.out; rw [← hbb']; clear hbb')
  clear hbb
  rw [← hx5]
  clear hx5 cs5 zs5
  refine Calls.mono (want_x b2 _ HD5.out) ?_
  rintro er1 w6 ⟨rfl, hd, hg⟩
  have HD6 : Hid (DX w6 q B N y2 (mustF b2 f2)) := hd
  have HU6 : Hid (UBx w6 g #[.int .i64 2, .int .u64 (n2 : Nat), .int .u64 0, .int .i64 0, .int .i64 0, .int .i64 0, .slice none 0 0, .int .i64 0, .slice none 0 0]) := gr_box hg (by have := HQ.out; have := HGN.out; omega) HU5.out
  have HW6 : Hid (Below w.heap.size w w6) := HW5.out.grown hg HW5.out.size (fun j hj => by cases hj; exact HQ.out.2.1)
  have HZ6 : Hid (w6.heap[G0]? = some (.cells #[.int .i64 0, .int .u64 0, .int .u64 0, .int .i64 0, .int .i64 0, .int .i64 0, .slice none 0 0, .int .i64 0, .slice none 0 0] 26 (0, 0))) := gr_box hg (by have := HQ.out; omega) HZ5.out
  clear hd hg
  go_wp2_with fail
  refine Calls.mono (number_x (m := mxU) _ HD6.out HE3.out) ?_
  rintro er1 w7 ⟨rfl, hd, hg⟩
  have HD7 : Hid (DX w7 q B N y3 f3) := hd
  have HU7 : Hid (UBx w7 g #[.int .i64 2, .int .u64 (n2 : Nat), .int .u64 0, .int .i64 0, .int .i64 0, .int .i64 0, .slice none 0 0, .int .i64 0, .slice none 0 0]) := gr_box hg (by have := HQ.out; have := HGN.out; omega) HU6.out
  have HW7 : Hid (Below w.heap.size w w7) := HW6.out.grown hg HW6.out.size (fun j hj => by cases hj; exact HQ.out.2.1)
  have HZ7 : Hid (w7.heap[G0]? = some (.cells #[.int .i64 0, .int .u64 0, .int .u64 0, .int .i64 0, .int .i64 0, .int .i64 0, .slice none 0 0, .int .i64 0, .slice none 0 0] 26 (0, 0))) := gr_box hg (by have := HQ.out; omega) HZ6.out
  clear hd hg
  have cs8 : w7.cell? ⟨g, 2, none⟩ = some (.int .u64 0) := by rw [cell_of_row _ _ _ _ _ _ HU7.out]; rfl
  have zs8 : w7.frozen? ⟨g, 2, none⟩ = false := by simp [World.frozen?, HU7.out]
  obtain ⟨w8, hx8⟩ : ∃ x : World, x = w7.setCell ⟨g, 2, none⟩ (.int .u64 (n3 : Nat)) := ⟨_, rfl⟩
  have HX8 : Hid (w7.grownBy w8 (some g)) := by unfold Hid; rw [hx8]; exact gset1 _ _ _ _
  have HU8 : Hid (UBx w8 g #[.int .i64 2, .int .u64 (n2 : Nat), .int .u64 (n3 : Nat), .int .i64 0, .int .i64 0, .int .i64 0, .slice none 0 0, .int .i64 0, .slice none 0 0]) := by unfold Hid UBx; rw [hx8, heap_setCell_same w7 g 2 _ _ _ HU7.out]; rfl
  have HD8 : Hid (DX w8 q B N y3 f3) := DX.grown HD7.out HX8.out (.inr HGN.out)
  have HW8 : Hid (Below w.heap.size w w8) := HW7.out.grown HX8.out HW7.out.size (fun j hj => by cases hj; have := HQ.out; have := HGN.out; omega)
  have HZ8 : Hid (w8.heap[G0]? = some (.cells #[.int .i64 0, .int .u64 0, .int .u64 0, .int .i64 0, .int .i64 0, .int .i64 0, .slice none 0 0, .int .i64 0, .slice none 0 0] 26 (0, 0))) := gr_box HX8.out (by have := HQ.out; have := HGN.out; omega) HZ7.out
  have hbb : b3 = decide ((0 : Int) < (n3 : Int)) := by rw [HQ3.out]; exact decide_eq_decide.2 (by omega)
  go_wp2_with fail
  first | rw [← hbb] | (have hbb' : b3 = decide (0 < n3) := HQ3.out; rw [← hbb']; clear hbb')
  clear hbb
  rw [← hx8]
  clear hx8 cs8 zs8
  refine Calls.mono (want_x b3 _ HD8.out) ?_
  rintro er1 w9 ⟨rfl, hd, hg⟩
  have HD9 : Hid (DX w9 q B N y3 (mustF b3 f3)) := hd
  have HU9 : Hid (UBx w9 g #[.int .i64 2, .int .u64 (n2 : Nat), .int .u64 (n3 : Nat), .int .i64 0, .int .i64 0, .int .i64 0, .slice none 0 0, .int .i64 0, .slice none 0 0]) := gr_box hg (by have := HQ.out; have := HGN.out; omega) HU8.out
  have HW9 : Hid (Below w.heap.size w w9) := HW8.out.grown hg HW8.out.size (fun j hj => by cases hj; exact HQ.out.2.1)
  have HZ9 : Hid (w9.heap[G0]? = some (.cells #[.int .i64 0, .int .u64 0, .int .u64 0, .int .i64 0, .int .i64 0, .int .i64 0, .slice none 0 0, .int .i64 0, .slice none 0 0] 26 (0, 0))) := gr_box hg (by have := HQ.out; omega) HZ8.out
  clear hd hg
  have ck9 : w9.cell? ⟨g, 0, none⟩ = some (.int .i64 2) := by rw [cell_of_row _ _ _ _ _ _ HU9.out]; rfl
  go_wp2_with fail
  refine Calls.mono (small_x 0 7 (by decide) (by decide) _ HD9.out HS1.out) ?_
  rintro er1 w10 ⟨rfl, hd, hg⟩
  have HD10 : Hid (DX w10 q B N v1 0) := hd
  have HU10 : Hid (UBx w10 g #[.int .i64 2, .int .u64 (n2 : Nat), .int .u64 (n3 : Nat), .int .i64 0, .int .i64 0, .int .i64 0, .slice none 0 0, .int .i64 0, .slice none 0 0]) := gr_box hg (by have := HQ.out; have := HGN.out; omega) HU9.out
  have HW10 : Hid (Below w.heap.size w w10) := HW9.out.grown hg HW9.out.size (fun j hj => by cases hj; exact HQ.out.2.1)
  have HZ10 : Hid (w10.heap[G0]? = some (.cells #[.int .i64 0, .int .u64 0, .int .u64 0, .int .i64 0, .int .i64 0, .int .i64 0, .slice none 0 0, .int .i64 0, .slice none 0 0] 26 (0, 0))) := gr_box hg (by have := HQ.out; omega) HZ9.out
  clear hd hg
  clear ck9
  have cs11 : w10.cell? ⟨g, 7, none⟩ = some (.int .i64 0) := by rw [cell_of_row _ _ _ _ _ _ HU10.out]; rfl
  have zs11 : w10.frozen? ⟨g, 7, none⟩ = false := by simp [World.frozen?, HU10.out]
  obtain ⟨w11, hx11⟩ : ∃ x : World, x = w10.setCell ⟨g, 7, none⟩ (.int .i64 0) := ⟨_, rfl⟩
  have HX11 : Hid (w10.grownBy w11 (some g)) := by unfold Hid; rw [hx11]; exact gset1 _ _ _ _
  have HU11 : Hid (UBx w11 g #[.int .i64 2, .int .u64 (n2 : Nat), .int .u64 (n3 : Nat), .int .i64 0, .int .i64 0, .int .i64 0, .slice none 0 0, .int .i64 0, .slice none 0 0]) := by unfold Hid UBx; rw [hx11, heap_setCell_same w10 g 7 _ _ _ HU10.out]; rfl
  have HD11 : Hid (DX w11 q B N v1 0) := DX.grown HD10.out HX11.out (.inr HGN.out)
  have HW11 : Hid (Below w.heap.size w w11) := HW10.out.grown HX11.out HW10.out.size (fun j hj => by cases hj; have := HQ.out; have := HGN.out; omega)
  have HZ11 : Hid (w11.heap[G0]? = some (.cells #[.int .i64 0, .int .u64 0, .int .u64 0, .int .i64 0, .int .i64 0, .int .i64 0, .slice none 0 0, .int .i64 0, .slice none 0 0] 26 (0, 0))) := gr_box HX11.out (by have := HQ.out; have := HGN.out; omega) HZ10.out
  have ce11 : (w10.setCell ⟨g, 7, none⟩ (.int .i64 0)).cell? ⟨q, 1, none⟩ = some (.int .i64 0) := by rw [← hx11]; exact HD11.out.c1
  go_wp2_with fail
  clear ce11
  rw [← hx11]
  clear hx11 cs11 zs11
  refine Calls.mono (HRX.out q B N _ HD11.out (by have := HGN.out; have := (Array.getElem?_eq_some_iff.1 HU11.out).1; omega)) ?_
  rintro er1 w12 ⟨L9, a8, M, c8, rfl, hM, hLT, ho8, hd, hg⟩
  have HD12 : Hid (DX w12 q B N v3 g3) := hd
  have HU12 : Hid (UBx w12 g #[.int .i64 2, .int .u64 (n2 : Nat), .int .u64 (n3 : Nat), .int .i64 0, .int .i64 0, .int .i64 0, .slice none 0 0, .int .i64 0, .slice none 0 0]) := gr_box hg (by have := HQ.out; have := HGN.out; omega) HU11.out
  have HW12 : Hid (Below w.heap.size w w12) := HW11.out.grown hg HW11.out.size (fun j hj => by cases hj; exact HQ.out.2.1)
  have HZ12 : Hid (w12.heap[G0]? = some (.cells #[.int .i64 0, .int .u64 0, .int .u64 0, .int .i64 0, .int .i64 0, .int .i64 0, .slice none 0 0, .int .i64 0, .slice none 0 0] 26 (0, 0))) := gr_box hg (by have := HQ.out; omega) HZ11.out
  have HO12 : Hid (OwnR w12 (g + 1) (.slice a8 M c8) L9) := OwnR.base ho8 (Array.getElem?_eq_some_iff.1 HU11.out).1
  have HLT : Hid (M = L9.length ∧ (g3 = 0 → L9 = L)) := ⟨hM, hLT⟩
  clear ho8 hM hLT
  clear hd hg
  have cs13 : w12.cell? ⟨g, 8, none⟩ = some (.slice none 0 0) := by rw [cell_of_row _ _ _ _ _ _ HU12.out]; rfl
  have zs13 : w12.frozen? ⟨g, 8, none⟩ = false := by simp [World.frozen?, HU12.out]
  obtain ⟨w13, hx13⟩ : ∃ x : World, x = w12.setCell ⟨g, 8, none⟩ (.slice a8 M c8) := ⟨_, rfl⟩
  have HX13 : Hid (w12.grownBy w13 (some g)) := by unfold Hid; rw [hx13]; exact gset1 _ _ _ _
  have HU13 : Hid (UBx w13 g #[.int .i64 2, .int .u64 (n2 : Nat), .int .u64 (n3 : Nat), .int .i64 0, .int .i64 0, .int .i64 0, .slice none 0 0, .int .i64 0, .slice a8 M c8]) := by unfold Hid UBx; rw [hx13, heap_setCell_same w12 g 8 _ _ _ HU12.out]; rfl
  have HD13 : Hid (DX w13 q B N v3 g3) := DX.grown HD12.out HX13.out (.inr HGN.out)
  have HW13 : Hid (Below w.heap.size w w13) := HW12.out.grown HX13.out HW12.out.size (fun j hj => by cases hj; have := HQ.out; have := HGN.out; omega)
  have HZ13 : Hid (w13.heap[G0]? = some (.cells #[.int .i64 0, .int .u64 0, .int .u64 0, .int .i64 0, .int .i64 0, .int .i64 0, .slice none 0 0, .int .i64 0, .slice none 0 0] 26 (0, 0))) := gr_box HX13.out (by have := HQ.out; have := HGN.out; omega) HZ12.out
  have HO13 : Hid (OwnR w13 (g + 1) (.slice a8 M c8) L9) := OwnR.grown HO12.out HX13.out (Nat.lt_succ_self _)
  have hD9 := HD13.out
  rw [hx13] at HU13 HD13 HW13 HZ13 HO13 hD9
  obtain ⟨Y, hY⟩ : ∃ Y, Y = v3 := ⟨_, rfl⟩
  have HYY : Hid (Y = v3) := hY
  obtain ⟨F, hF⟩ : ∃ F, F = g3 := ⟨_, rfl⟩
  have HFF : Hid (F = g3) := hF
  have HDE : Hid (DX (w12.setCell ⟨g, 8, none⟩ (.slice a8 M c8)) q B N Y F) := by rw [hY, hF]; exact HD13.out
  clear hY hF
  have c1 := HDE.out.c1
  obtain ⟨ra, rc, c0⟩ := HDE.out.c0
  by_cases hF : F = 0
  · by_cases hY : Y = []
    · -- all is well
      have HY0 : Hid (Y = [] ∧ F = 0) := ⟨hY, hF⟩
      subst hF
      subst hY
      go_wp2_with (first
        | (refine wpList_load_g (by rfl) 26 _ rfl g 0 (by rfl) [.int .i64 2, .int .u64 (n2 : Nat), .int .u64 (n3 : Nat), .int .i64 0, .int .i64 0, .int .i64 0, .slice none 0 0, .int .i64 0, .slice a8 M c8] _ (box_range HU13.out) Tryd.underlying26 rfl info_un ?_)
        | (refine wpList_store_mid rfl 26 _ _ rfl G0 0 #[.int .i64 2, .int .u64 (n2 : Nat), .int .u64 (n3 : Nat), .int .i64 0, .int .i64 0, .int .i64 0, .slice none 0 0, .int .i64 0, .slice a8 M c8] rfl rfl (box_there HZ13.out rfl) (by kernel_rfl) (by simp [Value.oneCell']) ?_))
      (try simp only [Exit.inBlock, Exit.then])
      refine bodyPost_ret (results_ct Tryd.results20 _ _ G0 26 #[.int .i64 2, .int .u64 (n2 : Nat), .int .u64 (n3 : Nat), .int .i64 0, .int .i64 0, .int .i64 0, .slice none 0 0, .int .i64 0, .slice a8 M c8] (0, 0) _ rfl (box_set HZ13.out rfl) Tryd.underlying26 rfl (by kernel_rfl)) rfl ?_
      have hfin := setCells_grown G0 [.int .i64 2, .int .u64 (n2 : Nat), .int .u64 (n3 : Nat), .int .i64 0, .int .i64 0, .int .i64 0, .slice none 0 0, .int .i64 0, .slice a8 M c8] 0 (w12.setCell ⟨g, 8, none⟩ (.slice a8 M c8))
      have hbel : Below w.heap.size w ((w12.setCell ⟨g, 8, none⟩ (.slice a8 M c8)).setCells G0 0 [.int .i64 2, .int .u64 (n2 : Nat), .int .u64 (n3 : Nat), .int .i64 0, .int .i64 0, .int .i64 0, .slice none 0 0, .int .i64 0, .slice a8 M c8]) := HW13.out.grown hfin HW13.out.size (fun j hj => by cases hj; exact Nat.le_of_eq HG0.out.symm)
      have hr : rEnd v3 g3 = 0 := by rw [← HYY.out, ← HFF.out]; rfl
      unfold DecR
      rw [if_pos hr]
      have hL : L9 = L := HLT.out.2 (by rw [← HFF.out])
      subst hL
      have hMM : M = L9.length := HLT.out.1
      subst hMM
      exact ⟨none, 0, a8, c8, rfl, World.ownsRow_nil _ _ _ _, OwnR.base (OwnR.grown HO13.out hfin (by have := HQ.out; have := HGN.out; omega)) (by have := HQ.out; have := HGN.out; omega), hbel⟩
    · -- a rest
      subst hF
      obtain ⟨yl, hyl⟩ : ∃ m, m = Y.length := ⟨_, rfl⟩
      have hyp : 0 < yl := by rw [hyl]; exact List.length_pos_iff.2 hY
      have hypI : (0 : Int) < (yl : Int) := by omega
      rw [← hyl] at c0
      have HY1 : Hid (rEnd v3 g3 = 11) := by unfold Hid rEnd; rw [← HYY.out, ← HFF.out, if_pos rfl, if_pos (by omega)]
      clear hyl hY
      go_wp2_with fail
      refine Calls.mono (fail_x 11 _ HDE.out) ?_
      rintro er1 wf ⟨rfl, hd, hg⟩
      have HWf : Hid (Below w.heap.size w wf) := HW13.out.grown hg HW13.out.size (fun j hj => by cases hj; exact HQ.out.2.1)
      have HZf : Hid (wf.heap[G0]? = some (.cells #[.int .i64 0, .int .u64 0, .int .u64 0, .int .i64 0, .int .i64 0, .int .i64 0, .slice none 0 0, .int .i64 0, .slice none 0 0] 26 (0, 0))) := gr_box hg (by have := HQ.out; omega) HZ13.out
      rw [if_pos rfl] at hd
      clear c1
      have c1 := hd.c1
      have c1d : wf.drew.cell? ⟨q, 1, none⟩ = some (.int .i64 11) := c1
      have c1s : ∀ cs, (wf.drew.setCells G0 0 cs).cell? ⟨q, 1, none⟩ = some (.int .i64 11) := fun cs => gr_cellU (setCells_grown _ _ _ _) c1d (by have := HQ.out; omega)
      clear hd hg c0
      go_wp2_with fail
      refine wp_region_noPanic ?_
      refine wp_region_held_drew (S := (fun u => u.cell? ⟨q, 1, none⟩ = some (.int .i64 11))) (by kernel_rfl) (by with_reducible first | exact c1 | exact c1d | exact c1s _) (fun hHeld => ?_)
      refine take_at (i := 0) 101 (v := ?_) rfl rfl (by kernel_rfl) (by kernel_rfl) (by kernel_rfl) (fun _ _ _ h => h) (by rfl) ?_ hHeld ?_
      rotate_left
      · (intro w hSw; (try dsimp only at hSw); go_simp; try with_reducible rfl)
      simp only [Act.put, List.setIfInBounds_toArray, List.set_cons_zero, List.set_cons_succ]
      refine take_at (i := 1) 102 (v := ?_) rfl rfl (by kernel_rfl) (by kernel_rfl) (by kernel_rfl) (fun _ _ _ h => h) (by rfl) ?_ hHeld ?_
      rotate_left
      · (intro w hSw; (try dsimp only at hSw); go_simp; try with_reducible rfl)
      simp only [Act.put, List.setIfInBounds_toArray, List.set_cons_zero, List.set_cons_succ]
      refine take_at (i := 2) 103 (v := ?_) rfl rfl (by kernel_rfl) (by kernel_rfl) (by kernel_rfl) (fun _ _ _ h => h) (by rfl) ?_ hHeld ?_
      rotate_left
      · (intro w hSw; (try dsimp only at hSw); go_simp; try with_reducible rfl)
      simp only [Act.put, List.setIfInBounds_toArray, List.set_cons_zero, List.set_cons_succ]
      refine take_at (i := 3) 104 (v := ?_) rfl rfl (by kernel_rfl) (by kernel_rfl) (by kernel_rfl) (fun _ _ _ h => h) (by rfl) ?_ hHeld ?_
      rotate_left
      · (intro w hSw; (try dsimp only at hSw); go_simp; try with_reducible rfl)
      simp only [Act.put, List.setIfInBounds_toArray, List.set_cons_zero, List.set_cons_succ]
      refine take_at (i := 4) 105 (v := ?_) rfl rfl (by kernel_rfl) (by kernel_rfl) (by kernel_rfl) (fun _ _ _ h => h) (by rfl) ?_ hHeld ?_
      rotate_left
      · (intro w hSw; (try dsimp only at hSw); go_simp; try with_reducible rfl)
      simp only [Act.put, List.setIfInBounds_toArray, List.set_cons_zero, List.set_cons_succ]
      refine run_at (i := 5) rfl (by kernel_rfl) (by rfl) (fun K hK => ?_)
      simp only [List.getElem_toArray, List.getElem_cons_zero, List.getElem_cons_succ]
      refine wp_store_mid 26 _ _ rfl G0 0 #[.int .i64 0, .int .u64 0, .int .u64 0, .int .i64 0, .int .i64 0, .int .i64 0, .slice none 0 0, .int .i64 0, .slice none 0 0] rfl rfl (box_there (w := wf.drew) HZf.out rfl) (by kernel_rfl) (by simp [Value.oneCell']) ?_
      refine hK.out _ _ (by with_reducible first | exact c1 | exact c1d | exact c1s _) ?_
      clear hK K
      intro hHeld2
      clear hHeld
      have hHeld := hHeld2
      clear hHeld2
      try simp only [Act.put, List.setIfInBounds_toArray, List.set_cons_zero, List.set_cons_succ]
      refine take_at (i := 6) 3 (v := ?_) rfl rfl (by kernel_rfl) (by kernel_rfl) (by kernel_rfl) (fun _ _ _ h => h) (by rfl) ?_ hHeld ?_
      rotate_left
      · (intro w hSw; (try dsimp only at hSw); go_simp; try with_reducible rfl)
      simp only [Act.put, List.setIfInBounds_toArray, List.set_cons_zero, List.set_cons_succ]
      refine wpAnyH_done (by kernel_rfl) ?_ _
      refine NoPanic.normal ?_
      go_wp2
      (try simp only [Exit.inBlock, Exit.then])
      refine bodyPost_ret (results_ct Tryd.results20 _ _ G0 26 #[.int .i64 0, .int .u64 0, .int .u64 0, .int .i64 0, .int .i64 0, .int .i64 0, .slice none 0 0, .int .i64 0, .slice none 0 0] (0, 0) _ rfl (box_set (w := wf.drew) HZf.out rfl) Tryd.underlying26 rfl (by kernel_rfl)) rfl ?_
      have hfin := setCells_grown G0 [.int .i64 0, .int .u64 0, .int .u64 0, .int .i64 0, .int .i64 0, .int .i64 0, .slice none 0 0, .int .i64 0, .slice none 0 0] 0 wf.drew
      unfold DecR
      rw [if_neg (by rw [HY1.out]; decide), HY1.out]
      exact DecOut.zero (HWf.out.drew.grown hfin HWf.out.drew.size (fun j hj => by cases hj; exact Nat.le_of_eq HG0.out.symm))
  · have hFb : (F == 0) = false := by simpa using hF
    have HY1 : Hid (rEnd v3 g3 = F) := by unfold Hid rEnd; rw [← HYY.out, ← HFF.out, if_neg hF]
    have HNF : Hid (¬ F = 0) := hF
    have c1d : (w12.setCell ⟨g, 8, none⟩ (.slice a8 M c8)).drew.cell? ⟨q, 1, none⟩ = some (.int .i64 F) := c1
    have c1s : ∀ cs, ((w12.setCell ⟨g, 8, none⟩ (.slice a8 M c8)).drew.setCells G0 0 cs).cell? ⟨q, 1, none⟩ = some (.int .i64 F) := fun cs => gr_cellU (setCells_grown _ _ _ _) c1d (by have := HQ.out; omega)
    go_wp2_with fail
    refine wp_region_noPanic ?_
    refine wp_region_held_drew (S := (fun u => u.cell? ⟨q, 1, none⟩ = some (.int .i64 F))) (by kernel_rfl) (by with_reducible first | exact c1 | exact c1d | exact c1s _) (fun hHeld => ?_)
    refine take_at (i := 0) 101 (v := ?_) rfl rfl (by kernel_rfl) (by kernel_rfl) (by kernel_rfl) (fun _ _ _ h => h) (by rfl) ?_ hHeld ?_
    rotate_left
    · (intro w hSw; (try dsimp only at hSw); go_simp; try with_reducible rfl)
    simp only [Act.put, List.setIfInBounds_toArray, List.set_cons_zero, List.set_cons_succ]
    refine take_at (i := 1) 102 (v := ?_) rfl rfl (by kernel_rfl) (by kernel_rfl) (by kernel_rfl) (fun _ _ _ h => h) (by rfl) ?_ hHeld ?_
    rotate_left
    · (intro w hSw; (try dsimp only at hSw); go_simp; try with_reducible rfl)
    simp only [Act.put, List.setIfInBounds_toArray, List.set_cons_zero, List.set_cons_succ]
    refine take_at (i := 2) 103 (v := ?_) rfl rfl (by kernel_rfl) (by kernel_rfl) (by kernel_rfl) (fun _ _ _ h => h) (by rfl) ?_ hHeld ?_
    rotate_left
    · (intro w hSw; (try dsimp only at hSw); go_simp; try with_reducible rfl)
    simp only [Act.put, List.setIfInBounds_toArray, List.set_cons_zero, List.set_cons_succ]
    refine take_at (i := 3) 104 (v := ?_) rfl rfl (by kernel_rfl) (by kernel_rfl) (by kernel_rfl) (fun _ _ _ h => h) (by rfl) ?_ hHeld ?_
    rotate_left
    · (intro w hSw; (try dsimp only at hSw); go_simp; try with_reducible rfl)
    simp only [Act.put, List.setIfInBounds_toArray, List.set_cons_zero, List.set_cons_succ]
    refine take_at (i := 4) 105 (v := ?_) rfl rfl (by kernel_rfl) (by kernel_rfl) (by kernel_rfl) (fun _ _ _ h => h) (by rfl) ?_ hHeld ?_
    rotate_left
    · (intro w hSw; (try dsimp only at hSw); go_simp; try with_reducible rfl)
    simp only [Act.put, List.setIfInBounds_toArray, List.set_cons_zero, List.set_cons_succ]
    refine run_at (i := 5) rfl (by kernel_rfl) (by rfl) (fun K hK => ?_)
    simp only [List.getElem_toArray, List.getElem_cons_zero, List.getElem_cons_succ]
    refine wp_store_mid 26 _ _ rfl G0 0 #[.int .i64 0, .int .u64 0, .int .u64 0, .int .i64 0, .int .i64 0, .int .i64 0, .slice none 0 0, .int .i64 0, .slice none 0 0] rfl rfl (box_there (w := (w12.setCell ⟨g, 8, none⟩ (.slice a8 M c8)).drew) HZ13.out rfl) (by kernel_rfl) (by simp [Value.oneCell']) ?_
    refine hK.out _ _ (by with_reducible first | exact c1 | exact c1d | exact c1s _) ?_
    clear hK K
    intro hHeld2
    clear hHeld
    have hHeld := hHeld2
    clear hHeld2
    try simp only [Act.put, List.setIfInBounds_toArray, List.set_cons_zero, List.set_cons_succ]
    refine take_at (i := 6) 3 (v := ?_) rfl rfl (by kernel_rfl) (by kernel_rfl) (by kernel_rfl) (fun _ _ _ h => h) (by rfl) ?_ hHeld ?_
    rotate_left
    · (intro w hSw; (try dsimp only at hSw); go_simp; try with_reducible rfl)
    simp only [Act.put, List.setIfInBounds_toArray, List.set_cons_zero, List.set_cons_succ]
    refine wpAnyH_done (by kernel_rfl) ?_ _
    refine NoPanic.normal ?_
    go_wp2
    (try simp only [Exit.inBlock, Exit.then])
    refine bodyPost_ret (results_ct Tryd.results20 _ _ G0 26 #[.int .i64 0, .int .u64 0, .int .u64 0, .int .i64 0, .int .i64 0, .int .i64 0, .slice none 0 0, .int .i64 0, .slice none 0 0] (0, 0) _ rfl (box_set (w := (w12.setCell ⟨g, 8, none⟩ (.slice a8 M c8)).drew) HZ13.out rfl) Tryd.underlying26 rfl (by kernel_rfl)) rfl ?_
    have hfin := setCells_grown G0 [.int .i64 0, .int .u64 0, .int .u64 0, .int .i64 0, .int .i64 0, .int .i64 0, .slice none 0 0, .int .i64 0, .slice none 0 0] 0 (w12.setCell ⟨g, 8, none⟩ (.slice a8 M c8)).drew
    unfold DecR
    rw [if_neg (by rw [HY1.out]; exact HNF.out), HY1.out]
    exact DecOut.zero (HW13.out.drew.grown hfin HW13.out.drew.size (fun j hj => by cases hj; exact Nat.le_of_eq HG0.out.symm))
end
end Go.Proofs.YtjigbopkmffjaaaDoor
