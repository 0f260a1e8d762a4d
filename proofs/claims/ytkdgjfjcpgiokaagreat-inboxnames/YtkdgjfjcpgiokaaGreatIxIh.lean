import Derived.Test.YtkdgjfjcpgiokaaGreatIxIg
namespace Go.Proofs.YtkdgjfjcpgiokaaGreat
set_option linter.unusedVariables false
set_option linter.unusedSimpArgs false
open Go.RowKit Go.Maps
/-- the boxes of Take's own -/
structure TkF (u : World) (P Q : Nat) (uc : Array Value) (s : Ss) : Prop where
  un : u.heap[P]? = some (.cells uc tUn (0, 0))
  an : u.heap[P + 1]? = some (.cells #[.int .i64 0, .int .i64 0, .slice none 0 0, .slice none 0 0] 59 (0, 0))
  ky : u.heap[Q]? = some (.cells #[.int .u64 (s.1 : Int), .int .u64 (s.2 : Int)] tSs (0, 0))
  pq : P + 1 < Q
theorem TkF.chg {u v : World} {P Q : Nat} {uc : Array Value} {s : Ss} (h : TkF u P Q uc s) {D : Nat → Prop} (hc : Chg D u v) (hD : ∀ b, D b → b < P) : TkF v P Q uc s :=
  ⟨(hc.block P (Array.getElem?_eq_some_iff.1 h.un).1 (fun h9 => by have := hD _ h9; omega)).trans h.un, (hc.block (P + 1) (Array.getElem?_eq_some_iff.1 h.an).1 (fun h9 => by have := hD _ h9; omega)).trans h.an, (hc.block Q (Array.getElem?_eq_some_iff.1 h.ky).1 (fun h9 => by have := hD _ h9; have := h.pq; omega)).trans h.ky, h.pq⟩
theorem TkF.below {u v : World} {P Q : Nat} {uc : Array Value} {s : Ss} (h : TkF u P Q uc s) (hb : Below u.heap.size u v) : TkF v P Q uc s := h.chg (Chg.of_below (F := fun _ => False) hb) (fun _ h9 => h9.elim)
theorem TkF.k0 {u : World} {P Q : Nat} {uc : Array Value} {s : Ss} (h : TkF u P Q uc s) : u.cell? ⟨Q, 0, none⟩ = some (.int .u64 (s.1 : Int)) ∧ u.cell? ⟨Q, 1, none⟩ = some (.int .u64 (s.2 : Int)) := ⟨by rw [cell_of_row _ _ _ _ _ _ h.ky]; rfl, by rw [cell_of_row _ _ _ _ _ _ h.ky]; rfl⟩
/-- a box of one session and another's -/
theorem Ibx.two {w : World} {p m1 m2 T1 T2 : Nat} {I : Ib} {E : List (Ss × Bg)} {G : List (Ss × (Int × Nat))} (h : Ibx none w p m1 m2 T1 T2 I E G) {s : Ss} {b : Bg} (hb : lk E s = some b) {x : Ss × Bg} (hx : x ∈ E) (hn : x.1 ≠ s) (c : Nat) (h1 : x.2.F c) (h2 : b.F c) : False := by
  have hbm := lk_mem hb
  obtain ⟨i, hi, rfl⟩ := List.mem_iff_getElem.1 hx
  obtain ⟨j, hj, e⟩ := List.mem_iff_getElem.1 hbm
  have hp := List.pairwise_iff_getElem.1 h.ap
  rcases Nat.lt_trichotomy i j with h9 | h9 | h9
  · have := hp i j hi hj h9 (by simp) (by simp) c h1
    rw [e] at this
    exact this h2
  · subst h9
    rw [e] at hn
    exact hn rfl
  · have := hp j i hj hi h9 (by simp) (by simp) c
    rw [e] at this
    exact this h2 h1
section
variable {w w' : World} {p m1 m2 T1 T2 : Nat} {I : Ib} {E : List (Ss × Bg)} {G : List (Ss × (Int × Nat))}
set_option maxRecDepth 20000
set_option maxHeartbeats 3200000
theorem take_stale (h : Ibx none w p m1 m2 T1 T2 I E G) (en sn : Nat) (pa i : Int) (cn : Nat) (da : Option Addr) (dn dc : Nat) (cd : Int) (ga : Option Addr) (gn gc : Nat) (hd : dataP 1 (en : Int) (sn : Int) pa i (cn : Int) dn cd gn) (he : en < I.ep) :
    Calls Tryz.prog 18 #[.pointer (some ⟨p, 0, none⟩), .agg (unC 1 (en : Int) (sn : Int) pa i (cn : Int) da dn dc cd ga gn gc)] w fun r w' => TkPost w p m1 m2 T1 T2 E I ⟨1, 0, none⟩ r w' := by
  obtain ⟨w2, hw2⟩ : ∃ w2, w2 = (w.alloc (.cells (unC 1 (en : Int) (sn : Int) pa i (cn : Int) da dn dc cd ga gn gc) tUn)).alloc (.cells #[.int .i64 0, .int .i64 0, .slice none 0 0, .slice none 0 0] 59) := ⟨_, rfl⟩
  have hbx := tkBox w 1 (en : Int) (sn : Int) pa i (cn : Int) da dn dc cd ga gn gc
  rw [← hw2] at hbx
  have hz2 : w2.heap.size = w.heap.size + 2 := by rw [hw2]; simp
  have HM : Hid _ := imade_t (h.below (hbx w2 (Below.refl _ _)).2.2)
  have HV : Hid (Calls _ _ _ w2 _) := valid_1g (en : Int) (sn : Int) pa i (cn : Int) da dn dc cd ga gn gc [] w2 hd.2.1 hd.2.2.1 hd.2.2.2
  have hpl : p < w.heap.size := h.lt (.inl rfl)
  have HI : Hid _ := h
  have HBX : Hid _ := hbx
  have HZ2 : Hid _ := hz2
  have HD : Hid _ := hd
  obtain ⟨a0, a1, a2, a3, a4, a5, a6, a7, a8⟩ := unCell (hbx w2 (Below.refl _ _)).1
  obtain ⟨P, hP⟩ : ∃ P, P = w.heap.size := ⟨_, rfl⟩
  have HP : Hid _ := hP
  rw [← hP] at a0 a1 a2 a3 a4 a5 a6 a7 a8
  have HW2 : Hid (w2 = _) := hw2
  have hep := h.cell.1
  obtain ⟨ep, hep2⟩ : ∃ ep, ep = I.ep := ⟨_, rfl⟩
  rw [← hep2] at hep
  have HEP : Hid _ := hep2
  have hlt : (en : Int) < (ep : Int) := by omega
  clear h hbx hz2 hP hw2 hd hep2
  go_enter Tryz.func18, Tryz.ntmps18
  go_wp2_with fail
  rw [← HW2.out, ← HP.out]
  refine Calls.mono HM.out ?_
  rintro e' w' ⟨rfl, hq⟩
  have hq := hq.symm
  subst hq
  go_wp2_with fail
  refine Calls.mono HV.out ?_
  rintro e' w3 ⟨rfl, hb3⟩
  have hb3' : Below (w.heap.size + 2) w2 w3 := hb3.mono (by have := HZ2.out; omega)
  obtain ⟨hU3, hA3, hbw⟩ := HBX.out w3 hb3'
  rw [← HP.out] at hA3 hU3
  have hS5 : w3.cell? ⟨P, 1, none⟩ = some (.int .u64 (en : Int)) ∧ w3.cell? ⟨p, 0, none⟩ = some (.int .u64 (ep : Int)) := ⟨(unCell hU3).2.1, (hbw.cell hpl).trans hep⟩
  have HU3 : Hid _ := hU3
  have HA3 : Hid _ := hA3
  have HBW : Hid _ := hbw
  clear hb3 hb3' hA3 hU3 hbw a0 a1 a2 a3 a4 a5 a6 a7 a8 hep
  go_wp2
  refine wp_region_noPanic ?_
  refine wp_region_held_drew (S := (fun u => u.cell? ⟨P, 1, none⟩ = some (.int .u64 (en : Int)) ∧ u.cell? ⟨p, 0, none⟩ = some (.int .u64 (ep : Int)))) (by kernel_rfl) (by first | exact hS5 | assumption) (fun hHeld => ?_)
  refine take_at (i := 0) 23 (v := ?_) rfl rfl (by kernel_rfl) (by kernel_rfl) (by kernel_rfl) (fun _ _ _ h => h) (by rfl) ?_ hHeld ?_
  rotate_left
  · (intro w hSw; (try dsimp only at hSw); go_simp; try with_reducible rfl)
  simp only [Act.put, List.setIfInBounds_toArray, List.set_cons_zero, List.set_cons_succ]
  refine take_at (i := 1) 24 (v := ?_) rfl rfl (by kernel_rfl) (by kernel_rfl) (by kernel_rfl) (fun _ _ _ h => h) (by rfl) ?_ hHeld ?_
  rotate_left
  · (intro w hSw; (try dsimp only at hSw); go_simp; try with_reducible rfl)
  simp only [Act.put, List.setIfInBounds_toArray, List.set_cons_zero, List.set_cons_succ]
  refine take_at (i := 2) 25 (v := ?_) rfl rfl (by kernel_rfl) (by kernel_rfl) (by kernel_rfl) (fun _ _ _ h => h) (by rfl) ?_ hHeld ?_
  rotate_left
  · (intro w hSw; (try dsimp only at hSw); go_simp; try with_reducible rfl)
  simp only [Act.put, List.setIfInBounds_toArray, List.set_cons_zero, List.set_cons_succ]
  refine take_at (i := 3) 26 (v := ?_) rfl rfl (by kernel_rfl) (by kernel_rfl) (by kernel_rfl) (fun _ _ _ h => h) (by rfl) ?_ hHeld ?_
  rotate_left
  · (intro w hSw; (try dsimp only at hSw); go_simp; try with_reducible rfl)
  simp only [Act.put, List.setIfInBounds_toArray, List.set_cons_zero, List.set_cons_succ]
  refine take_at (i := 4) 27 (v := ?_) rfl rfl (by kernel_rfl) (by kernel_rfl) (by kernel_rfl) (fun _ _ _ h => h) (by rfl) ?_ hHeld ?_
  rotate_left
  · (intro w hSw; (try dsimp only at hSw); go_simp; try with_reducible rfl)
  simp only [Act.put, List.setIfInBounds_toArray, List.set_cons_zero, List.set_cons_succ]
  refine take_at (i := 5) 28 (v := ?_) rfl rfl (by kernel_rfl) (by kernel_rfl) (by kernel_rfl) (fun _ _ _ h => h) (by rfl) ?_ hHeld ?_
  rotate_left
  · (intro w hSw; (try dsimp only at hSw); go_simp; try with_reducible rfl)
  simp only [Act.put, List.setIfInBounds_toArray, List.set_cons_zero, List.set_cons_succ]
  refine take_at (i := 6) 29 (v := ?_) rfl rfl (by kernel_rfl) (by kernel_rfl) (by kernel_rfl) (fun _ _ _ h => h) (by rfl) ?_ hHeld ?_
  rotate_left
  · (intro w hSw; (try dsimp only at hSw); go_simp; try with_reducible rfl)
  simp only [Act.put, List.setIfInBounds_toArray, List.set_cons_zero, List.set_cons_succ]
  refine wpAnyH_done (by kernel_rfl) ?_ _
  refine NoPanic.normal ?_
  obtain ⟨b0, b1, b2, b3, f0, f1, f2, f3⟩ := ansCell HA3.out
  go_wp2
  have hPw := HP.out
  exact bodyPost_ret (v := ansV ⟨1, 0, none⟩ none none 0 0 0 0) (by simp [results, Tryz.results18, go_sem, b0, b1, b2, b3, f0, f1, f2, f3]) rfl (TkPost.same HI.out (((((HBW.out.setCell (p := ⟨P + 1, 0, none⟩) (by show w.heap.size ≤ P + 1; omega) _).setCell (p := ⟨P + 1, 1, none⟩) (by show w.heap.size ≤ P + 1; omega) _).setCell (p := ⟨P + 1, 2, none⟩) (by show w.heap.size ≤ P + 1; omega) _).setCell (p := ⟨P + 1, 3, none⟩) (by show w.heap.size ≤ P + 1; omega) _).drew) 1 0 _ rfl)
theorem take_dec (h : Ibx none w p m1 m2 T1 T2 I E G) (en sn : Nat) (pa i : Int) (cn : Nat) (da : Option Addr) (dn dc : Nat) (cd : Int) (ga : Option Addr) (gn gc : Nat) (hd : dataP 1 (en : Int) (sn : Int) pa i (cn : Int) dn cd gn) (he : I.ep ≤ en) (c : Int) (hH : lk (riseI I en).H (en, sn) = some c) (hT : T2 < 9223372036854775807) :
    Calls Tryz.prog 18 #[.pointer (some ⟨p, 0, none⟩), .agg (unC 1 (en : Int) (sn : Int) pa i (cn : Int) da dn dc cd ga gn gc)] w fun r w' => TkPost w p m1 m2 T1 T2 E { riseI I en with H := pt (riseI I en).ms (riseI I en).H (en, sn) c } ⟨5, c, none⟩ r w' := by
  obtain ⟨w2, hw2⟩ : ∃ w2, w2 = (w.alloc (.cells (unC 1 (en : Int) (sn : Int) pa i (cn : Int) da dn dc cd ga gn gc) tUn)).alloc (.cells #[.int .i64 0, .int .i64 0, .slice none 0 0, .slice none 0 0] 59) := ⟨_, rfl⟩
  have hbx := tkBox w 1 (en : Int) (sn : Int) pa i (cn : Int) da dn dc cd ga gn gc
  rw [← hw2] at hbx
  have hz2 : w2.heap.size = w.heap.size + 2 := by rw [hw2]; simp
  have HM : Hid _ := imade_t (h.below (hbx w2 (Below.refl _ _)).2.2)
  have HV : Hid (Calls _ _ _ w2 _) := valid_1g (en : Int) (sn : Int) pa i (cn : Int) da dn dc cd ga gn gc [] w2 hd.2.1 hd.2.2.1 hd.2.2.2
  have hpl : p < w.heap.size := h.lt (.inl rfl)
  have HI : Hid _ := h
  have HBX : Hid _ := hbx
  have HZ2 : Hid _ := hz2
  have HD : Hid _ := hd
  obtain ⟨a0, a1, a2, a3, a4, a5, a6, a7, a8⟩ := unCell (hbx w2 (Below.refl _ _)).1
  obtain ⟨P, hP⟩ : ∃ P, P = w.heap.size := ⟨_, rfl⟩
  have HP : Hid _ := hP
  rw [← hP] at a0 a1 a2 a3 a4 a5 a6 a7 a8
  have HW2 : Hid (w2 = _) := hw2
  have hep := h.cell.1
  obtain ⟨ep, hep2⟩ : ∃ ep, ep = I.ep := ⟨_, rfl⟩
  rw [← hep2] at hep
  have HEP : Hid _ := hep2
  have hlt : ¬ (en : Int) < (ep : Int) := by omega
  have HE6 : Hid (en < 18446744073709551616) := by have := HD.out.2.1; unfold nameOk at this; unfold Hid; omega
  have HSS : Hid (inS (en, sn)) := by have h1 := HD.out.2.1; have h2 := HD.out.2.2.1; unfold nameOk at h1 h2; exact ⟨by show en < _; omega, by show sn < _; omega⟩
  have HEP2 : Hid ((riseI I en).ep = en) := riseI_ep he
  clear h hbx hz2 hP hw2 hd hep2
  go_enter Tryz.func18, Tryz.ntmps18
  go_wp2_with fail
  rw [← HW2.out, ← HP.out]
  refine Calls.mono HM.out ?_
  rintro e' w' ⟨rfl, hq⟩
  have hq := hq.symm
  subst hq
  go_wp2_with fail
  refine Calls.mono HV.out ?_
  rintro e' w3 ⟨rfl, hb3⟩
  have hb3' : Below (w.heap.size + 2) w2 w3 := hb3.mono (by have := HZ2.out; omega)
  obtain ⟨hU3, hA3, hbw⟩ := HBX.out w3 hb3'
  rw [← HP.out] at hA3 hU3
  have hS5 : w3.cell? ⟨P, 1, none⟩ = some (.int .u64 (en : Int)) ∧ w3.cell? ⟨p, 0, none⟩ = some (.int .u64 (ep : Int)) := ⟨(unCell hU3).2.1, (hbw.cell hpl).trans hep⟩
  have HU3 : Hid _ := hU3
  have HA3 : Hid _ := hA3
  have HBW : Hid _ := hbw
  clear hb3 hb3' hA3 hU3 hbw a0 a1 a2 a3 a4 a5 a6 a7 a8 hep
  go_wp2
  refine wp_region_noPanic ?_
  refine wp_region_held_drew (S := (fun u => u.cell? ⟨P, 1, none⟩ = some (.int .u64 (en : Int)) ∧ u.cell? ⟨p, 0, none⟩ = some (.int .u64 (ep : Int)))) (by kernel_rfl) (by first | exact hS5 | assumption) (fun hHeld => ?_)
  refine take_at (i := 0) 23 (v := ?_) rfl rfl (by kernel_rfl) (by kernel_rfl) (by kernel_rfl) (fun _ _ _ h => h) (by rfl) ?_ hHeld ?_
  rotate_left
  · (intro w hSw; (try dsimp only at hSw); go_simp; try with_reducible rfl)
  simp only [Act.put, List.setIfInBounds_toArray, List.set_cons_zero, List.set_cons_succ]
  refine take_at (i := 1) 24 (v := ?_) rfl rfl (by kernel_rfl) (by kernel_rfl) (by kernel_rfl) (fun _ _ _ h => h) (by rfl) ?_ hHeld ?_
  rotate_left
  · (intro w hSw; (try dsimp only at hSw); go_simp; try with_reducible rfl)
  simp only [Act.put, List.setIfInBounds_toArray, List.set_cons_zero, List.set_cons_succ]
  refine take_at (i := 2) 25 (v := ?_) rfl rfl (by kernel_rfl) (by kernel_rfl) (by kernel_rfl) (fun _ _ _ h => h) (by rfl) ?_ hHeld ?_
  rotate_left
  · (intro w hSw; (try dsimp only at hSw); go_simp; try with_reducible rfl)
  simp only [Act.put, List.setIfInBounds_toArray, List.set_cons_zero, List.set_cons_succ]
  refine take_at (i := 3) 26 (v := ?_) rfl rfl (by kernel_rfl) (by kernel_rfl) (by kernel_rfl) (fun _ _ _ h => h) (by rfl) ?_ hHeld ?_
  rotate_left
  · (intro w hSw; (try dsimp only at hSw); go_simp; try with_reducible rfl)
  simp only [Act.put, List.setIfInBounds_toArray, List.set_cons_zero, List.set_cons_succ]
  refine take_at (i := 4) 27 (v := ?_) rfl rfl (by kernel_rfl) (by kernel_rfl) (by kernel_rfl) (fun _ _ _ h => h) (by rfl) ?_ hHeld ?_
  rotate_left
  · (intro w hSw; (try dsimp only at hSw); go_simp; try with_reducible rfl)
  simp only [Act.put, List.setIfInBounds_toArray, List.set_cons_zero, List.set_cons_succ]
  refine take_at (i := 5) 28 (v := ?_) rfl rfl (by kernel_rfl) (by kernel_rfl) (by kernel_rfl) (fun _ _ _ h => h) (by rfl) ?_ hHeld ?_
  rotate_left
  · (intro w hSw; (try dsimp only at hSw); go_simp; try with_reducible rfl)
  simp only [Act.put, List.setIfInBounds_toArray, List.set_cons_zero, List.set_cons_succ]
  refine take_at (i := 6) 29 (v := ?_) rfl rfl (by kernel_rfl) (by kernel_rfl) (by kernel_rfl) (fun _ _ _ h => h) (by rfl) ?_ hHeld ?_
  rotate_left
  · (intro w hSw; (try dsimp only at hSw); go_simp; try with_reducible rfl)
  simp only [Act.put, List.setIfInBounds_toArray, List.set_cons_zero, List.set_cons_succ]
  refine wpAnyH_done (by kernel_rfl) ?_ _
  refine NoPanic.normal ?_
  obtain ⟨b0, b1, b2, b3, b4, b5, b6, b7, b8⟩ := unCell HU3.out
  have HH : Hid (Calls _ _ _ w3.drew _) := ihear_t (Ibx.below (w' := w3.drew) HI.out HBW.out.drew) en HE6.out
  go_wp2_with fail
  refine Calls.mono HH.out ?_
  rintro e' w4 ⟨rfl, E', G', hI4, hft, hc4⟩
  have hlt3 : ∀ b, footI none p m1 m2 E b → b < P := fun b hb => by rw [HP.out]; exact Ibx.lt HI.out hb
  have hU4 : w4.heap[P]? = some (.cells (unC 1 (en : Int) (sn : Int) pa i (cn : Int) da dn dc cd ga gn gc) tUn (0, 0)) := (hc4.block P (Array.getElem?_eq_some_iff.1 HU3.out).1 (fun h9 => by have := hlt3 P (h9.imp id (fun h8 => h8.imp id .inl)); omega)).trans HU3.out
  have hA4 : w4.heap[P + 1]? = some (.cells #[.int .i64 0, .int .i64 0, .slice none 0 0, .slice none 0 0] 59 (0, 0)) := (hc4.block (P + 1) (Array.getElem?_eq_some_iff.1 HA3.out).1 (fun h9 => by have := hlt3 (P + 1) (h9.imp id (fun h8 => h8.imp id .inl)); omega)).trans HA3.out
  have hl4 : P + 1 < w4.heap.size := (Array.getElem?_eq_some_iff.1 hA4).1
  obtain ⟨Q, hQ⟩ : ∃ Q, Q = w4.heap.size := ⟨_, rfl⟩
  obtain ⟨w5, hw5⟩ : ∃ w5, w5 = w4.alloc (.cells #[.int .u64 (en : Int), .int .u64 (sn : Int)] tSs) := ⟨_, rfl⟩
  have hb5 : Below w4.heap.size w4 w5 := by rw [hw5]; exact al (Below.refl _ _) _
  have hT5 : TkF w5 P Q (unC 1 (en : Int) (sn : Int) pa i (cn : Int) da dn dc cd ga gn gc) (en, sn) := ⟨(hb5.block P (by omega)).trans hU4, (hb5.block (P + 1) (by omega)).trans hA4, by rw [hw5, hQ]; exact heap_alloc_new w4 _, by omega⟩
  have hI5 := hI4.below hb5
  have hch5 : Chg (footI none p m1 m2 E) w w5 := ((Chg.of_below HBW.out.drew).trans hc4 (fun b hb => .inl (hb.imp id (fun h8 => h8.imp id .inl)))).trans (Chg.of_below (F := fun _ => False) hb5) (fun _ h9 => h9.elim)
  have HT5 : Hid _ := hT5
  have HI5 : Hid _ := hI5
  have HCH5 : Hid _ := hch5
  have HFT : Hid _ := hft
  have HLT3 : Hid _ := hlt3
  have HW5 : Hid (w5 = _) := hw5
  have HQ : Hid (Q = w4.heap.size) := hQ
  obtain ⟨g0, g1, g2, g3, g4, g5, g6, g7, g8⟩ := unCell hU4
  obtain ⟨t, hlkG⟩ : ∃ t, lk G' (en, sn) = some (c, t) := by
    have h9 := hH
    rw [hI4.eH, lk_mp] at h9
    obtain ⟨a, h8, h7⟩ := Option.map_eq_some_iff.1 h9
    exact ⟨a.2, by rw [h8, ← h7]⟩
  have HGET : Hid (Calls _ _ _ w5.drew _) := getI_in (o := 4) (p := p) ((hI5.below (w' := w5.drew) (Below.refl _ _).drew).cell.2.2.2.2.2.2) (hI5.below (w' := w5.drew) (Below.refl _ _).drew).r2 HSS.out hlkG
  have hk5 := hT5.k0
  clear hI4 hft hc4 hlt3 hU4 hA4 hw5 hQ hb5 hT5 hI5 hch5 b0 b1 b2 b3 b4 b5 b6 b7 b8 hS5
  go_wp2
  rw [← HW5.out, ← HQ.out]
  refine wp_region_noPanic ?_
  refine wp_region_held_drew (S := (fun u => u.cell? ⟨Q, 0, none⟩ = some (.int .u64 (en : Int)) ∧ u.cell? ⟨Q, 1, none⟩ = some (.int .u64 (sn : Int)))) (by kernel_rfl) (by first | exact hk5 | exact HK6.out | assumption) (fun hHeld => ?_)
  refine take_at (i := 0) 41 (v := ?_) rfl rfl (by kernel_rfl) (by kernel_rfl) (by kernel_rfl) (fun _ _ _ h => h) (by rfl) ?_ hHeld ?_
  rotate_left
  · (intro w hSw; (try dsimp only at hSw); go_simp; try with_reducible rfl)
  simp only [Act.put, List.setIfInBounds_toArray, List.set_cons_zero, List.set_cons_succ]
  refine take_at (i := 1) 42 (v := ?_) rfl rfl (by kernel_rfl) (by kernel_rfl) (by kernel_rfl) (fun _ _ _ h => h) (by rfl) ?_ hHeld ?_
  rotate_left
  · (intro w hSw; (try dsimp only at hSw); go_simp; try with_reducible rfl)
  simp only [Act.put, List.setIfInBounds_toArray, List.set_cons_zero, List.set_cons_succ]
  refine take_at (i := 2) 43 (v := ?_) rfl rfl (by kernel_rfl) (by kernel_rfl) (by kernel_rfl) (fun _ _ _ h => h) (by rfl) ?_ hHeld ?_
  rotate_left
  · (intro w hSw; (try dsimp only at hSw); go_simp; try with_reducible rfl)
  simp only [Act.put, List.setIfInBounds_toArray, List.set_cons_zero, List.set_cons_succ]
  refine take_at (i := 3) 44 (v := ?_) rfl rfl (by kernel_rfl) (by kernel_rfl) (by kernel_rfl) (fun _ _ _ h => h) (by rfl) ?_ hHeld ?_
  rotate_left
  · (intro w hSw; (try dsimp only at hSw); go_simp; try with_reducible rfl)
  simp only [Act.put, List.setIfInBounds_toArray, List.set_cons_zero, List.set_cons_succ]
  refine run_at (i := 4) rfl (by kernel_rfl) (by rfl) (fun K hK => ?_)
  simp only [List.getElem_toArray, List.getElem_cons_zero, List.getElem_cons_succ]
  go_simp
  (go_at_call 36; refine Calls.mono HGET.out ?_; rintro e' w6 ⟨rfl, hb6⟩; have HB6 : Hid (Below w5.heap.size w5 w6) := ((Below.refl w5.heap.size w5).drew).trans hb6; have HT6 : Hid (TkF w6 P Q (unC 1 (en : Int) (sn : Int) pa i (cn : Int) da dn dc cd ga gn gc) (en, sn)) := HT5.out.below HB6.out; have HK6 : Hid (w6.cell? ⟨Q, 0, none⟩ = some (.int .u64 (en : Int)) ∧ w6.cell? ⟨Q, 1, none⟩ = some (.int .u64 (sn : Int))) := HT6.out.k0; clear hb6)
  go_wp2_with fail
  refine hK.out _ _ (by first | exact hk5 | exact HK6.out | assumption) ?_
  clear hK K
  intro hHeld2
  clear hHeld
  have hHeld := hHeld2
  clear hHeld2
  try simp only [Act.put, List.setIfInBounds_toArray, List.set_cons_zero, List.set_cons_succ]
  refine take_at (i := 5) 40 (v := ?_) rfl rfl (by kernel_rfl) (by kernel_rfl) (by kernel_rfl) (fun _ _ _ h => h) (by rfl) ?_ hHeld ?_
  rotate_left
  · (intro w hSw; (try dsimp only at hSw); go_simp; try with_reducible rfl)
  simp only [Act.put, List.setIfInBounds_toArray, List.set_cons_zero, List.set_cons_succ]
  refine take_at (i := 6) 46 (v := ?_) rfl rfl (by kernel_rfl) (by kernel_rfl) (by kernel_rfl) (fun _ _ _ h => h) (by rfl) ?_ hHeld ?_
  rotate_left
  · (intro w hSw; (try dsimp only at hSw); go_simp; try with_reducible rfl)
  simp only [Act.put, List.setIfInBounds_toArray, List.set_cons_zero, List.set_cons_succ]
  refine take_at (i := 7) 47 (v := ?_) rfl rfl (by kernel_rfl) (by kernel_rfl) (by kernel_rfl) (fun _ _ _ h => h) (by rfl) ?_ hHeld ?_
  rotate_left
  · (intro w hSw; (try dsimp only at hSw); go_simp; try with_reducible rfl)
  simp only [Act.put, List.setIfInBounds_toArray, List.set_cons_zero, List.set_cons_succ]
  refine take_at (i := 8) 6 (v := ?_) rfl rfl (by kernel_rfl) (by kernel_rfl) (by kernel_rfl) (fun _ _ _ h => h) (by rfl) ?_ hHeld ?_
  rotate_left
  · (intro w hSw; (try dsimp only at hSw); go_simp; try with_reducible rfl)
  simp only [Act.put, List.setIfInBounds_toArray, List.set_cons_zero, List.set_cons_succ]
  refine take_at (i := 9) 7 (v := ?_) rfl rfl (by kernel_rfl) (by kernel_rfl) (by kernel_rfl) (fun _ _ _ h => h) (by rfl) ?_ hHeld ?_
  rotate_left
  · (intro w hSw; (try dsimp only at hSw); go_simp; try with_reducible rfl)
  simp only [Act.put, List.setIfInBounds_toArray, List.set_cons_zero, List.set_cons_succ]
  refine wpAnyH_done (by kernel_rfl) ?_ _
  refine NoPanic.normal ?_
  have HI6 : Hid _ := HI5.out.below HB6.out
  have HPUT : Hid (Calls _ _ _ w6.drew _) := putI_t (w := w6.drew) (o := 4) (p := p) tIb _ (HI6.out.below (w' := w6.drew) (Below.refl _ _).drew).hp (riseI I en).ms rfl rfl rfl (HI6.out.below (w' := w6.drew) (Below.refl _ _).drew).r2 HSS.out c hT HI6.out.ok.s0 (by have := HI6.out.ok.s1; omega) HI6.out.lenG
  have hk6 := HK6.out
  go_wp2
  refine wp_region_noPanic ?_
  refine wp_region_held_drew (S := (fun u => u.cell? ⟨Q, 0, none⟩ = some (.int .u64 (en : Int)) ∧ u.cell? ⟨Q, 1, none⟩ = some (.int .u64 (sn : Int)))) (by kernel_rfl) (by first | exact hk6 | exact HT7.out.k0 | assumption) (fun hHeld => ?_)
  refine take_at (i := 0) 49 (v := ?_) rfl rfl (by kernel_rfl) (by kernel_rfl) (by kernel_rfl) (fun _ _ _ h => h) (by rfl) ?_ hHeld ?_
  rotate_left
  · (intro w hSw; (try dsimp only at hSw); go_simp; try with_reducible rfl)
  simp only [Act.put, List.setIfInBounds_toArray, List.set_cons_zero, List.set_cons_succ]
  refine take_at (i := 1) 50 (v := ?_) rfl rfl (by kernel_rfl) (by kernel_rfl) (by kernel_rfl) (fun _ _ _ h => h) (by rfl) ?_ hHeld ?_
  rotate_left
  · (intro w hSw; (try dsimp only at hSw); go_simp; try with_reducible rfl)
  simp only [Act.put, List.setIfInBounds_toArray, List.set_cons_zero, List.set_cons_succ]
  refine take_at (i := 2) 51 (v := ?_) rfl rfl (by kernel_rfl) (by kernel_rfl) (by kernel_rfl) (fun _ _ _ h => h) (by rfl) ?_ hHeld ?_
  rotate_left
  · (intro w hSw; (try dsimp only at hSw); go_simp; try with_reducible rfl)
  simp only [Act.put, List.setIfInBounds_toArray, List.set_cons_zero, List.set_cons_succ]
  refine take_at (i := 3) 52 (v := ?_) rfl rfl (by kernel_rfl) (by kernel_rfl) (by kernel_rfl) (fun _ _ _ h => h) (by rfl) ?_ hHeld ?_
  rotate_left
  · (intro w hSw; (try dsimp only at hSw); go_simp; try with_reducible rfl)
  simp only [Act.put, List.setIfInBounds_toArray, List.set_cons_zero, List.set_cons_succ]
  refine take_at (i := 4) 53 (v := ?_) rfl rfl (by kernel_rfl) (by kernel_rfl) (by kernel_rfl) (fun _ _ _ h => h) (by rfl) ?_ hHeld ?_
  rotate_left
  · (intro w hSw; (try dsimp only at hSw); go_simp; try with_reducible rfl)
  simp only [Act.put, List.setIfInBounds_toArray, List.set_cons_zero, List.set_cons_succ]
  refine run_at (i := 5) rfl (by kernel_rfl) (by rfl) (fun K hK => ?_)
  simp only [List.getElem_toArray, List.getElem_cons_zero, List.getElem_cons_succ]
  go_simp
  (go_at_call 37; refine Calls.mono HPUT.out ?_; rintro e' w7 ⟨rfl, hr7, hp7, hc7⟩; have HC7 : Hid (Chg (fun b => b = p ∨ b = m2) w6 w7) := ((Chg.refl (fun b => b = p ∨ b = m2) w6).drew).trans hc7 (fun b hb => .inl hb); have HT7 : Hid (TkF w7 P Q (unC 1 (en : Int) (sn : Int) pa i (cn : Int) da dn dc cd ga gn gc) (en, sn)) := HT6.out.chg HC7.out (fun b hb => HLT3.out b (HFT.out b (hb.elim .inl (fun h9 => .inr (.inr (.inl h9)))))); have HR7 : Hid _ := hr7; have HP7 : Hid _ := hp7; clear hr7 hp7 hc7)
  go_wp2_with fail
  refine hK.out _ _ (by first | exact hk6 | exact HT7.out.k0 | assumption) ?_
  clear hK K
  intro hHeld2
  clear hHeld
  have hHeld := hHeld2
  clear hHeld2
  try simp only [Act.put, List.setIfInBounds_toArray, List.set_cons_zero, List.set_cons_succ]
  refine wpAnyH_done (by kernel_rfl) ?_ _
  refine NoPanic.normal ?_
  obtain ⟨c0, c1, c2, c3, f0, f1, f2, f3⟩ := ansCell HT7.out.an
  go_wp2
  have hPw := HP.out
  have hnO : (en, sn) ∉ ks (riseI I en).O := fun h9 => (HI6.out.ok.ap _ h9) (mem_ks (lk_mem hH))
  have hI7 : Ibx none w7 p m1 m2 T1 (T2 + 1) { riseI I en with H := pt (riseI I en).ms (riseI I en).H (en, sn) c } E' _ := Ibx.dec HI6.out HEP2.out.symm hnO c HR7.out HP7.out HC7.out
  have hch7 : Chg (footI none p m1 m2 E) w w7 := (HCH5.out.trans (Chg.of_below (F := fun _ => False) HB6.out) (fun _ h9 => h9.elim)).trans HC7.out (fun b hb => .inl (HFT.out b (hb.elim .inl (fun h9 => .inr (.inr (.inl h9))))))
  have hST : Chg (fun b => b = P + 1) w7 ((((w7.setCell ⟨P + 1, 0, none⟩ (.int .i64 5)).setCell ⟨P + 1, 1, none⟩ (.int .i64 c)).setCell ⟨P + 1, 2, none⟩ (.slice none 0 0)).setCell ⟨P + 1, 3, none⟩ (.slice none 0 0)) := Chg.of_grown ((((gset1 w7 (P + 1) 0 _).trans' (gset1 _ (P + 1) 1 _)).trans' (gset1 _ (P + 1) 2 _)).trans' (gset1 _ (P + 1) 3 _)) (fun b e => (Option.some.inj e).symm)
  have hPE : ∀ b9, footI none p m1 m2 E' b9 → b9 ≠ P + 1 := fun b hb e => by have := HLT3.out b (HFT.out b hb); omega
  have hIE := hI7.chg hST hPE
  exact bodyPost_ret (v := ansV ⟨5, c, none⟩ none none 0 0 0 0) (by simp [results, Tryz.results18, go_sem, c0, c1, c2, c3, f0, f1, f2, f3]) rfl ⟨T1, T2 + 1, E', _, _, none, none, 0, 0, 0, 0, [], [], rfl, AnsAt.plain _ (((w7.setCell ⟨P + 1, 0, none⟩ (.int .i64 5)).heap.size)) _ _, hIE, Nat.le_succ _, Nat.le_refl _, hch7.trans hST (fun b hb => .inr (by omega)), fun b hb => ⟨.inl (HFT.out b hb), by have := hI7.lt hb; simpa using this⟩, by have := hch7.size; simpa using this⟩
end
end Go.Proofs.YtkdgjfjcpgiokaaGreat
