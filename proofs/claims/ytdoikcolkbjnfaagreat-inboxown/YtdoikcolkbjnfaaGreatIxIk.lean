import Derived.Test.YtdoikcolkbjnfaaGreatIxIg
namespace Go.Proofs.YtdoikcolkbjnfaaGreat
set_option linter.unusedVariables false
set_option linter.unusedSimpArgs false
open Go.RowKit Go.Maps
/-- the boxes of Take's own -/
structure TkF (u : World) (P Q : Nat) (uc : Array Value) (s : Ss) : Prop where
  un : u.heap[P]? = some (.cells uc tUn (0, 0))
  an : u.heap[P + 1]? = some (.cells #[.int .i64 0, .int .i64 0, .slice none 0 0, .slice none 0 0] 44 (0, 0))
  ky : u.heap[Q]? = some (.cells #[.int .u64 (s.1 : Int), .int .u64 (s.2 : Int)] tSs (0, 0))
  pq : P + 1 < Q
theorem TkF.chg {u v : World} {P Q : Nat} {uc : Array Value} {s : Ss} (h : TkF u P Q uc s) {D : Nat → Prop} (hc : Chg D u v) (hD : ∀ b, D b → b < P) : TkF v P Q uc s :=
  ⟨(hc.block P (Array.getElem?_eq_some_iff.1 h.un).1 (fun h9 => by have := hD _ h9; omega)).trans h.un, (hc.block (P + 1) (Array.getElem?_eq_some_iff.1 h.an).1 (fun h9 => by have := hD _ h9; omega)).trans h.an, (hc.block Q (Array.getElem?_eq_some_iff.1 h.ky).1 (fun h9 => by have := hD _ h9; have := h.pq; omega)).trans h.ky, h.pq⟩
theorem TkF.below {u v : World} {P Q : Nat} {uc : Array Value} {s : Ss} (h : TkF u P Q uc s) (hb : Below u.heap.size u v) : TkF v P Q uc s := h.chg (Chg.of_below (F := fun _ => False) hb) (fun _ h9 => h9.elim)
theorem TkF.k0 {u : World} {P Q : Nat} {uc : Array Value} {s : Ss} (h : TkF u P Q uc s) : u.cell? ⟨Q, 0, none⟩ = some (.int .u64 (s.1 : Int)) ∧ u.cell? ⟨Q, 1, none⟩ = some (.int .u64 (s.2 : Int)) := ⟨by rw [cell_of_row _ _ _ _ _ _ h.ky]; rfl, by rw [cell_of_row _ _ _ _ _ _ h.ky]; rfl⟩
/-- a box of one session and another's -/
theorem Ibx.two {w : World} {p m1 m2 T1 T2 : Nat} {I : Ib} {E : List (Ss × Bg)} {G : List (Ss × (Int × Nat))} (h : Ibx none w p m1 m2 T1 T2 I E G) {s : Ss} {b : Bg} (hb : lk E s = some b) {x : Ss × Bg} (hx : x ∈ E) (hn : x.1 ≠ s) (c : Nat) (h1 : x.2.F c) (h2 : b.F c) : False := by
  have hbm := lk_mem hb
  obtain ⟨i, hi, rfl⟩ := List.mem_iff_getElem.1 hx
  obtain ⟨j, hj, e⟩ := List.mem_iff_getElem.1 hbm
  have hp := List.pairwise_iff_getElem.1 h.ap
  rcases Nat.lt_trichotomy i j with h9 | h9 | h9
  · have := hp i j hi hj h9 (by simp) (by simp) c h1
    rw [e] at this
    exact this h2
  · subst h9
    rw [e] at hn
    exact hn rfl
  · have := hp j i hj hi h9 (by simp) (by simp) c
    rw [e] at this
    exact this h2 h1
section
variable {w w' : World} {p m1 m2 T1 T2 : Nat} {I : Ib} {E : List (Ss × Bg)} {G : List (Ss × (Int × Nat))}
set_option maxRecDepth 20000
set_option maxHeartbeats 3200000
theorem take_stale (h : Ibx none w p m1 m2 T1 T2 I E G) (en sn : Nat) (pa i : Int) (cn : Nat) (da : Option Addr) (dn dc : Nat) (cd : Int) (ga : Option Addr) (gn gc : Nat) (hd : dataP 1 (en : Int) (sn : Int) pa i (cn : Int) dn cd gn) (he : en < I.ep) :
    Calls Tryz.prog 15 #[.pointer (some ⟨p, 0, none⟩), .agg (unC 1 (en : Int) (sn : Int) pa i (cn : Int) da dn dc cd ga gn gc)] w fun r w' => TkPost w p m1 m2 T1 T2 E I ⟨1, 0, none⟩ r w' := by
  obtain ⟨w2, hw2⟩ : ∃ w2, w2 = (w.alloc (.cells (unC 1 (en : Int) (sn : Int) pa i (cn : Int) da dn dc cd ga gn gc) tUn)).alloc (.cells #[.int .i64 0, .int .i64 0, .slice none 0 0, .slice none 0 0] 44) := ⟨_, rfl⟩
  have hbx := tkBox w 1 (en : Int) (sn : Int) pa i (cn : Int) da dn dc cd ga gn gc
  rw [← hw2] at hbx
  have hz2 : w2.heap.size = w.heap.size + 2 := by rw [hw2]; simp
  have HM : Hid _ := imade_t (h.below (hbx w2 (Below.refl _ _)).2.2)
  have HV : Hid (Calls _ _ _ w2 _) := valid_1g (en : Int) (sn : Int) pa i (cn : Int) da dn dc cd ga gn gc [] w2 hd.2.1 hd.2.2.1 hd.2.2.2
  have hpl : p < w.heap.size := h.lt (.inl rfl)
  have HI : Hid _ := h
  have HBX : Hid _ := hbx
  have HZ2 : Hid _ := hz2
  have HD : Hid _ := hd
  obtain ⟨a0, a1, a2, a3, a4, a5, a6, a7, a8⟩ := unCell (hbx w2 (Below.refl _ _)).1
  obtain ⟨P, hP⟩ : ∃ P, P = w.heap.size := ⟨_, rfl⟩
  have HP : Hid _ := hP
  rw [← hP] at a0 a1 a2 a3 a4 a5 a6 a7 a8
  have HW2 : Hid (w2 = _) := hw2
  have hep := h.cell.1
  obtain ⟨ep, hep2⟩ : ∃ ep, ep = I.ep := ⟨_, rfl⟩
  rw [← hep2] at hep
  have HEP : Hid _ := hep2
  have hlt : (en : Int) < (ep : Int) := by omega
  clear h hbx hz2 hP hw2 hd hep2
  go_enter Tryz.func15, Tryz.ntmps15
  go_wp2_with fail
  rw [← HW2.out, ← HP.out]
  refine Calls.mono HM.out ?_
  rintro e' w' ⟨rfl, hq⟩
  have hq := hq.symm
  subst hq
  go_wp2_with fail
  refine Calls.mono HV.out ?_
  rintro e' w3 ⟨rfl, hb3⟩
  have hb3' : Below (w.heap.size + 2) w2 w3 := hb3.mono (by have := HZ2.out; omega)
  obtain ⟨hU3, hA3, hbw⟩ := HBX.out w3 hb3'
  rw [← HP.out] at hA3 hU3
  have hS5 : w3.cell? ⟨P, 1, none⟩ = some (.int .u64 (en : Int)) ∧ w3.cell? ⟨p, 0, none⟩ = some (.int .u64 (ep : Int)) := ⟨(unCell hU3).2.1, (hbw.cell hpl).trans hep⟩
  have HU3 : Hid _ := hU3
  have HA3 : Hid _ := hA3
  have HBW : Hid _ := hbw
  clear hb3 hb3' hA3 hU3 hbw a0 a1 a2 a3 a4 a5 a6 a7 a8 hep
  go_wp2
  refine wp_region_noPanic ?_
  refine wp_region_held_drew (S := (fun u => u.cell? ⟨P, 1, none⟩ = some (.int .u64 (en : Int)) ∧ u.cell? ⟨p, 0, none⟩ = some (.int .u64 (ep : Int)))) (by kernel_rfl) (by first | exact hS5 | assumption) (fun hHeld => ?_)
  refine tz (i := 0) 23 rfl rfl hHeld ?_
  simp only [pS]
  refine tz (i := 1) 24 rfl rfl hHeld ?_
  simp only [pS]
  refine tz (i := 2) 25 rfl rfl hHeld ?_
  simp only [pS]
  refine tz (i := 3) 26 rfl rfl hHeld ?_
  simp only [pS]
  refine tz (i := 4) 27 rfl rfl hHeld ?_
  simp only [pS]
  refine tz (i := 5) 28 rfl rfl hHeld ?_
  simp only [pS]
  refine tz (i := 6) 29 rfl rfl hHeld ?_
  simp only [pS]
  refine wpAnyH_done (by kernel_rfl) ?_ _
  refine NoPanic.normal ?_
  obtain ⟨b0, b1, b2, b3, f0, f1, f2, f3⟩ := ansCell HA3.out
  go_wp2
  have hPw := HP.out
  exact bodyPost_ret (v := ansV ⟨1, 0, none⟩ none none 0 0 0 0) (by simp [results, Tryz.results15, go_sem, b0, b1, b2, b3, f0, f1, f2, f3]) rfl (TkPost.same HI.out (((((HBW.out.setCell (p := ⟨P + 1, 0, none⟩) (by show w.heap.size ≤ P + 1; omega) _).setCell (p := ⟨P + 1, 1, none⟩) (by show w.heap.size ≤ P + 1; omega) _).setCell (p := ⟨P + 1, 2, none⟩) (by show w.heap.size ≤ P + 1; omega) _).setCell (p := ⟨P + 1, 3, none⟩) (by show w.heap.size ≤ P + 1; omega) _).drew) 1 0 _ rfl)
theorem take_dec (h : Ibx none w p m1 m2 T1 T2 I E G) (en sn : Nat) (pa i : Int) (cn : Nat) (da : Option Addr) (dn dc : Nat) (cd : Int) (ga : Option Addr) (gn gc : Nat) (hd : dataP 1 (en : Int) (sn : Int) pa i (cn : Int) dn cd gn) (he : I.ep ≤ en) (c : Int) (hH : lk (riseI I en).H (en, sn) = some c) (hT : T2 < 9223372036854775807) :
    Calls Tryz.prog 15 #[.pointer (some ⟨p, 0, none⟩), .agg (unC 1 (en : Int) (sn : Int) pa i (cn : Int) da dn dc cd ga gn gc)] w fun r w' => TkPost w p m1 m2 T1 T2 E { riseI I en with H := pt (riseI I en).ms (riseI I en).H (en, sn) c } ⟨5, c, none⟩ r w' := by
  obtain ⟨w2, hw2⟩ : ∃ w2, w2 = (w.alloc (.cells (unC 1 (en : Int) (sn : Int) pa i (cn : Int) da dn dc cd ga gn gc) tUn)).alloc (.cells #[.int .i64 0, .int .i64 0, .slice none 0 0, .slice none 0 0] 44) := ⟨_, rfl⟩
  have hbx := tkBox w 1 (en : Int) (sn : Int) pa i (cn : Int) da dn dc cd ga gn gc
  rw [← hw2] at hbx
  have hz2 : w2.heap.size = w.heap.size + 2 := by rw [hw2]; simp
  have HM : Hid _ := imade_t (h.below (hbx w2 (Below.refl _ _)).2.2)
  have HV : Hid (Calls _ _ _ w2 _) := valid_1g (en : Int) (sn : Int) pa i (cn : Int) da dn dc cd ga gn gc [] w2 hd.2.1 hd.2.2.1 hd.2.2.2
  have hpl : p < w.heap.size := h.lt (.inl rfl)
  have HI : Hid _ := h
  have HBX : Hid _ := hbx
  have HZ2 : Hid _ := hz2
  have HD : Hid _ := hd
  obtain ⟨a0, a1, a2, a3, a4, a5, a6, a7, a8⟩ := unCell (hbx w2 (Below.refl _ _)).1
  obtain ⟨P, hP⟩ : ∃ P, P = w.heap.size := ⟨_, rfl⟩
  have HP : Hid _ := hP
  rw [← hP] at a0 a1 a2 a3 a4 a5 a6 a7 a8
  have HW2 : Hid (w2 = _) := hw2
  have hep := h.cell.1
  obtain ⟨ep, hep2⟩ : ∃ ep, ep = I.ep := ⟨_, rfl⟩
  rw [← hep2] at hep
  have HEP : Hid _ := hep2
  have hlt : ¬ (en : Int) < (ep : Int) := by omega
  have HE6 : Hid (en < 18446744073709551616) := by have := HD.out.2.1; unfold nameOk at this; unfold Hid; omega
  have HSS : Hid (inS (en, sn)) := by have h1 := HD.out.2.1; have h2 := HD.out.2.2.1; unfold nameOk at h1 h2; exact ⟨by show en < _; omega, by show sn < _; omega⟩
  have HEP2 : Hid ((riseI I en).ep = en) := riseI_ep he
  clear h hbx hz2 hP hw2 hd hep2
  go_enter Tryz.func15, Tryz.ntmps15
  go_wp2_with fail
  rw [← HW2.out, ← HP.out]
  refine Calls.mono HM.out ?_
  rintro e' w' ⟨rfl, hq⟩
  have hq := hq.symm
  subst hq
  go_wp2_with fail
  refine Calls.mono HV.out ?_
  rintro e' w3 ⟨rfl, hb3⟩
  have hb3' : Below (w.heap.size + 2) w2 w3 := hb3.mono (by have := HZ2.out; omega)
  obtain ⟨hU3, hA3, hbw⟩ := HBX.out w3 hb3'
  rw [← HP.out] at hA3 hU3
  have hS5 : w3.cell? ⟨P, 1, none⟩ = some (.int .u64 (en : Int)) ∧ w3.cell? ⟨p, 0, none⟩ = some (.int .u64 (ep : Int)) := ⟨(unCell hU3).2.1, (hbw.cell hpl).trans hep⟩
  have HU3 : Hid _ := hU3
  have HA3 : Hid _ := hA3
  have HBW : Hid _ := hbw
  clear hb3 hb3' hA3 hU3 hbw a0 a1 a2 a3 a4 a5 a6 a7 a8 hep
  go_wp2
  refine wp_region_noPanic ?_
  refine wp_region_held_drew (S := (fun u => u.cell? ⟨P, 1, none⟩ = some (.int .u64 (en : Int)) ∧ u.cell? ⟨p, 0, none⟩ = some (.int .u64 (ep : Int)))) (by kernel_rfl) (by first | exact hS5 | assumption) (fun hHeld => ?_)
  refine tz (i := 0) 23 rfl rfl hHeld ?_
  simp only [pS]
  refine tz (i := 1) 24 rfl rfl hHeld ?_
  simp only [pS]
  refine tz (i := 2) 25 rfl rfl hHeld ?_
  simp only [pS]
  refine tz (i := 3) 26 rfl rfl hHeld ?_
  simp only [pS]
  refine tz (i := 4) 27 rfl rfl hHeld ?_
  simp only [pS]
  refine tz (i := 5) 28 rfl rfl hHeld ?_
  simp only [pS]
  refine tz (i := 6) 29 rfl rfl hHeld ?_
  simp only [pS]
  refine wpAnyH_done (by kernel_rfl) ?_ _
  refine NoPanic.normal ?_
  obtain ⟨b0, b1, b2, b3, b4, b5, b6, b7, b8⟩ := unCell HU3.out
  have HH : Hid (Calls _ _ _ w3.drew _) := ihear_t (Ibx.below (w' := w3.drew) HI.out HBW.out.drew) en HE6.out
  go_wp2_with fail
  refine Calls.mono HH.out ?_
  rintro e' w4 ⟨rfl, E', G', hI4, hft, hc4⟩
  have hlt3 : ∀ b, footI none p m1 m2 E b → b < P := fun b hb => by rw [HP.out]; exact Ibx.lt HI.out hb
  have hU4 : w4.heap[P]? = some (.cells (unC 1 (en : Int) (sn : Int) pa i (cn : Int) da dn dc cd ga gn gc) tUn (0, 0)) := (hc4.block P (Array.getElem?_eq_some_iff.1 HU3.out).1 (fun h9 => by have := hlt3 P (h9.imp id (fun h8 => h8.imp id .inl)); omega)).trans HU3.out
  have hA4 : w4.heap[P + 1]? = some (.cells #[.int .i64 0, .int .i64 0, .slice none 0 0, .slice none 0 0] 44 (0, 0)) := (hc4.block (P + 1) (Array.getElem?_eq_some_iff.1 HA3.out).1 (fun h9 => by have := hlt3 (P + 1) (h9.imp id (fun h8 => h8.imp id .inl)); omega)).trans HA3.out
  have hl4 : P + 1 < w4.heap.size := (Array.getElem?_eq_some_iff.1 hA4).1
  obtain ⟨Q, hQ⟩ : ∃ Q, Q = w4.heap.size := ⟨_, rfl⟩
  obtain ⟨w5, hw5⟩ : ∃ w5, w5 = w4.alloc (.cells #[.int .u64 (en : Int), .int .u64 (sn : Int)] tSs) := ⟨_, rfl⟩
  have hb5 : Below w4.heap.size w4 w5 := by rw [hw5]; exact al (Below.refl _ _) _
  have hT5 : TkF w5 P Q (unC 1 (en : Int) (sn : Int) pa i (cn : Int) da dn dc cd ga gn gc) (en, sn) := ⟨(hb5.block P (by omega)).trans hU4, (hb5.block (P + 1) (by omega)).trans hA4, by rw [hw5, hQ]; exact heap_alloc_new w4 _, by omega⟩
  have hI5 := hI4.below hb5
  have hch5 : Chg (footI none p m1 m2 E) w w5 := ((Chg.of_below HBW.out.drew).trans hc4 (fun b hb => .inl (hb.imp id (fun h8 => h8.imp id .inl)))).trans (Chg.of_below (F := fun _ => False) hb5) (fun _ h9 => h9.elim)
  have HT5 : Hid _ := hT5
  have HI5 : Hid _ := hI5
  have HCH5 : Hid _ := hch5
  have HFT : Hid _ := hft
  have HLT3 : Hid _ := hlt3
  have HW5 : Hid (w5 = _) := hw5
  have HQ : Hid (Q = w4.heap.size) := hQ
  obtain ⟨g0, g1, g2, g3, g4, g5, g6, g7, g8⟩ := unCell hU4
  obtain ⟨t, hlkG⟩ : ∃ t, lk G' (en, sn) = some (c, t) := by
    have h9 := hH
    rw [hI4.eH, lk_mp] at h9
    obtain ⟨a, h8, h7⟩ := Option.map_eq_some_iff.1 h9
    exact ⟨a.2, by rw [h8, ← h7]⟩
  have HGET : Hid (Calls _ _ _ w5.drew _) := getI_in (o := 4) (p := p) ((hI5.below (w' := w5.drew) (Below.refl _ _).drew).cell.2.2.2.2.2.2) (hI5.below (w' := w5.drew) (Below.refl _ _).drew).r2 HSS.out hlkG
  have hk5 := hT5.k0
  clear hI4 hft hc4 hlt3 hU4 hA4 hw5 hQ hb5 hT5 hI5 hch5 b0 b1 b2 b3 b4 b5 b6 b7 b8 hS5
  go_wp2
  rw [← HW5.out, ← HQ.out]
  refine wp_region_noPanic ?_
  refine wp_region_held_drew (S := (fun u => u.cell? ⟨Q, 0, none⟩ = some (.int .u64 (en : Int)) ∧ u.cell? ⟨Q, 1, none⟩ = some (.int .u64 (sn : Int)))) (by kernel_rfl) (by first | exact hk5 | exact HK6.out | assumption) (fun hHeld => ?_)
  refine tz (i := 0) 41 rfl rfl hHeld ?_
  simp only [pS]
  refine tz (i := 1) 42 rfl rfl hHeld ?_
  simp only [pS]
  refine tz (i := 2) 43 rfl rfl hHeld ?_
  simp only [pS]
  refine tz (i := 3) 44 rfl rfl hHeld ?_
  simp only [pS]
  refine run_at (i := 4) rfl (by kernel_rfl) (by rfl) (fun K hK => ?_)
  simp only [List.getElem_toArray, List.getElem_cons_zero, List.getElem_cons_succ]
  go_simp
  (go_at_call 36; refine Calls.mono HGET.out ?_; rintro e' w6 ⟨rfl, hb6⟩; have HB6 : Hid (Below w5.heap.size w5 w6) := ((Below.refl w5.heap.size w5).drew).trans hb6; have HT6 : Hid (TkF w6 P Q (unC 1 (en : Int) (sn : Int) pa i (cn : Int) da dn dc cd ga gn gc) (en, sn)) := HT5.out.below HB6.out; have HK6 : Hid (w6.cell? ⟨Q, 0, none⟩ = some (.int .u64 (en : Int)) ∧ w6.cell? ⟨Q, 1, none⟩ = some (.int .u64 (sn : Int))) := HT6.out.k0; clear hb6)
  go_wp2_with fail
  refine hK.out _ _ (by first | exact hk5 | exact HK6.out | assumption) ?_
  clear hK K
  intro hHeld2
  clear hHeld
  have hHeld := hHeld2
  clear hHeld2
  try simp only [pS]
  refine tz (i := 5) 40 rfl rfl hHeld ?_
  simp only [pS]
  refine tz (i := 6) 46 rfl rfl hHeld ?_
  simp only [pS]
  refine tz (i := 7) 47 rfl rfl hHeld ?_
  simp only [pS]
  refine tz (i := 8) 6 rfl rfl hHeld ?_
  simp only [pS]
  refine tz (i := 9) 7 rfl rfl hHeld ?_
  simp only [pS]
  refine wpAnyH_done (by kernel_rfl) ?_ _
  refine NoPanic.normal ?_
  have HI6 : Hid _ := HI5.out.below HB6.out
  have HPUT : Hid (Calls _ _ _ w6.drew _) := putI_t (w := w6.drew) (o := 4) (p := p) tIb _ (HI6.out.below (w' := w6.drew) (Below.refl _ _).drew).hp (riseI I en).ms rfl rfl rfl (HI6.out.below (w' := w6.drew) (Below.refl _ _).drew).r2 HSS.out c hT HI6.out.ok.s0 (by have := HI6.out.ok.s1; omega) HI6.out.lenG
  have hk6 := HK6.out
  go_wp2
  refine wp_region_noPanic ?_
  refine wp_region_held_drew (S := (fun u => u.cell? ⟨Q, 0, none⟩ = some (.int .u64 (en : Int)) ∧ u.cell? ⟨Q, 1, none⟩ = some (.int .u64 (sn : Int)))) (by kernel_rfl) (by first | exact hk6 | exact HT7.out.k0 | assumption) (fun hHeld => ?_)
  refine tz (i := 0) 49 rfl rfl hHeld ?_
  simp only [pS]
  refine tz (i := 1) 50 rfl rfl hHeld ?_
  simp only [pS]
  refine tz (i := 2) 51 rfl rfl hHeld ?_
  simp only [pS]
  refine tz (i := 3) 52 rfl rfl hHeld ?_
  simp only [pS]
  refine tz (i := 4) 53 rfl rfl hHeld ?_
  simp only [pS]
  refine run_at (i := 5) rfl (by kernel_rfl) (by rfl) (fun K hK => ?_)
  simp only [List.getElem_toArray, List.getElem_cons_zero, List.getElem_cons_succ]
  go_simp
  (go_at_call 37; refine Calls.mono HPUT.out ?_; rintro e' w7 ⟨rfl, hr7, hp7, hc7⟩; have HC7 : Hid (Chg (fun b => b = p ∨ b = m2) w6 w7) := ((Chg.refl (fun b => b = p ∨ b = m2) w6).drew).trans hc7 (fun b hb => .inl hb); have HT7 : Hid (TkF w7 P Q (unC 1 (en : Int) (sn : Int) pa i (cn : Int) da dn dc cd ga gn gc) (en, sn)) := HT6.out.chg HC7.out (fun b hb => HLT3.out b (HFT.out b (hb.elim .inl (fun h9 => .inr (.inr (.inl h9)))))); have HR7 : Hid _ := hr7; have HP7 : Hid _ := hp7; clear hr7 hp7 hc7)
  go_wp2_with fail
  refine hK.out _ _ (by first | exact hk6 | exact HT7.out.k0 | assumption) ?_
  clear hK K
  intro hHeld2
  clear hHeld
  have hHeld := hHeld2
  clear hHeld2
  try simp only [pS]
  refine wpAnyH_done (by kernel_rfl) ?_ _
  refine NoPanic.normal ?_
  obtain ⟨c0, c1, c2, c3, f0, f1, f2, f3⟩ := ansCell HT7.out.an
  go_wp2
  have hPw := HP.out
  have hnO : (en, sn) ∉ ks (riseI I en).O := fun h9 => (HI6.out.ok.ap _ h9) (mem_ks (lk_mem hH))
  have hI7 : Ibx none w7 p m1 m2 T1 (T2 + 1) { riseI I en with H := pt (riseI I en).ms (riseI I en).H (en, sn) c } E' _ := Ibx.dec HI6.out HEP2.out.symm hnO c HR7.out HP7.out HC7.out
  have hch7 : Chg (footI none p m1 m2 E) w w7 := (HCH5.out.trans (Chg.of_below (F := fun _ => False) HB6.out) (fun _ h9 => h9.elim)).trans HC7.out (fun b hb => .inl (HFT.out b (hb.elim .inl (fun h9 => .inr (.inr (.inl h9))))))
  have hST : Chg (fun b => b = P + 1) w7 ((((w7.setCell ⟨P + 1, 0, none⟩ (.int .i64 5)).setCell ⟨P + 1, 1, none⟩ (.int .i64 c)).setCell ⟨P + 1, 2, none⟩ (.slice none 0 0)).setCell ⟨P + 1, 3, none⟩ (.slice none 0 0)) := Chg.of_grown ((((gset1 w7 (P + 1) 0 _).trans' (gset1 _ (P + 1) 1 _)).trans' (gset1 _ (P + 1) 2 _)).trans' (gset1 _ (P + 1) 3 _)) (fun b e => (Option.some.inj e).symm)
  have hPE : ∀ b9, footI none p m1 m2 E' b9 → b9 ≠ P + 1 := fun b hb e => by have := HLT3.out b (HFT.out b hb); omega
  have hIE := hI7.chg hST hPE
  exact bodyPost_ret (v := ansV ⟨5, c, none⟩ none none 0 0 0 0) (by simp [results, Tryz.results15, go_sem, c0, c1, c2, c3, f0, f1, f2, f3]) rfl ⟨T1, T2 + 1, E', _, _, none, none, 0, 0, 0, 0, [], [], rfl, AnsAt.plain _ (((w7.setCell ⟨P + 1, 0, none⟩ (.int .i64 5)).heap.size)) _ _, hIE, Nat.le_succ _, Nat.le_refl _, hch7.trans hST (fun b hb => .inr (by omega)), fun b hb => ⟨.inl (HFT.out b hb), by have := hI7.lt hb; simpa using this⟩, by have := hch7.size; simpa using this⟩
end
end Go.Proofs.YtdoikcolkbjnfaaGreat
namespace Go.Proofs.YtdoikcolkbjnfaaGreat
set_option linter.unusedVariables false
set_option linter.unusedSimpArgs false
open Go.RowKit Go.Maps
theorem AnsAt.chg {w w' : World} {B : Nat} {a : Ans} {ga ba : Option Addr} {gn gc bn bc : Nat} {rs : List Rg} {xs : List UInt8} (h : AnsAt w B a ga ba gn gc bn bc rs xs) {D : Nat → Prop} (hc : Chg D w w') (hD : ∀ b, D b → b < B) : AnsAt w' B a ga ba gn gc bn bc rs xs :=
  ⟨OwnR.keptb h.gr (fun b hb => hc.block b (World.ownsRow.lt h.gr b hb).2 (fun h9 => by have := hD b h9; have := (World.ownsRow.lt h.gr b hb).1; omega)), Own.keptb h.bl (fun b hb => hc.block b (World.ownsRow.lt h.bl b hb).2 (fun h9 => by have := hD b h9; have := (World.ownsRow.lt h.bl b hb).1; omega)), h.is_, h.g64, h.b1k⟩
theorem Rd.chg {w w' : World} {ao : Option Addr} {xs : List UInt8} (h : Rd w ao xs) {D : Nat → Prop} (hc : Chg D w w') (hD : ∀ b, D b → ∀ a, ao = some a → a.block ≠ b) : Rd w' ao xs := by
  intro hp
  obtain ⟨b, o, e, h1⟩ := h hp
  refine ⟨b, o, e, fun i hi => ?_⟩
  have h2 := h1 i hi
  have hl := World.block_lt_of_cell? w _ h2
  exact (World.cell?_of_block (hc.block b hl (fun h9 => hD b h9 _ e rfl))).trans h2
section
variable {w w' : World} {p m1 m2 T1 T2 : Nat} {I : Ib} {E : List (Ss × Bg)} {G : List (Ss × (Int × Nat))}
set_option maxRecDepth 20000
set_option maxHeartbeats 3200000
theorem take_mis (h : Ibx none w p m1 m2 T1 T2 I E G) (en sn : Nat) (pa i : Int) (cn : Nat) (da : Option Addr) (dn dc : Nat) (cd : Int) (ga : Option Addr) (gn gc : Nat) (hd : dataP 1 (en : Int) (sn : Int) pa i (cn : Int) dn cd gn) (he : I.ep ≤ en) (hH : lk (riseI I en).H (en, sn) = none) (S : List Seg) (hO : lk (riseI I en).O (en, sn) = some S) (hc : cn ≠ S.length) :
    Calls Tryz.prog 15 #[.pointer (some ⟨p, 0, none⟩), .agg (unC 1 (en : Int) (sn : Int) pa i (cn : Int) da dn dc cd ga gn gc)] w fun r w' => TkPost w p m1 m2 T1 T2 E (riseI I en) ⟨2, 0, none⟩ r w' := by
  obtain ⟨w2, hw2⟩ : ∃ w2, w2 = (w.alloc (.cells (unC 1 (en : Int) (sn : Int) pa i (cn : Int) da dn dc cd ga gn gc) tUn)).alloc (.cells #[.int .i64 0, .int .i64 0, .slice none 0 0, .slice none 0 0] 44) := ⟨_, rfl⟩
  have hbx := tkBox w 1 (en : Int) (sn : Int) pa i (cn : Int) da dn dc cd ga gn gc
  rw [← hw2] at hbx
  have hz2 : w2.heap.size = w.heap.size + 2 := by rw [hw2]; simp
  have HM : Hid _ := imade_t (h.below (hbx w2 (Below.refl _ _)).2.2)
  have HV : Hid (Calls _ _ _ w2 _) := valid_1g (en : Int) (sn : Int) pa i (cn : Int) da dn dc cd ga gn gc [] w2 hd.2.1 hd.2.2.1 hd.2.2.2
  have hpl : p < w.heap.size := h.lt (.inl rfl)
  have HI : Hid _ := h
  have HBX : Hid _ := hbx
  have HZ2 : Hid _ := hz2
  have HD : Hid _ := hd
  obtain ⟨a0, a1, a2, a3, a4, a5, a6, a7, a8⟩ := unCell (hbx w2 (Below.refl _ _)).1
  obtain ⟨P, hP⟩ : ∃ P, P = w.heap.size := ⟨_, rfl⟩
  have HP : Hid _ := hP
  rw [← hP] at a0 a1 a2 a3 a4 a5 a6 a7 a8
  have HW2 : Hid (w2 = _) := hw2
  have hep := h.cell.1
  obtain ⟨ep, hep2⟩ : ∃ ep, ep = I.ep := ⟨_, rfl⟩
  rw [← hep2] at hep
  have HEP : Hid _ := hep2
  have hlt : ¬ (en : Int) < (ep : Int) := by omega
  have HE6 : Hid (en < 18446744073709551616) := by have := HD.out.2.1; unfold nameOk at this; unfold Hid; omega
  have HSS : Hid (inS (en, sn)) := by have h1 := HD.out.2.1; have h2 := HD.out.2.2.1; unfold nameOk at h1 h2; exact ⟨by show en < _; omega, by show sn < _; omega⟩
  have HEP2 : Hid ((riseI I en).ep = en) := riseI_ep he
  clear h hbx hz2 hP hw2 hd hep2
  go_enter Tryz.func15, Tryz.ntmps15
  go_wp2_with fail
  rw [← HW2.out, ← HP.out]
  refine Calls.mono HM.out ?_
  rintro e' w' ⟨rfl, hq⟩
  have hq := hq.symm
  subst hq
  go_wp2_with fail
  refine Calls.mono HV.out ?_
  rintro e' w3 ⟨rfl, hb3⟩
  have hb3' : Below (w.heap.size + 2) w2 w3 := hb3.mono (by have := HZ2.out; omega)
  obtain ⟨hU3, hA3, hbw⟩ := HBX.out w3 hb3'
  rw [← HP.out] at hA3 hU3
  have hS5 : w3.cell? ⟨P, 1, none⟩ = some (.int .u64 (en : Int)) ∧ w3.cell? ⟨p, 0, none⟩ = some (.int .u64 (ep : Int)) := ⟨(unCell hU3).2.1, (hbw.cell hpl).trans hep⟩
  have HU3 : Hid _ := hU3
  have HA3 : Hid _ := hA3
  have HBW : Hid _ := hbw
  clear hb3 hb3' hA3 hU3 hbw a0 a1 a2 a3 a4 a5 a6 a7 a8 hep
  go_wp2
  refine wp_region_noPanic ?_
  refine wp_region_held_drew (S := (fun u => u.cell? ⟨P, 1, none⟩ = some (.int .u64 (en : Int)) ∧ u.cell? ⟨p, 0, none⟩ = some (.int .u64 (ep : Int)))) (by kernel_rfl) (by first | exact hS5 | assumption) (fun hHeld => ?_)
  refine tz (i := 0) 23 rfl rfl hHeld ?_
  simp only [pS]
  refine tz (i := 1) 24 rfl rfl hHeld ?_
  simp only [pS]
  refine tz (i := 2) 25 rfl rfl hHeld ?_
  simp only [pS]
  refine tz (i := 3) 26 rfl rfl hHeld ?_
  simp only [pS]
  refine tz (i := 4) 27 rfl rfl hHeld ?_
  simp only [pS]
  refine tz (i := 5) 28 rfl rfl hHeld ?_
  simp only [pS]
  refine tz (i := 6) 29 rfl rfl hHeld ?_
  simp only [pS]
  refine wpAnyH_done (by kernel_rfl) ?_ _
  refine NoPanic.normal ?_
  obtain ⟨b0, b1, b2, b3, b4, b5, b6, b7, b8⟩ := unCell HU3.out
  have HH : Hid (Calls _ _ _ w3.drew _) := ihear_t (Ibx.below (w' := w3.drew) HI.out HBW.out.drew) en HE6.out
  go_wp2_with fail
  refine Calls.mono HH.out ?_
  rintro e' w4 ⟨rfl, E', G', hI4, hft, hc4⟩
  have hlt3 : ∀ b, footI none p m1 m2 E b → b < P := fun b hb => by rw [HP.out]; exact Ibx.lt HI.out hb
  have hU4 : w4.heap[P]? = some (.cells (unC 1 (en : Int) (sn : Int) pa i (cn : Int) da dn dc cd ga gn gc) tUn (0, 0)) := (hc4.block P (Array.getElem?_eq_some_iff.1 HU3.out).1 (fun h9 => by have := hlt3 P (h9.imp id (fun h8 => h8.imp id .inl)); omega)).trans HU3.out
  have hA4 : w4.heap[P + 1]? = some (.cells #[.int .i64 0, .int .i64 0, .slice none 0 0, .slice none 0 0] 44 (0, 0)) := (hc4.block (P + 1) (Array.getElem?_eq_some_iff.1 HA3.out).1 (fun h9 => by have := hlt3 (P + 1) (h9.imp id (fun h8 => h8.imp id .inl)); omega)).trans HA3.out
  have hl4 : P + 1 < w4.heap.size := (Array.getElem?_eq_some_iff.1 hA4).1
  obtain ⟨Q, hQ⟩ : ∃ Q, Q = w4.heap.size := ⟨_, rfl⟩
  obtain ⟨w5, hw5⟩ : ∃ w5, w5 = w4.alloc (.cells #[.int .u64 (en : Int), .int .u64 (sn : Int)] tSs) := ⟨_, rfl⟩
  have hb5 : Below w4.heap.size w4 w5 := by rw [hw5]; exact al (Below.refl _ _) _
  have hT5 : TkF w5 P Q (unC 1 (en : Int) (sn : Int) pa i (cn : Int) da dn dc cd ga gn gc) (en, sn) := ⟨(hb5.block P (by omega)).trans hU4, (hb5.block (P + 1) (by omega)).trans hA4, by rw [hw5, hQ]; exact heap_alloc_new w4 _, by omega⟩
  have hI5 := hI4.below hb5
  have hch5 : Chg (footI none p m1 m2 E) w w5 := ((Chg.of_below HBW.out.drew).trans hc4 (fun b hb => .inl (hb.imp id (fun h8 => h8.imp id .inl)))).trans (Chg.of_below (F := fun _ => False) hb5) (fun _ h9 => h9.elim)
  have HT5 : Hid _ := hT5
  have HI5 : Hid _ := hI5
  have HCH5 : Hid _ := hch5
  have HFT : Hid _ := hft
  have HLT3 : Hid _ := hlt3
  have HW5 : Hid (w5 = _) := hw5
  have HQ : Hid (Q = w4.heap.size) := hQ
  obtain ⟨g0, g1, g2, g3, g4, g5, g6, g7, g8⟩ := unCell hU4
  have hlkG : lk G' (en, sn) = none := by
    have h9 := hH
    rw [hI4.eH, lk_mp] at h9
    exact Option.map_eq_none_iff.1 h9
  have HGET : Hid (Calls _ _ _ w5.drew _) := getI_no (o := 4) (p := p) ((hI5.below (w' := w5.drew) (Below.refl _ _).drew).cell.2.2.2.2.2.2) (hI5.below (w' := w5.drew) (Below.refl _ _).drew).r2 HSS.out hlkG
  have hk5 := hT5.k0
  clear hI4 hft hc4 hlt3 hU4 hA4 hw5 hQ hb5 hT5 hI5 hch5 b0 b1 b2 b3 b4 b5 b6 b7 b8 hS5
  go_wp2
  rw [← HW5.out, ← HQ.out]
  refine wp_region_noPanic ?_
  refine wp_region_held_drew (S := (fun u => u.cell? ⟨Q, 0, none⟩ = some (.int .u64 (en : Int)) ∧ u.cell? ⟨Q, 1, none⟩ = some (.int .u64 (sn : Int)))) (by kernel_rfl) (by first | exact hk5 | exact HK6.out | assumption) (fun hHeld => ?_)
  refine tz (i := 0) 41 rfl rfl hHeld ?_
  simp only [pS]
  refine tz (i := 1) 42 rfl rfl hHeld ?_
  simp only [pS]
  refine tz (i := 2) 43 rfl rfl hHeld ?_
  simp only [pS]
  refine tz (i := 3) 44 rfl rfl hHeld ?_
  simp only [pS]
  refine run_at (i := 4) rfl (by kernel_rfl) (by rfl) (fun K hK => ?_)
  simp only [List.getElem_toArray, List.getElem_cons_zero, List.getElem_cons_succ]
  go_simp
  (go_at_call 36; refine Calls.mono HGET.out ?_; rintro e' w6 ⟨rfl, hb6⟩; have HB6 : Hid (Below w5.heap.size w5 w6) := ((Below.refl w5.heap.size w5).drew).trans hb6; have HT6 : Hid (TkF w6 P Q (unC 1 (en : Int) (sn : Int) pa i (cn : Int) da dn dc cd ga gn gc) (en, sn)) := HT5.out.below HB6.out; have HK6 : Hid (w6.cell? ⟨Q, 0, none⟩ = some (.int .u64 (en : Int)) ∧ w6.cell? ⟨Q, 1, none⟩ = some (.int .u64 (sn : Int))) := HT6.out.k0; clear hb6)
  go_wp2_with fail
  refine hK.out _ _ (by first | exact hk5 | exact HK6.out | assumption) ?_
  clear hK K
  intro hHeld2
  clear hHeld
  have hHeld := hHeld2
  clear hHeld2
  try simp only [pS]
  refine tz (i := 5) 40 rfl rfl hHeld ?_
  simp only [pS]
  refine tz (i := 6) 46 rfl rfl hHeld ?_
  simp only [pS]
  refine tz (i := 7) 47 rfl rfl hHeld ?_
  simp only [pS]
  refine tz (i := 8) 6 rfl rfl hHeld ?_
  simp only [pS]
  refine tz (i := 9) 7 rfl rfl hHeld ?_
  simp only [pS]
  refine wpAnyH_done (by kernel_rfl) ?_ _
  refine NoPanic.normal ?_
  have HI6 : Hid _ := HI5.out.below HB6.out
  have hk6 := HK6.out
  have HCH6 : Hid (Chg (footI none p m1 m2 E) w w6) := HCH5.out.trans (Chg.of_below (F := fun _ => False) HB6.out) (fun _ h9 => h9.elim)
  obtain ⟨u0, u1, u2, u3, u4, u5, u6, u7, u8⟩ := unCell HT6.out.un
  obtain ⟨b, hlkE, hbS⟩ : ∃ b, lk E' (en, sn) = some b ∧ b.S = S := by
    have h9 := hO
    rw [HI6.out.eO, lk_mp] at h9
    obtain ⟨a, h8, h7⟩ := Option.map_eq_some_iff.1 h9
    exact ⟨a, h8, h7⟩
  subst hbS
  have HBWC : Hid (Calls _ _ _ w6 _) := bw_mis HI6.out (en, sn) HSS.out 1 (en : Int) (sn : Int) pa i cn da dn dc cd ga gn gc b hlkE hc
  go_wp2_with fail
  refine Calls.mono HBWC.out ?_
  rintro e' w7 ⟨rfl, hb7⟩
  have HT7 : Hid _ := HT6.out.below hb7
  have hI7 := HI6.out.below hb7
  have hch7 : Chg (footI none p m1 m2 E) w w7 := HCH6.out.trans (Chg.of_below (F := fun _ => False) hb7) (fun _ h9 => h9.elim)
  clear hb7
  clear hk6 u0 u1 u2 u3 u4 u5 u6 u7 u8
  obtain ⟨c0, c1, c2, c3, f0, f1, f2, f3⟩ := ansCell HT7.out.an
  go_wp2
  have hPw := HP.out
  have hST : Chg (fun b => b = P + 1) w7 ((((w7.setCell ⟨P + 1, 0, none⟩ (.int .i64 2)).setCell ⟨P + 1, 1, none⟩ (.int .i64 0)).setCell ⟨P + 1, 2, none⟩ (.slice none 0 0)).setCell ⟨P + 1, 3, none⟩ (.slice none 0 0)) := Chg.of_grown ((((gset1 w7 (P + 1) 0 _).trans' (gset1 _ (P + 1) 1 _)).trans' (gset1 _ (P + 1) 2 _)).trans' (gset1 _ (P + 1) 3 _)) (fun b e => (Option.some.inj e).symm)
  have hPE : ∀ b9, footI none p m1 m2 E' b9 → b9 ≠ P + 1 := fun b hb e => by have := HLT3.out b (HFT.out b hb); omega
  have hIE := hI7.chg hST hPE
  exact bodyPost_ret (v := ansV ⟨2, 0, none⟩ none none 0 0 0 0) (by simp [results, Tryz.results15, go_sem, c0, c1, c2, c3, f0, f1, f2, f3]) rfl ⟨T1, T2, _, _, _, none, none, 0, 0, 0, 0, [], [], rfl, AnsAt.plain _ (((w7.setCell ⟨P + 1, 0, none⟩ (.int .i64 2)).heap.size)) _ _, hIE, Nat.le_succ _, Nat.le_succ _, hch7.trans hST (fun b hb => .inr (by omega)), fun b hb => ⟨.inl (HFT.out b hb), by have := hI7.lt hb; simpa using this⟩, by have := hch7.size; simpa using this⟩
theorem take_open_no (h : Ibx none w p m1 m2 T1 T2 I E G) (en sn : Nat) (pa i : Int) (cn : Nat) (da : Option Addr) (dn dc : Nat) (cd : Int) (ga : Option Addr) (gn gc : Nat) (hd : dataP 1 (en : Int) (sn : Int) pa i (cn : Int) dn cd gn) (he : I.ep ≤ en) (hH : lk (riseI I en).H (en, sn) = none) (S : List Seg) (hO : lk (riseI I en).O (en, sn) = some S) (hc : cn = S.length) (xs : Seg) (hn : dn = xs.length) (hx : Rd w da xs) (hxf : ∀ b, footI none p m1 m2 E b → ∀ a, da = some a → a.block ≠ b) (hnil : da = none → dc = 0) (hok : okE (putE (some S) i xs) = false) :
    Calls Tryz.prog 15 #[.pointer (some ⟨p, 0, none⟩), .agg (unC 1 (en : Int) (sn : Int) pa i (cn : Int) da dn dc cd ga gn gc)] w fun r w' => TkPost w p m1 m2 T1 T2 E (riseI I en) ⟨2, 0, none⟩ r w' := by
  obtain ⟨w2, hw2⟩ : ∃ w2, w2 = (w.alloc (.cells (unC 1 (en : Int) (sn : Int) pa i (cn : Int) da dn dc cd ga gn gc) tUn)).alloc (.cells #[.int .i64 0, .int .i64 0, .slice none 0 0, .slice none 0 0] 44) := ⟨_, rfl⟩
  have hbx := tkBox w 1 (en : Int) (sn : Int) pa i (cn : Int) da dn dc cd ga gn gc
  rw [← hw2] at hbx
  have hz2 : w2.heap.size = w.heap.size + 2 := by rw [hw2]; simp
  have HM : Hid _ := imade_t (h.below (hbx w2 (Below.refl _ _)).2.2)
  have HV : Hid (Calls _ _ _ w2 _) := valid_1g (en : Int) (sn : Int) pa i (cn : Int) da dn dc cd ga gn gc [] w2 hd.2.1 hd.2.2.1 hd.2.2.2
  have hpl : p < w.heap.size := h.lt (.inl rfl)
  have HI : Hid _ := h
  have HBX : Hid _ := hbx
  have HZ2 : Hid _ := hz2
  have HD : Hid _ := hd
  obtain ⟨a0, a1, a2, a3, a4, a5, a6, a7, a8⟩ := unCell (hbx w2 (Below.refl _ _)).1
  obtain ⟨P, hP⟩ : ∃ P, P = w.heap.size := ⟨_, rfl⟩
  have HP : Hid _ := hP
  rw [← hP] at a0 a1 a2 a3 a4 a5 a6 a7 a8
  have HW2 : Hid (w2 = _) := hw2
  have hep := h.cell.1
  obtain ⟨ep, hep2⟩ : ∃ ep, ep = I.ep := ⟨_, rfl⟩
  rw [← hep2] at hep
  have HEP : Hid _ := hep2
  have hlt : ¬ (en : Int) < (ep : Int) := by omega
  have HE6 : Hid (en < 18446744073709551616) := by have := HD.out.2.1; unfold nameOk at this; unfold Hid; omega
  have HSS : Hid (inS (en, sn)) := by have h1 := HD.out.2.1; have h2 := HD.out.2.2.1; unfold nameOk at h1 h2; exact ⟨by show en < _; omega, by show sn < _; omega⟩
  have HEP2 : Hid ((riseI I en).ep = en) := riseI_ep he
  have HX : Hid (Rd w da xs) := hx
  have HXF : Hid _ := hxf
  have HN : Hid _ := hn
  have HNL : Hid _ := hnil
  clear hx hxf hn hnil
  have HCQ : Hid _ := hc
  clear hc
  clear h hbx hz2 hP hw2 hd hep2
  go_enter Tryz.func15, Tryz.ntmps15
  go_wp2_with fail
  rw [← HW2.out, ← HP.out]
  refine Calls.mono HM.out ?_
  rintro e' w' ⟨rfl, hq⟩
  have hq := hq.symm
  subst hq
  go_wp2_with fail
  refine Calls.mono HV.out ?_
  rintro e' w3 ⟨rfl, hb3⟩
  have hb3' : Below (w.heap.size + 2) w2 w3 := hb3.mono (by have := HZ2.out; omega)
  obtain ⟨hU3, hA3, hbw⟩ := HBX.out w3 hb3'
  rw [← HP.out] at hA3 hU3
  have hS5 : w3.cell? ⟨P, 1, none⟩ = some (.int .u64 (en : Int)) ∧ w3.cell? ⟨p, 0, none⟩ = some (.int .u64 (ep : Int)) := ⟨(unCell hU3).2.1, (hbw.cell hpl).trans hep⟩
  have HU3 : Hid _ := hU3
  have HA3 : Hid _ := hA3
  have HBW : Hid _ := hbw
  clear hb3 hb3' hA3 hU3 hbw a0 a1 a2 a3 a4 a5 a6 a7 a8 hep
  go_wp2
  refine wp_region_noPanic ?_
  refine wp_region_held_drew (S := (fun u => u.cell? ⟨P, 1, none⟩ = some (.int .u64 (en : Int)) ∧ u.cell? ⟨p, 0, none⟩ = some (.int .u64 (ep : Int)))) (by kernel_rfl) (by first | exact hS5 | assumption) (fun hHeld => ?_)
  refine tz (i := 0) 23 rfl rfl hHeld ?_
  simp only [pS]
  refine tz (i := 1) 24 rfl rfl hHeld ?_
  simp only [pS]
  refine tz (i := 2) 25 rfl rfl hHeld ?_
  simp only [pS]
  refine tz (i := 3) 26 rfl rfl hHeld ?_
  simp only [pS]
  refine tz (i := 4) 27 rfl rfl hHeld ?_
  simp only [pS]
  refine tz (i := 5) 28 rfl rfl hHeld ?_
  simp only [pS]
  refine tz (i := 6) 29 rfl rfl hHeld ?_
  simp only [pS]
  refine wpAnyH_done (by kernel_rfl) ?_ _
  refine NoPanic.normal ?_
  obtain ⟨b0, b1, b2, b3, b4, b5, b6, b7, b8⟩ := unCell HU3.out
  have HH : Hid (Calls _ _ _ w3.drew _) := ihear_t (Ibx.below (w' := w3.drew) HI.out HBW.out.drew) en HE6.out
  go_wp2_with fail
  refine Calls.mono HH.out ?_
  rintro e' w4 ⟨rfl, E', G', hI4, hft, hc4⟩
  have hlt3 : ∀ b, footI none p m1 m2 E b → b < P := fun b hb => by rw [HP.out]; exact Ibx.lt HI.out hb
  have hU4 : w4.heap[P]? = some (.cells (unC 1 (en : Int) (sn : Int) pa i (cn : Int) da dn dc cd ga gn gc) tUn (0, 0)) := (hc4.block P (Array.getElem?_eq_some_iff.1 HU3.out).1 (fun h9 => by have := hlt3 P (h9.imp id (fun h8 => h8.imp id .inl)); omega)).trans HU3.out
  have hA4 : w4.heap[P + 1]? = some (.cells #[.int .i64 0, .int .i64 0, .slice none 0 0, .slice none 0 0] 44 (0, 0)) := (hc4.block (P + 1) (Array.getElem?_eq_some_iff.1 HA3.out).1 (fun h9 => by have := hlt3 (P + 1) (h9.imp id (fun h8 => h8.imp id .inl)); omega)).trans HA3.out
  have hl4 : P + 1 < w4.heap.size := (Array.getElem?_eq_some_iff.1 hA4).1
  obtain ⟨Q, hQ⟩ : ∃ Q, Q = w4.heap.size := ⟨_, rfl⟩
  obtain ⟨w5, hw5⟩ : ∃ w5, w5 = w4.alloc (.cells #[.int .u64 (en : Int), .int .u64 (sn : Int)] tSs) := ⟨_, rfl⟩
  have hb5 : Below w4.heap.size w4 w5 := by rw [hw5]; exact al (Below.refl _ _) _
  have hT5 : TkF w5 P Q (unC 1 (en : Int) (sn : Int) pa i (cn : Int) da dn dc cd ga gn gc) (en, sn) := ⟨(hb5.block P (by omega)).trans hU4, (hb5.block (P + 1) (by omega)).trans hA4, by rw [hw5, hQ]; exact heap_alloc_new w4 _, by omega⟩
  have hI5 := hI4.below hb5
  have hch5 : Chg (footI none p m1 m2 E) w w5 := ((Chg.of_below HBW.out.drew).trans hc4 (fun b hb => .inl (hb.imp id (fun h8 => h8.imp id .inl)))).trans (Chg.of_below (F := fun _ => False) hb5) (fun _ h9 => h9.elim)
  have HT5 : Hid _ := hT5
  have HI5 : Hid _ := hI5
  have HCH5 : Hid _ := hch5
  have HFT : Hid _ := hft
  have HLT3 : Hid _ := hlt3
  have HW5 : Hid (w5 = _) := hw5
  have HQ : Hid (Q = w4.heap.size) := hQ
  obtain ⟨g0, g1, g2, g3, g4, g5, g6, g7, g8⟩ := unCell hU4
  have hlkG : lk G' (en, sn) = none := by
    have h9 := hH
    rw [hI4.eH, lk_mp] at h9
    exact Option.map_eq_none_iff.1 h9
  have HGET : Hid (Calls _ _ _ w5.drew _) := getI_no (o := 4) (p := p) ((hI5.below (w' := w5.drew) (Below.refl _ _).drew).cell.2.2.2.2.2.2) (hI5.below (w' := w5.drew) (Below.refl _ _).drew).r2 HSS.out hlkG
  have hk5 := hT5.k0
  clear hI4 hft hc4 hlt3 hU4 hA4 hw5 hQ hb5 hT5 hI5 hch5 b0 b1 b2 b3 b4 b5 b6 b7 b8 hS5
  go_wp2
  rw [← HW5.out, ← HQ.out]
  refine wp_region_noPanic ?_
  refine wp_region_held_drew (S := (fun u => u.cell? ⟨Q, 0, none⟩ = some (.int .u64 (en : Int)) ∧ u.cell? ⟨Q, 1, none⟩ = some (.int .u64 (sn : Int)))) (by kernel_rfl) (by first | exact hk5 | exact HK6.out | assumption) (fun hHeld => ?_)
  refine tz (i := 0) 41 rfl rfl hHeld ?_
  simp only [pS]
  refine tz (i := 1) 42 rfl rfl hHeld ?_
  simp only [pS]
  refine tz (i := 2) 43 rfl rfl hHeld ?_
  simp only [pS]
  refine tz (i := 3) 44 rfl rfl hHeld ?_
  simp only [pS]
  refine run_at (i := 4) rfl (by kernel_rfl) (by rfl) (fun K hK => ?_)
  simp only [List.getElem_toArray, List.getElem_cons_zero, List.getElem_cons_succ]
  go_simp
  (go_at_call 36; refine Calls.mono HGET.out ?_; rintro e' w6 ⟨rfl, hb6⟩; have HB6 : Hid (Below w5.heap.size w5 w6) := ((Below.refl w5.heap.size w5).drew).trans hb6; have HT6 : Hid (TkF w6 P Q (unC 1 (en : Int) (sn : Int) pa i (cn : Int) da dn dc cd ga gn gc) (en, sn)) := HT5.out.below HB6.out; have HK6 : Hid (w6.cell? ⟨Q, 0, none⟩ = some (.int .u64 (en : Int)) ∧ w6.cell? ⟨Q, 1, none⟩ = some (.int .u64 (sn : Int))) := HT6.out.k0; clear hb6)
  go_wp2_with fail
  refine hK.out _ _ (by first | exact hk5 | exact HK6.out | assumption) ?_
  clear hK K
  intro hHeld2
  clear hHeld
  have hHeld := hHeld2
  clear hHeld2
  try simp only [pS]
  refine tz (i := 5) 40 rfl rfl hHeld ?_
  simp only [pS]
  refine tz (i := 6) 46 rfl rfl hHeld ?_
  simp only [pS]
  refine tz (i := 7) 47 rfl rfl hHeld ?_
  simp only [pS]
  refine tz (i := 8) 6 rfl rfl hHeld ?_
  simp only [pS]
  refine tz (i := 9) 7 rfl rfl hHeld ?_
  simp only [pS]
  refine wpAnyH_done (by kernel_rfl) ?_ _
  refine NoPanic.normal ?_
  have HI6 : Hid _ := HI5.out.below HB6.out
  have hk6 := HK6.out
  have HCH6 : Hid (Chg (footI none p m1 m2 E) w w6) := HCH5.out.trans (Chg.of_below (F := fun _ => False) HB6.out) (fun _ h9 => h9.elim)
  have HX6 : Hid (Rd w6 da xs) := Rd.chg HX.out HCH6.out HXF.out
  obtain ⟨u0, u1, u2, u3, u4, u5, u6, u7, u8⟩ := unCell HT6.out.un
  obtain ⟨b, hlkE, hbS⟩ : ∃ b, lk E' (en, sn) = some b ∧ b.S = S := by
    have h9 := hO
    rw [HI6.out.eO, lk_mp] at h9
    obtain ⟨a, h8, h7⟩ := Option.map_eq_some_iff.1 h9
    exact ⟨a, h8, h7⟩
  subst hbS
  have HBWC : Hid (Calls _ _ _ w6 _) := bw_open HI6.out (en, sn) HSS.out 1 (en : Int) (sn : Int) pa i cn da dn dc cd ga gn gc b hlkE HCQ.out xs HN.out HX6.out HNL.out (by have := HD.out.2.2.2.2.2.2.1; omega)
  rw [hok] at HBWC
  go_wp2_with fail
  refine Calls.mono HBWC.out ?_
  rintro e' w7 ⟨F', rfl, hB7, hF7, hc7⟩
  have hbF : ∀ c, b.F c → footI none p m1 m2 E' c := fun c h9 => .inr (.inr (.inr ⟨_, lk_mem hlkE, by simp, h9⟩))
  have HT7 : Hid (TkF w7 P Q (unC 1 (en : Int) (sn : Int) pa i (cn : Int) da dn dc cd ga gn gc) (en, sn)) := HT6.out.chg hc7 (fun c h9 => HLT3.out c (HFT.out c (hbF c h9)))
  have hI7 : Ibx (some (en, sn)) w7 p m1 m2 T1 T2 (riseI I en) E' G' := (HI6.out.apart (en, sn)).chg hc7 (fun c h9 h8 => by
    have h7 := HI6.out.nf _ (lk_mem hlkE) (by simp) c h8
    rcases h9 with h9 | h9 | h9 | ⟨x, hx, hxo, h9⟩
    · exact h7.1 h9
    · exact h7.2.1 h9
    · exact h7.2.2 h9
    · exact HI6.out.two hlkE hx (fun e => hxo (by rw [e])) c h9 h8)
  have hch7 : Chg (footI none p m1 m2 E) w w7 := HCH6.out.trans hc7 (fun c h9 => .inl (HFT.out c (hbF c h9)))
  have HP6 : Hid (P + 1 < w6.heap.size) := (Array.getElem?_eq_some_iff.1 HT6.out.an).1
  have hl6 : ∀ c, footI none p m1 m2 E' c → c < w6.heap.size := fun c h9 => HI6.out.lt h9
  have hFo : ∀ x, x ∈ E' → x.1 ≠ (en, sn) → ∀ c, x.2.F c → F' c → False := fun x hx hn c h1 h2 => by
    rcases hF7 c h2 with h3 | h3
    · exact HI6.out.two hlkE hx hn c h1 h3
    · have := hl6 c (.inr (.inr (.inr ⟨x, hx, by simp, h1⟩))); omega
  have hFn : ∀ c, F' c → c ≠ p ∧ c ≠ m1 ∧ c ≠ m2 := fun c h2 => by
    rcases hF7 c h2 with h3 | h3
    · exact HI6.out.nf _ (lk_mem hlkE) (by simp) c h3
    · have h4 := hl6 p (.inl rfl); have h5 := hl6 m1 (.inr (.inl rfl)); have h6 := hl6 m2 (.inr (.inr (.inl rfl))); omega
  rw [putS_L, putL_no hok] at hB7
  have hI8 := Ibx.back hI7 hlkE hB7 hFo hFn
  have HF7 : Hid (∀ c, footI none p m1 m2 (upE E' (en, sn) ⟨b.q, b.t, b.S, F'⟩) c → footI none p m1 m2 E c ∨ w6.heap.size ≤ c) := fun c h9 => by
    rcases h9 with h9 | h9 | h9 | ⟨x, hx, -, h9⟩
    · exact .inl (.inl h9)
    · exact .inl (.inr (.inl h9))
    · exact .inl (.inr (.inr (.inl h9)))
    · rcases mem_upE hx with ⟨h1, -⟩ | rfl
      · exact .inl (HFT.out c (.inr (.inr (.inr ⟨x, h1, by simp, h9⟩))))
      · exact (hF7 c h9).imp (fun h8 => HFT.out c (hbF c h8)) id
  have HI8 : Hid _ := hI8
  have HCH7 : Hid _ := hch7
  clear hI8 hI7 hch7 hbF hl6 hFo hFn hF7 hB7 hc7
  clear hk6 u0 u1 u2 u3 u4 u5 u6 u7 u8
  obtain ⟨c0, c1, c2, c3, f0, f1, f2, f3⟩ := ansCell HT7.out.an
  go_wp2
  have hPw := HP.out
  have hST : Chg (fun b => b = P + 1) w7 ((((w7.setCell ⟨P + 1, 0, none⟩ (.int .i64 2)).setCell ⟨P + 1, 1, none⟩ (.int .i64 0)).setCell ⟨P + 1, 2, none⟩ (.slice none 0 0)).setCell ⟨P + 1, 3, none⟩ (.slice none 0 0)) := Chg.of_grown ((((gset1 w7 (P + 1) 0 _).trans' (gset1 _ (P + 1) 1 _)).trans' (gset1 _ (P + 1) 2 _)).trans' (gset1 _ (P + 1) 3 _)) (fun b e => (Option.some.inj e).symm)
  have hPE : ∀ b9, footI none p m1 m2 (upE E' (en, sn) ⟨b.q, b.t, b.S, F'⟩) b9 → b9 ≠ P + 1 := fun b hb e => by have := HP6.out; rcases HF7.out b hb with h9 | h9 <;> first | omega | (have := HLT3.out b h9; omega)
  have hIE := HI8.out.chg hST hPE
  exact bodyPost_ret (v := ansV ⟨2, 0, none⟩ none none 0 0 0 0) (by simp [results, Tryz.results15, go_sem, c0, c1, c2, c3, f0, f1, f2, f3]) rfl ⟨T1, T2, _, _, _, none, none, 0, 0, 0, 0, [], [], rfl, AnsAt.plain _ (((w7.setCell ⟨P + 1, 0, none⟩ (.int .i64 2)).heap.size)) _ _, hIE, Nat.le_succ _, Nat.le_succ _, HCH7.out.trans hST (fun b hb => .inr (by omega)), fun b hb => ⟨(HF7.out b hb).imp id (fun h9 => Nat.le_trans HCH6.out.size h9), by have := HI8.out.lt hb; simpa using this⟩, by have := HCH7.out.size; simpa using this⟩
theorem take_new_no (h : Ibx none w p m1 m2 T1 T2 I E G) (en sn : Nat) (pa i : Int) (cn : Nat) (da : Option Addr) (dn dc : Nat) (cd : Int) (ga : Option Addr) (gn gc : Nat) (hd : dataP 1 (en : Int) (sn : Int) pa i (cn : Int) dn cd gn) (he : I.ep ≤ en) (hH : lk (riseI I en).H (en, sn) = none) (hO : lk (riseI I en).O (en, sn) = none) (xs : Seg) (hn : dn = xs.length) (hx : Rd w da xs) (hxf : ∀ b, footI none p m1 m2 E b → ∀ a, da = some a → a.block ≠ b) (hnil : da = none → dc = 0) (hok : okE (putE (some (List.replicate cn [])) i xs) = false) :
    Calls Tryz.prog 15 #[.pointer (some ⟨p, 0, none⟩), .agg (unC 1 (en : Int) (sn : Int) pa i (cn : Int) da dn dc cd ga gn gc)] w fun r w' => TkPost w p m1 m2 T1 T2 E (riseI I en) ⟨2, 0, none⟩ r w' := by
  obtain ⟨w2, hw2⟩ : ∃ w2, w2 = (w.alloc (.cells (unC 1 (en : Int) (sn : Int) pa i (cn : Int) da dn dc cd ga gn gc) tUn)).alloc (.cells #[.int .i64 0, .int .i64 0, .slice none 0 0, .slice none 0 0] 44) := ⟨_, rfl⟩
  have hbx := tkBox w 1 (en : Int) (sn : Int) pa i (cn : Int) da dn dc cd ga gn gc
  rw [← hw2] at hbx
  have hz2 : w2.heap.size = w.heap.size + 2 := by rw [hw2]; simp
  have HM : Hid _ := imade_t (h.below (hbx w2 (Below.refl _ _)).2.2)
  have HV : Hid (Calls _ _ _ w2 _) := valid_1g (en : Int) (sn : Int) pa i (cn : Int) da dn dc cd ga gn gc [] w2 hd.2.1 hd.2.2.1 hd.2.2.2
  have hpl : p < w.heap.size := h.lt (.inl rfl)
  have HI : Hid _ := h
  have HBX : Hid _ := hbx
  have HZ2 : Hid _ := hz2
  have HD : Hid _ := hd
  obtain ⟨a0, a1, a2, a3, a4, a5, a6, a7, a8⟩ := unCell (hbx w2 (Below.refl _ _)).1
  obtain ⟨P, hP⟩ : ∃ P, P = w.heap.size := ⟨_, rfl⟩
  have HP : Hid _ := hP
  rw [← hP] at a0 a1 a2 a3 a4 a5 a6 a7 a8
  have HW2 : Hid (w2 = _) := hw2
  have hep := h.cell.1
  obtain ⟨ep, hep2⟩ : ∃ ep, ep = I.ep := ⟨_, rfl⟩
  rw [← hep2] at hep
  have HEP : Hid _ := hep2
  have hlt : ¬ (en : Int) < (ep : Int) := by omega
  have HE6 : Hid (en < 18446744073709551616) := by have := HD.out.2.1; unfold nameOk at this; unfold Hid; omega
  have HSS : Hid (inS (en, sn)) := by have h1 := HD.out.2.1; have h2 := HD.out.2.2.1; unfold nameOk at h1 h2; exact ⟨by show en < _; omega, by show sn < _; omega⟩
  have HEP2 : Hid ((riseI I en).ep = en) := riseI_ep he
  have HX : Hid (Rd w da xs) := hx
  have HXF : Hid _ := hxf
  have HN : Hid _ := hn
  have HNL : Hid _ := hnil
  clear hx hxf hn hnil
  clear h hbx hz2 hP hw2 hd hep2
  go_enter Tryz.func15, Tryz.ntmps15
  go_wp2_with fail
  rw [← HW2.out, ← HP.out]
  refine Calls.mono HM.out ?_
  rintro e' w' ⟨rfl, hq⟩
  have hq := hq.symm
  subst hq
  go_wp2_with fail
  refine Calls.mono HV.out ?_
  rintro e' w3 ⟨rfl, hb3⟩
  have hb3' : Below (w.heap.size + 2) w2 w3 := hb3.mono (by have := HZ2.out; omega)
  obtain ⟨hU3, hA3, hbw⟩ := HBX.out w3 hb3'
  rw [← HP.out] at hA3 hU3
  have hS5 : w3.cell? ⟨P, 1, none⟩ = some (.int .u64 (en : Int)) ∧ w3.cell? ⟨p, 0, none⟩ = some (.int .u64 (ep : Int)) := ⟨(unCell hU3).2.1, (hbw.cell hpl).trans hep⟩
  have HU3 : Hid _ := hU3
  have HA3 : Hid _ := hA3
  have HBW : Hid _ := hbw
  clear hb3 hb3' hA3 hU3 hbw a0 a1 a2 a3 a4 a5 a6 a7 a8 hep
  go_wp2
  refine wp_region_noPanic ?_
  refine wp_region_held_drew (S := (fun u => u.cell? ⟨P, 1, none⟩ = some (.int .u64 (en : Int)) ∧ u.cell? ⟨p, 0, none⟩ = some (.int .u64 (ep : Int)))) (by kernel_rfl) (by first | exact hS5 | assumption) (fun hHeld => ?_)
  refine tz (i := 0) 23 rfl rfl hHeld ?_
  simp only [pS]
  refine tz (i := 1) 24 rfl rfl hHeld ?_
  simp only [pS]
  refine tz (i := 2) 25 rfl rfl hHeld ?_
  simp only [pS]
  refine tz (i := 3) 26 rfl rfl hHeld ?_
  simp only [pS]
  refine tz (i := 4) 27 rfl rfl hHeld ?_
  simp only [pS]
  refine tz (i := 5) 28 rfl rfl hHeld ?_
  simp only [pS]
  refine tz (i := 6) 29 rfl rfl hHeld ?_
  simp only [pS]
  refine wpAnyH_done (by kernel_rfl) ?_ _
  refine NoPanic.normal ?_
  obtain ⟨b0, b1, b2, b3, b4, b5, b6, b7, b8⟩ := unCell HU3.out
  have HH : Hid (Calls _ _ _ w3.drew _) := ihear_t (Ibx.below (w' := w3.drew) HI.out HBW.out.drew) en HE6.out
  go_wp2_with fail
  refine Calls.mono HH.out ?_
  rintro e' w4 ⟨rfl, E', G', hI4, hft, hc4⟩
  have hlt3 : ∀ b, footI none p m1 m2 E b → b < P := fun b hb => by rw [HP.out]; exact Ibx.lt HI.out hb
  have hU4 : w4.heap[P]? = some (.cells (unC 1 (en : Int) (sn : Int) pa i (cn : Int) da dn dc cd ga gn gc) tUn (0, 0)) := (hc4.block P (Array.getElem?_eq_some_iff.1 HU3.out).1 (fun h9 => by have := hlt3 P (h9.imp id (fun h8 => h8.imp id .inl)); omega)).trans HU3.out
  have hA4 : w4.heap[P + 1]? = some (.cells #[.int .i64 0, .int .i64 0, .slice none 0 0, .slice none 0 0] 44 (0, 0)) := (hc4.block (P + 1) (Array.getElem?_eq_some_iff.1 HA3.out).1 (fun h9 => by have := hlt3 (P + 1) (h9.imp id (fun h8 => h8.imp id .inl)); omega)).trans HA3.out
  have hl4 : P + 1 < w4.heap.size := (Array.getElem?_eq_some_iff.1 hA4).1
  obtain ⟨Q, hQ⟩ : ∃ Q, Q = w4.heap.size := ⟨_, rfl⟩
  obtain ⟨w5, hw5⟩ : ∃ w5, w5 = w4.alloc (.cells #[.int .u64 (en : Int), .int .u64 (sn : Int)] tSs) := ⟨_, rfl⟩
  have hb5 : Below w4.heap.size w4 w5 := by rw [hw5]; exact al (Below.refl _ _) _
  have hT5 : TkF w5 P Q (unC 1 (en : Int) (sn : Int) pa i (cn : Int) da dn dc cd ga gn gc) (en, sn) := ⟨(hb5.block P (by omega)).trans hU4, (hb5.block (P + 1) (by omega)).trans hA4, by rw [hw5, hQ]; exact heap_alloc_new w4 _, by omega⟩
  have hI5 := hI4.below hb5
  have hch5 : Chg (footI none p m1 m2 E) w w5 := ((Chg.of_below HBW.out.drew).trans hc4 (fun b hb => .inl (hb.imp id (fun h8 => h8.imp id .inl)))).trans (Chg.of_below (F := fun _ => False) hb5) (fun _ h9 => h9.elim)
  have HT5 : Hid _ := hT5
  have HI5 : Hid _ := hI5
  have HCH5 : Hid _ := hch5
  have HFT : Hid _ := hft
  have HLT3 : Hid _ := hlt3
  have HW5 : Hid (w5 = _) := hw5
  have HQ : Hid (Q = w4.heap.size) := hQ
  obtain ⟨g0, g1, g2, g3, g4, g5, g6, g7, g8⟩ := unCell hU4
  have hlkG : lk G' (en, sn) = none := by
    have h9 := hH
    rw [hI4.eH, lk_mp] at h9
    exact Option.map_eq_none_iff.1 h9
  have HGET : Hid (Calls _ _ _ w5.drew _) := getI_no (o := 4) (p := p) ((hI5.below (w' := w5.drew) (Below.refl _ _).drew).cell.2.2.2.2.2.2) (hI5.below (w' := w5.drew) (Below.refl _ _).drew).r2 HSS.out hlkG
  have hk5 := hT5.k0
  clear hI4 hft hc4 hlt3 hU4 hA4 hw5 hQ hb5 hT5 hI5 hch5 b0 b1 b2 b3 b4 b5 b6 b7 b8 hS5
  go_wp2
  rw [← HW5.out, ← HQ.out]
  refine wp_region_noPanic ?_
  refine wp_region_held_drew (S := (fun u => u.cell? ⟨Q, 0, none⟩ = some (.int .u64 (en : Int)) ∧ u.cell? ⟨Q, 1, none⟩ = some (.int .u64 (sn : Int)))) (by kernel_rfl) (by first | exact hk5 | exact HK6.out | assumption) (fun hHeld => ?_)
  refine tz (i := 0) 41 rfl rfl hHeld ?_
  simp only [pS]
  refine tz (i := 1) 42 rfl rfl hHeld ?_
  simp only [pS]
  refine tz (i := 2) 43 rfl rfl hHeld ?_
  simp only [pS]
  refine tz (i := 3) 44 rfl rfl hHeld ?_
  simp only [pS]
  refine run_at (i := 4) rfl (by kernel_rfl) (by rfl) (fun K hK => ?_)
  simp only [List.getElem_toArray, List.getElem_cons_zero, List.getElem_cons_succ]
  go_simp
  (go_at_call 36; refine Calls.mono HGET.out ?_; rintro e' w6 ⟨rfl, hb6⟩; have HB6 : Hid (Below w5.heap.size w5 w6) := ((Below.refl w5.heap.size w5).drew).trans hb6; have HT6 : Hid (TkF w6 P Q (unC 1 (en : Int) (sn : Int) pa i (cn : Int) da dn dc cd ga gn gc) (en, sn)) := HT5.out.below HB6.out; have HK6 : Hid (w6.cell? ⟨Q, 0, none⟩ = some (.int .u64 (en : Int)) ∧ w6.cell? ⟨Q, 1, none⟩ = some (.int .u64 (sn : Int))) := HT6.out.k0; clear hb6)
  go_wp2_with fail
  refine hK.out _ _ (by first | exact hk5 | exact HK6.out | assumption) ?_
  clear hK K
  intro hHeld2
  clear hHeld
  have hHeld := hHeld2
  clear hHeld2
  try simp only [pS]
  refine tz (i := 5) 40 rfl rfl hHeld ?_
  simp only [pS]
  refine tz (i := 6) 46 rfl rfl hHeld ?_
  simp only [pS]
  refine tz (i := 7) 47 rfl rfl hHeld ?_
  simp only [pS]
  refine tz (i := 8) 6 rfl rfl hHeld ?_
  simp only [pS]
  refine tz (i := 9) 7 rfl rfl hHeld ?_
  simp only [pS]
  refine wpAnyH_done (by kernel_rfl) ?_ _
  refine NoPanic.normal ?_
  have HI6 : Hid _ := HI5.out.below HB6.out
  have hk6 := HK6.out
  have HCH6 : Hid (Chg (footI none p m1 m2 E) w w6) := HCH5.out.trans (Chg.of_below (F := fun _ => False) HB6.out) (fun _ h9 => h9.elim)
  have HX6 : Hid (Rd w6 da xs) := Rd.chg HX.out HCH6.out HXF.out
  obtain ⟨u0, u1, u2, u3, u4, u5, u6, u7, u8⟩ := unCell HT6.out.un
  have hlkE : lk E' (en, sn) = none := by
    have h9 := hO
    rw [HI6.out.eO, lk_mp] at h9
    exact Option.map_eq_none_iff.1 h9
  have HBWC : Hid (Calls _ _ _ w6 _) := bw_new HI6.out (en, sn) HSS.out 1 (en : Int) (sn : Int) pa i cn da dn dc cd ga gn gc hlkE (by have := HD.out.2.2.2.2.2.1; have := HD.out.2.2.2.2.1; omega) (by have := HD.out.2.2.2.2.2.1; omega) xs HN.out HX6.out HNL.out (by have := HD.out.2.2.2.2.2.2.1; omega)
  rw [hok] at HBWC
  go_wp2_with fail
  refine Calls.mono HBWC.out ?_
  rintro e' w7 ⟨q, F', rfl, hB7, hF7, hb7⟩
  have HT7 : Hid (TkF w7 P Q (unC 1 (en : Int) (sn : Int) pa i (cn : Int) da dn dc cd ga gn gc) (en, sn)) := HT6.out.below hb7
  have hch7 : Chg (footI none p m1 m2 E) w w7 := HCH6.out.trans (Chg.of_below (F := fun _ => False) hb7) (fun _ h9 => h9.elim)
  have HP6 : Hid (P + 1 < w6.heap.size) := (Array.getElem?_eq_some_iff.1 HT6.out.an).1
  have hI7 := HI6.out.below hb7
  clear hb7 hF7 hB7
  clear hk6 u0 u1 u2 u3 u4 u5 u6 u7 u8
  obtain ⟨c0, c1, c2, c3, f0, f1, f2, f3⟩ := ansCell HT7.out.an
  go_wp2
  have hPw := HP.out
  have hST : Chg (fun b => b = P + 1) w7 ((((w7.setCell ⟨P + 1, 0, none⟩ (.int .i64 2)).setCell ⟨P + 1, 1, none⟩ (.int .i64 0)).setCell ⟨P + 1, 2, none⟩ (.slice none 0 0)).setCell ⟨P + 1, 3, none⟩ (.slice none 0 0)) := Chg.of_grown ((((gset1 w7 (P + 1) 0 _).trans' (gset1 _ (P + 1) 1 _)).trans' (gset1 _ (P + 1) 2 _)).trans' (gset1 _ (P + 1) 3 _)) (fun b e => (Option.some.inj e).symm)
  have hPE : ∀ b9, footI none p m1 m2 E' b9 → b9 ≠ P + 1 := fun b hb e => by have := HLT3.out b (HFT.out b hb); omega
  have hIE := hI7.chg hST hPE
  exact bodyPost_ret (v := ansV ⟨2, 0, none⟩ none none 0 0 0 0) (by simp [results, Tryz.results15, go_sem, c0, c1, c2, c3, f0, f1, f2, f3]) rfl ⟨T1, T2, _, _, _, none, none, 0, 0, 0, 0, [], [], rfl, AnsAt.plain _ (((w7.setCell ⟨P + 1, 0, none⟩ (.int .i64 2)).heap.size)) _ _, hIE, Nat.le_succ _, Nat.le_succ _, hch7.trans hST (fun b hb => .inr (by omega)), fun b hb => ⟨.inl (HFT.out b hb), by have := hI7.lt hb; simpa using this⟩, by have := hch7.size; simpa using this⟩
theorem take_open_ok (h : Ibx none w p m1 m2 T1 T2 I E G) (en sn : Nat) (pa i : Int) (cn : Nat) (da : Option Addr) (dn dc : Nat) (cd : Int) (ga : Option Addr) (gn gc : Nat) (hd : dataP 1 (en : Int) (sn : Int) pa i (cn : Int) dn cd gn) (he : I.ep ≤ en) (hH : lk (riseI I en).H (en, sn) = none) (S : List Seg) (hO : lk (riseI I en).O (en, sn) = some S) (hc : cn = S.length) (xs : Seg) (hn : dn = xs.length) (hx : Rd w da xs) (hxf : ∀ b, footI none p m1 m2 E b → ∀ a, da = some a → a.block ≠ b) (hnil : da = none → dc = 0) (hok : okE (putE (some S) i xs) = true) (hT : T1 < 9223372036854775807) :
    Calls Tryz.prog 15 #[.pointer (some ⟨p, 0, none⟩), .agg (unC 1 (en : Int) (sn : Int) pa i (cn : Int) da dn dc cd ga gn gc)] w fun r w' => TkPost w p m1 m2 T1 T2 E { riseI I en with O := pt (riseI I en).mo (riseI I en).O (en, sn) (putL S i xs) } (tellA (putL S i xs)) r w' := by
  obtain ⟨w2, hw2⟩ : ∃ w2, w2 = (w.alloc (.cells (unC 1 (en : Int) (sn : Int) pa i (cn : Int) da dn dc cd ga gn gc) tUn)).alloc (.cells #[.int .i64 0, .int .i64 0, .slice none 0 0, .slice none 0 0] 44) := ⟨_, rfl⟩
  have hbx := tkBox w 1 (en : Int) (sn : Int) pa i (cn : Int) da dn dc cd ga gn gc
  rw [← hw2] at hbx
  have hz2 : w2.heap.size = w.heap.size + 2 := by rw [hw2]; simp
  have HM : Hid _ := imade_t (h.below (hbx w2 (Below.refl _ _)).2.2)
  have HV : Hid (Calls _ _ _ w2 _) := valid_1g (en : Int) (sn : Int) pa i (cn : Int) da dn dc cd ga gn gc [] w2 hd.2.1 hd.2.2.1 hd.2.2.2
  have hpl : p < w.heap.size := h.lt (.inl rfl)
  have HI : Hid _ := h
  have HBX : Hid _ := hbx
  have HZ2 : Hid _ := hz2
  have HD : Hid _ := hd
  obtain ⟨a0, a1, a2, a3, a4, a5, a6, a7, a8⟩ := unCell (hbx w2 (Below.refl _ _)).1
  obtain ⟨P, hP⟩ : ∃ P, P = w.heap.size := ⟨_, rfl⟩
  have HP : Hid _ := hP
  rw [← hP] at a0 a1 a2 a3 a4 a5 a6 a7 a8
  have HW2 : Hid (w2 = _) := hw2
  have hep := h.cell.1
  obtain ⟨ep, hep2⟩ : ∃ ep, ep = I.ep := ⟨_, rfl⟩
  rw [← hep2] at hep
  have HEP : Hid _ := hep2
  have hlt : ¬ (en : Int) < (ep : Int) := by omega
  have HE6 : Hid (en < 18446744073709551616) := by have := HD.out.2.1; unfold nameOk at this; unfold Hid; omega
  have HSS : Hid (inS (en, sn)) := by have h1 := HD.out.2.1; have h2 := HD.out.2.2.1; unfold nameOk at h1 h2; exact ⟨by show en < _; omega, by show sn < _; omega⟩
  have HEP2 : Hid ((riseI I en).ep = en) := riseI_ep he
  have HX : Hid (Rd w da xs) := hx
  have HXF : Hid _ := hxf
  have HN : Hid _ := hn
  have HNL : Hid _ := hnil
  clear hx hxf hn hnil
  have HCQ : Hid _ := hc
  clear hc
  clear h hbx hz2 hP hw2 hd hep2
  go_enter Tryz.func15, Tryz.ntmps15
  go_wp2_with fail
  rw [← HW2.out, ← HP.out]
  refine Calls.mono HM.out ?_
  rintro e' w' ⟨rfl, hq⟩
  have hq := hq.symm
  subst hq
  go_wp2_with fail
  refine Calls.mono HV.out ?_
  rintro e' w3 ⟨rfl, hb3⟩
  have hb3' : Below (w.heap.size + 2) w2 w3 := hb3.mono (by have := HZ2.out; omega)
  obtain ⟨hU3, hA3, hbw⟩ := HBX.out w3 hb3'
  rw [← HP.out] at hA3 hU3
  have hS5 : w3.cell? ⟨P, 1, none⟩ = some (.int .u64 (en : Int)) ∧ w3.cell? ⟨p, 0, none⟩ = some (.int .u64 (ep : Int)) := ⟨(unCell hU3).2.1, (hbw.cell hpl).trans hep⟩
  have HU3 : Hid _ := hU3
  have HA3 : Hid _ := hA3
  have HBW : Hid _ := hbw
  clear hb3 hb3' hA3 hU3 hbw a0 a1 a2 a3 a4 a5 a6 a7 a8 hep
  go_wp2
  refine wp_region_noPanic ?_
  refine wp_region_held_drew (S := (fun u => u.cell? ⟨P, 1, none⟩ = some (.int .u64 (en : Int)) ∧ u.cell? ⟨p, 0, none⟩ = some (.int .u64 (ep : Int)))) (by kernel_rfl) (by first | exact hS5 | assumption) (fun hHeld => ?_)
  refine tz (i := 0) 23 rfl rfl hHeld ?_
  simp only [pS]
  refine tz (i := 1) 24 rfl rfl hHeld ?_
  simp only [pS]
  refine tz (i := 2) 25 rfl rfl hHeld ?_
  simp only [pS]
  refine tz (i := 3) 26 rfl rfl hHeld ?_
  simp only [pS]
  refine tz (i := 4) 27 rfl rfl hHeld ?_
  simp only [pS]
  refine tz (i := 5) 28 rfl rfl hHeld ?_
  simp only [pS]
  refine tz (i := 6) 29 rfl rfl hHeld ?_
  simp only [pS]
  refine wpAnyH_done (by kernel_rfl) ?_ _
  refine NoPanic.normal ?_
  obtain ⟨b0, b1, b2, b3, b4, b5, b6, b7, b8⟩ := unCell HU3.out
  have HH : Hid (Calls _ _ _ w3.drew _) := ihear_t (Ibx.below (w' := w3.drew) HI.out HBW.out.drew) en HE6.out
  go_wp2_with fail
  refine Calls.mono HH.out ?_
  rintro e' w4 ⟨rfl, E', G', hI4, hft, hc4⟩
  have hlt3 : ∀ b, footI none p m1 m2 E b → b < P := fun b hb => by rw [HP.out]; exact Ibx.lt HI.out hb
  have hU4 : w4.heap[P]? = some (.cells (unC 1 (en : Int) (sn : Int) pa i (cn : Int) da dn dc cd ga gn gc) tUn (0, 0)) := (hc4.block P (Array.getElem?_eq_some_iff.1 HU3.out).1 (fun h9 => by have := hlt3 P (h9.imp id (fun h8 => h8.imp id .inl)); omega)).trans HU3.out
  have hA4 : w4.heap[P + 1]? = some (.cells #[.int .i64 0, .int .i64 0, .slice none 0 0, .slice none 0 0] 44 (0, 0)) := (hc4.block (P + 1) (Array.getElem?_eq_some_iff.1 HA3.out).1 (fun h9 => by have := hlt3 (P + 1) (h9.imp id (fun h8 => h8.imp id .inl)); omega)).trans HA3.out
  have hl4 : P + 1 < w4.heap.size := (Array.getElem?_eq_some_iff.1 hA4).1
  obtain ⟨Q, hQ⟩ : ∃ Q, Q = w4.heap.size := ⟨_, rfl⟩
  obtain ⟨w5, hw5⟩ : ∃ w5, w5 = w4.alloc (.cells #[.int .u64 (en : Int), .int .u64 (sn : Int)] tSs) := ⟨_, rfl⟩
  have hb5 : Below w4.heap.size w4 w5 := by rw [hw5]; exact al (Below.refl _ _) _
  have hT5 : TkF w5 P Q (unC 1 (en : Int) (sn : Int) pa i (cn : Int) da dn dc cd ga gn gc) (en, sn) := ⟨(hb5.block P (by omega)).trans hU4, (hb5.block (P + 1) (by omega)).trans hA4, by rw [hw5, hQ]; exact heap_alloc_new w4 _, by omega⟩
  have hI5 := hI4.below hb5
  have hch5 : Chg (footI none p m1 m2 E) w w5 := ((Chg.of_below HBW.out.drew).trans hc4 (fun b hb => .inl (hb.imp id (fun h8 => h8.imp id .inl)))).trans (Chg.of_below (F := fun _ => False) hb5) (fun _ h9 => h9.elim)
  have HT5 : Hid _ := hT5
  have HI5 : Hid _ := hI5
  have HCH5 : Hid _ := hch5
  have HFT : Hid _ := hft
  have HLT3 : Hid _ := hlt3
  have HW5 : Hid (w5 = _) := hw5
  have HQ : Hid (Q = w4.heap.size) := hQ
  obtain ⟨g0, g1, g2, g3, g4, g5, g6, g7, g8⟩ := unCell hU4
  have hlkG : lk G' (en, sn) = none := by
    have h9 := hH
    rw [hI4.eH, lk_mp] at h9
    exact Option.map_eq_none_iff.1 h9
  have HGET : Hid (Calls _ _ _ w5.drew _) := getI_no (o := 4) (p := p) ((hI5.below (w' := w5.drew) (Below.refl _ _).drew).cell.2.2.2.2.2.2) (hI5.below (w' := w5.drew) (Below.refl _ _).drew).r2 HSS.out hlkG
  have hk5 := hT5.k0
  clear hI4 hft hc4 hlt3 hU4 hA4 hw5 hQ hb5 hT5 hI5 hch5 b0 b1 b2 b3 b4 b5 b6 b7 b8 hS5
  go_wp2
  rw [← HW5.out, ← HQ.out]
  refine wp_region_noPanic ?_
  refine wp_region_held_drew (S := (fun u => u.cell? ⟨Q, 0, none⟩ = some (.int .u64 (en : Int)) ∧ u.cell? ⟨Q, 1, none⟩ = some (.int .u64 (sn : Int)))) (by kernel_rfl) (by first | exact hk5 | exact HK6.out | assumption) (fun hHeld => ?_)
  refine tz (i := 0) 41 rfl rfl hHeld ?_
  simp only [pS]
  refine tz (i := 1) 42 rfl rfl hHeld ?_
  simp only [pS]
  refine tz (i := 2) 43 rfl rfl hHeld ?_
  simp only [pS]
  refine tz (i := 3) 44 rfl rfl hHeld ?_
  simp only [pS]
  refine run_at (i := 4) rfl (by kernel_rfl) (by rfl) (fun K hK => ?_)
  simp only [List.getElem_toArray, List.getElem_cons_zero, List.getElem_cons_succ]
  go_simp
  (go_at_call 36; refine Calls.mono HGET.out ?_; rintro e' w6 ⟨rfl, hb6⟩; have HB6 : Hid (Below w5.heap.size w5 w6) := ((Below.refl w5.heap.size w5).drew).trans hb6; have HT6 : Hid (TkF w6 P Q (unC 1 (en : Int) (sn : Int) pa i (cn : Int) da dn dc cd ga gn gc) (en, sn)) := HT5.out.below HB6.out; have HK6 : Hid (w6.cell? ⟨Q, 0, none⟩ = some (.int .u64 (en : Int)) ∧ w6.cell? ⟨Q, 1, none⟩ = some (.int .u64 (sn : Int))) := HT6.out.k0; clear hb6)
  go_wp2_with fail
  refine hK.out _ _ (by first | exact hk5 | exact HK6.out | assumption) ?_
  clear hK K
  intro hHeld2
  clear hHeld
  have hHeld := hHeld2
  clear hHeld2
  try simp only [pS]
  refine tz (i := 5) 40 rfl rfl hHeld ?_
  simp only [pS]
  refine tz (i := 6) 46 rfl rfl hHeld ?_
  simp only [pS]
  refine tz (i := 7) 47 rfl rfl hHeld ?_
  simp only [pS]
  refine tz (i := 8) 6 rfl rfl hHeld ?_
  simp only [pS]
  refine tz (i := 9) 7 rfl rfl hHeld ?_
  simp only [pS]
  refine wpAnyH_done (by kernel_rfl) ?_ _
  refine NoPanic.normal ?_
  have HI6 : Hid _ := HI5.out.below HB6.out
  have hk6 := HK6.out
  have HCH6 : Hid (Chg (footI none p m1 m2 E) w w6) := HCH5.out.trans (Chg.of_below (F := fun _ => False) HB6.out) (fun _ h9 => h9.elim)
  have HX6 : Hid (Rd w6 da xs) := Rd.chg HX.out HCH6.out HXF.out
  obtain ⟨u0, u1, u2, u3, u4, u5, u6, u7, u8⟩ := unCell HT6.out.un
  obtain ⟨b, hlkE, hbS⟩ : ∃ b, lk E' (en, sn) = some b ∧ b.S = S := by
    have h9 := hO
    rw [HI6.out.eO, lk_mp] at h9
    obtain ⟨a, h8, h7⟩ := Option.map_eq_some_iff.1 h9
    exact ⟨a, h8, h7⟩
  subst hbS
  have HBWC : Hid (Calls _ _ _ w6 _) := bw_open HI6.out (en, sn) HSS.out 1 (en : Int) (sn : Int) pa i cn da dn dc cd ga gn gc b hlkE HCQ.out xs HN.out HX6.out HNL.out (by have := HD.out.2.2.2.2.2.2.1; omega)
  rw [hok] at HBWC
  go_wp2_with fail
  refine Calls.mono HBWC.out ?_
  rintro e' w7 ⟨F', rfl, hB7, hF7, hc7⟩
  have hbF : ∀ c, b.F c → footI none p m1 m2 E' c := fun c h9 => .inr (.inr (.inr ⟨_, lk_mem hlkE, by simp, h9⟩))
  have HT7 : Hid (TkF w7 P Q (unC 1 (en : Int) (sn : Int) pa i (cn : Int) da dn dc cd ga gn gc) (en, sn)) := HT6.out.chg hc7 (fun c h9 => HLT3.out c (HFT.out c (hbF c h9)))
  have hI7 : Ibx (some (en, sn)) w7 p m1 m2 T1 T2 (riseI I en) E' G' := (HI6.out.apart (en, sn)).chg hc7 (fun c h9 h8 => by
    have h7 := HI6.out.nf _ (lk_mem hlkE) (by simp) c h8
    rcases h9 with h9 | h9 | h9 | ⟨x, hx, hxo, h9⟩
    · exact h7.1 h9
    · exact h7.2.1 h9
    · exact h7.2.2 h9
    · exact HI6.out.two hlkE hx (fun e => hxo (by rw [e])) c h9 h8)
  have hch7 : Chg (footI none p m1 m2 E) w w7 := HCH6.out.trans hc7 (fun c h9 => .inl (HFT.out c (hbF c h9)))
  have HP6 : Hid (P + 1 < w6.heap.size) := (Array.getElem?_eq_some_iff.1 HT6.out.an).1
  have hl6 : ∀ c, footI none p m1 m2 E' c → c < w6.heap.size := fun c h9 => HI6.out.lt h9
  have hFo : ∀ x, x ∈ E' → x.1 ≠ (en, sn) → ∀ c, x.2.F c → F' c → False := fun x hx hn c h1 h2 => by
    rcases hF7 c h2 with h3 | h3
    · exact HI6.out.two hlkE hx hn c h1 h3
    · have := hl6 c (.inr (.inr (.inr ⟨x, hx, by simp, h1⟩))); omega
  have hFn : ∀ c, F' c → c ≠ p ∧ c ≠ m1 ∧ c ≠ m2 := fun c h2 => by
    rcases hF7 c h2 with h3 | h3
    · exact HI6.out.nf _ (lk_mem hlkE) (by simp) c h3
    · have h4 := hl6 p (.inl rfl); have h5 := hl6 m1 (.inr (.inl rfl)); have h6 := hl6 m2 (.inr (.inr (.inl rfl))); omega
  have HI7 : Hid _ := hI7
  have HB7 : Hid (PBx w7 (some ⟨b.q, 0, none⟩) (some (putL b.S i xs)) F') := hB7
  have HPUT : Hid (Calls _ _ _ w7.drew _) := putB_t (w := w7.drew) (o := 1) (p := p) tIb _ (HI7.out.below (w' := w7.drew) (Below.refl _ _).drew).hp (riseI I en).mo rfl rfl rfl (HI7.out.below (w' := w7.drew) (Below.refl _ _).drew).r1 HSS.out b.q hT HI7.out.ok.o0 (by have := HI7.out.ok.o1; omega) (by rw [len_mp]; exact HI7.out.lenE)
  have hk7 := HT7.out.k0
  have HFO : Hid _ := hFo
  have HFN : Hid _ := hFn
  have HF7 : Hid _ := hF7
  have HCH7 : Hid _ := hch7
  have HOP : Hid (∀ u, RowM u m1 (T1 + 1) (mp fB (pt (riseI I en).mo (mp Bg.qt E') (en, sn) (b.q, T1 + 1))) → u.heap[p]? = some (.cells ((ibC (riseI I en) T1 T2 m1 m2).setIfInBounds 2 (.int .u64 ((T1 + 1 : Nat) : Int))) tIb (0, 0)) → Chg (fun b => b = p ∨ b = m1) w7 u → Ibx none u p m1 m2 (T1 + 1) T2 { riseI I en with O := pt (riseI I en).mo (riseI I en).O (en, sn) (putL b.S i xs) } (pt (riseI I en).mo E' (en, sn) ⟨b.q, T1 + 1, putL b.S i xs, F'⟩) G') := fun u h1 h2 h3 => Ibx.opn HI7.out HEP2.out.symm (lk_none.1 hH) HB7.out HFO.out HFN.out h1 h2 h3
  clear hI7 hB7 hFo hFn hF7 hch7 hl6 hc7
  clear hk6 u0 u1 u2 u3 u4 u5 u6 u7 u8
  go_wp2
  refine wp_region_noPanic ?_
  refine wp_region_held_drew (S := (fun u => u.cell? ⟨Q, 0, none⟩ = some (.int .u64 (en : Int)) ∧ u.cell? ⟨Q, 1, none⟩ = some (.int .u64 (sn : Int)))) (by kernel_rfl) (by first | exact hk7 | exact HT8.out.k0 | assumption) (fun hHeld => ?_)
  refine tz (i := 0) 67 rfl rfl hHeld ?_
  simp only [pS]
  refine tz (i := 1) 68 rfl rfl hHeld ?_
  simp only [pS]
  refine tz (i := 2) 69 rfl rfl hHeld ?_
  simp only [pS]
  refine tz (i := 3) 70 rfl rfl hHeld ?_
  simp only [pS]
  refine tz (i := 4) 71 rfl rfl hHeld ?_
  simp only [pS]
  refine run_at (i := 5) rfl (by kernel_rfl) (by rfl) (fun K hK => ?_)
  simp only [List.getElem_toArray, List.getElem_cons_zero, List.getElem_cons_succ]
  go_simp
  (go_at_call 39; refine Calls.mono HPUT.out ?_; rintro e' w8 ⟨rfl, hr8, hp8, hc8⟩; have HC8 : Hid (Chg (fun b => b = p ∨ b = m1) w7 w8) := ((Chg.refl (fun b => b = p ∨ b = m1) w7).drew).trans hc8 (fun b hb => .inl hb); have HT8 : Hid (TkF w8 P Q (unC 1 (en : Int) (sn : Int) pa i (cn : Int) da dn dc cd ga gn gc) (en, sn)) := HT7.out.chg HC8.out (fun b hb => HLT3.out b (HFT.out b (hb.elim .inl (fun h9 => .inr (.inl h9))))); have HI8 : Hid _ := HOP.out w8 hr8 hp8 HC8.out; clear hr8 hp8 hc8)
  go_wp2_with fail
  refine hK.out _ _ (by first | exact hk7 | exact HT8.out.k0 | assumption) ?_
  clear hK K
  intro hHeld2
  clear hHeld
  have hHeld := hHeld2
  clear hHeld2
  try simp only [pS]
  refine wpAnyH_done (by kernel_rfl) ?_ _
  refine NoPanic.normal ?_
  have hB8 : PBx w8 (some ⟨b.q, 0, none⟩) (some (putL b.S i xs)) F' := HI8.out.bx ((en, sn), ⟨b.q, T1 + 1, putL b.S i xs, F'⟩) (by rw [pt_eq]; simp) (by simp)
  have HTL : Hid (Calls _ _ _ w8 _) := told_t hB8
  have HCH8 : Hid (Chg (footI none p m1 m2 E) w w8) := HCH7.out.trans HC8.out (fun b hb => .inl (HFT.out b (hb.elim .inl (fun h9 => .inr (.inl h9)))))
  clear hB8 hk7
  go_wp2_with fail
  refine Calls.mono HTL.out ?_
  rintro e' w9 ⟨⟨ga9, ba9, gn9, gc9, bn9, bc9, rs9, xs9, rfl, hA9⟩, hb9⟩
  have HT9 : Hid _ := HT8.out.below hb9
  obtain ⟨c0, c1, c2, c3, f0, f1, f2, f3⟩ := ansCell HT9.out.an
  have HA9 : Hid (AnsAt w9 w8.heap.size (tellA (putL b.S i xs)) ga9 ba9 gn9 gc9 bn9 bc9 rs9 xs9) := hA9
  obtain ⟨st9, hst9⟩ : ∃ st9, st9 = (tellA (putL b.S i xs)).st := ⟨_, rfl⟩
  obtain ⟨cd9, hcd9⟩ : ∃ cd9, cd9 = (tellA (putL b.S i xs)).cd := ⟨_, rfl⟩
  unfold ansV
  rw [← hst9, ← hcd9]
  have HST9 : Hid _ := hst9
  have HCD9 : Hid _ := hcd9
  have HB9 : Hid _ := hb9
  clear hA9 hst9 hcd9 hb9
  go_wp2
  have hPw := HP.out
  have hI9 := HI8.out.below HB9.out
  have hch9 : Chg (footI none p m1 m2 E) w w9 := HCH8.out.trans (Chg.of_below (F := fun _ => False) HB9.out) (fun _ h9 => h9.elim)
  have hF9 : ∀ c, footI none p m1 m2 (pt (riseI I en).mo E' (en, sn) ⟨b.q, T1 + 1, putL b.S i xs, F'⟩) c → footI none p m1 m2 E c ∨ w6.heap.size ≤ c := fun c h9 => by
    rcases h9 with h9 | h9 | h9 | ⟨x, hx, -, h9⟩
    · exact .inl (.inl h9)
    · exact .inl (.inr (.inl h9))
    · exact .inl (.inr (.inr (.inl h9)))
    · rcases mem_pt hx with h1 | rfl
      · exact .inl (HFT.out c (.inr (.inr (.inr ⟨x, pf_mem h1, by simp, h9⟩))))
      · exact (HF7.out c h9).imp (fun h8 => HFT.out c (hbF c h8)) id
  have hST : Chg (fun b => b = P + 1) w9 ((((w9.setCell ⟨P + 1, 0, none⟩ (.int .i64 st9)).setCell ⟨P + 1, 1, none⟩ (.int .i64 cd9)).setCell ⟨P + 1, 2, none⟩ (.slice ga9 gn9 gc9)).setCell ⟨P + 1, 3, none⟩ (.slice ba9 bn9 bc9)) := Chg.of_grown ((((gset1 w9 (P + 1) 0 _).trans' (gset1 _ (P + 1) 1 _)).trans' (gset1 _ (P + 1) 2 _)).trans' (gset1 _ (P + 1) 3 _)) (fun b e => (Option.some.inj e).symm)
  have hPE : ∀ b9, footI none p m1 m2 (pt (riseI I en).mo E' (en, sn) ⟨b.q, T1 + 1, putL b.S i xs, F'⟩) b9 → b9 ≠ P + 1 := fun b hb e => by have := HP6.out; rcases hF9 b hb with h9 | h9 <;> first | omega | (have := HLT3.out b h9; omega)
  have hIE := hI9.chg hST hPE
  have hl8 : P + 1 < w8.heap.size := (Array.getElem?_eq_some_iff.1 HT8.out.an).1
  exact bodyPost_ret (v := .agg #[.int .i64 st9, .int .i64 cd9, .slice ga9 gn9 gc9, .slice ba9 bn9 bc9]) (by simp [results, Tryz.results15, go_sem, c0, c1, c2, c3, f0, f1, f2, f3]) rfl ⟨T1 + 1, T2, _, _, w8.heap.size, ga9, ba9, gn9, gc9, bn9, bc9, rs9, xs9, by rw [HST9.out, HCD9.out], HA9.out.chg hST (fun b hb => by omega), hIE, Nat.le_refl _, Nat.le_succ _, hch9.trans hST (fun b hb => .inr (by omega)), fun b hb => ⟨(hF9 b hb).imp id (fun h9 => Nat.le_trans HCH6.out.size h9), HI8.out.lt hb⟩, HCH8.out.size⟩
theorem take_new_ok (h : Ibx none w p m1 m2 T1 T2 I E G) (en sn : Nat) (pa i : Int) (cn : Nat) (da : Option Addr) (dn dc : Nat) (cd : Int) (ga : Option Addr) (gn gc : Nat) (hd : dataP 1 (en : Int) (sn : Int) pa i (cn : Int) dn cd gn) (he : I.ep ≤ en) (hH : lk (riseI I en).H (en, sn) = none) (hO : lk (riseI I en).O (en, sn) = none) (xs : Seg) (hn : dn = xs.length) (hx : Rd w da xs) (hxf : ∀ b, footI none p m1 m2 E b → ∀ a, da = some a → a.block ≠ b) (hnil : da = none → dc = 0) (hok : okE (putE (some (List.replicate cn [])) i xs) = true) (hT : T1 < 9223372036854775807) :
    Calls Tryz.prog 15 #[.pointer (some ⟨p, 0, none⟩), .agg (unC 1 (en : Int) (sn : Int) pa i (cn : Int) da dn dc cd ga gn gc)] w fun r w' => TkPost w p m1 m2 T1 T2 E { riseI I en with O := pt (riseI I en).mo (riseI I en).O (en, sn) (putL (List.replicate cn []) i xs) } (tellA (putL (List.replicate cn []) i xs)) r w' := by
  obtain ⟨w2, hw2⟩ : ∃ w2, w2 = (w.alloc (.cells (unC 1 (en : Int) (sn : Int) pa i (cn : Int) da dn dc cd ga gn gc) tUn)).alloc (.cells #[.int .i64 0, .int .i64 0, .slice none 0 0, .slice none 0 0] 44) := ⟨_, rfl⟩
  have hbx := tkBox w 1 (en : Int) (sn : Int) pa i (cn : Int) da dn dc cd ga gn gc
  rw [← hw2] at hbx
  have hz2 : w2.heap.size = w.heap.size + 2 := by rw [hw2]; simp
  have HM : Hid _ := imade_t (h.below (hbx w2 (Below.refl _ _)).2.2)
  have HV : Hid (Calls _ _ _ w2 _) := valid_1g (en : Int) (sn : Int) pa i (cn : Int) da dn dc cd ga gn gc [] w2 hd.2.1 hd.2.2.1 hd.2.2.2
  have hpl : p < w.heap.size := h.lt (.inl rfl)
  have HI : Hid _ := h
  have HBX : Hid _ := hbx
  have HZ2 : Hid _ := hz2
  have HD : Hid _ := hd
  obtain ⟨a0, a1, a2, a3, a4, a5, a6, a7, a8⟩ := unCell (hbx w2 (Below.refl _ _)).1
  obtain ⟨P, hP⟩ : ∃ P, P = w.heap.size := ⟨_, rfl⟩
  have HP : Hid _ := hP
  rw [← hP] at a0 a1 a2 a3 a4 a5 a6 a7 a8
  have HW2 : Hid (w2 = _) := hw2
  have hep := h.cell.1
  obtain ⟨ep, hep2⟩ : ∃ ep, ep = I.ep := ⟨_, rfl⟩
  rw [← hep2] at hep
  have HEP : Hid _ := hep2
  have hlt : ¬ (en : Int) < (ep : Int) := by omega
  have HE6 : Hid (en < 18446744073709551616) := by have := HD.out.2.1; unfold nameOk at this; unfold Hid; omega
  have HSS : Hid (inS (en, sn)) := by have h1 := HD.out.2.1; have h2 := HD.out.2.2.1; unfold nameOk at h1 h2; exact ⟨by show en < _; omega, by show sn < _; omega⟩
  have HEP2 : Hid ((riseI I en).ep = en) := riseI_ep he
  have HX : Hid (Rd w da xs) := hx
  have HXF : Hid _ := hxf
  have HN : Hid _ := hn
  have HNL : Hid _ := hnil
  clear hx hxf hn hnil
  clear h hbx hz2 hP hw2 hd hep2
  go_enter Tryz.func15, Tryz.ntmps15
  go_wp2_with fail
  rw [← HW2.out, ← HP.out]
  refine Calls.mono HM.out ?_
  rintro e' w' ⟨rfl, hq⟩
  have hq := hq.symm
  subst hq
  go_wp2_with fail
  refine Calls.mono HV.out ?_
  rintro e' w3 ⟨rfl, hb3⟩
  have hb3' : Below (w.heap.size + 2) w2 w3 := hb3.mono (by have := HZ2.out; omega)
  obtain ⟨hU3, hA3, hbw⟩ := HBX.out w3 hb3'
  rw [← HP.out] at hA3 hU3
  have hS5 : w3.cell? ⟨P, 1, none⟩ = some (.int .u64 (en : Int)) ∧ w3.cell? ⟨p, 0, none⟩ = some (.int .u64 (ep : Int)) := ⟨(unCell hU3).2.1, (hbw.cell hpl).trans hep⟩
  have HU3 : Hid _ := hU3
  have HA3 : Hid _ := hA3
  have HBW : Hid _ := hbw
  clear hb3 hb3' hA3 hU3 hbw a0 a1 a2 a3 a4 a5 a6 a7 a8 hep
  go_wp2
  refine wp_region_noPanic ?_
  refine wp_region_held_drew (S := (fun u => u.cell? ⟨P, 1, none⟩ = some (.int .u64 (en : Int)) ∧ u.cell? ⟨p, 0, none⟩ = some (.int .u64 (ep : Int)))) (by kernel_rfl) (by first | exact hS5 | assumption) (fun hHeld => ?_)
  refine tz (i := 0) 23 rfl rfl hHeld ?_
  simp only [pS]
  refine tz (i := 1) 24 rfl rfl hHeld ?_
  simp only [pS]
  refine tz (i := 2) 25 rfl rfl hHeld ?_
  simp only [pS]
  refine tz (i := 3) 26 rfl rfl hHeld ?_
  simp only [pS]
  refine tz (i := 4) 27 rfl rfl hHeld ?_
  simp only [pS]
  refine tz (i := 5) 28 rfl rfl hHeld ?_
  simp only [pS]
  refine tz (i := 6) 29 rfl rfl hHeld ?_
  simp only [pS]
  refine wpAnyH_done (by kernel_rfl) ?_ _
  refine NoPanic.normal ?_
  obtain ⟨b0, b1, b2, b3, b4, b5, b6, b7, b8⟩ := unCell HU3.out
  have HH : Hid (Calls _ _ _ w3.drew _) := ihear_t (Ibx.below (w' := w3.drew) HI.out HBW.out.drew) en HE6.out
  go_wp2_with fail
  refine Calls.mono HH.out ?_
  rintro e' w4 ⟨rfl, E', G', hI4, hft, hc4⟩
  have hlt3 : ∀ b, footI none p m1 m2 E b → b < P := fun b hb => by rw [HP.out]; exact Ibx.lt HI.out hb
  have hU4 : w4.heap[P]? = some (.cells (unC 1 (en : Int) (sn : Int) pa i (cn : Int) da dn dc cd ga gn gc) tUn (0, 0)) := (hc4.block P (Array.getElem?_eq_some_iff.1 HU3.out).1 (fun h9 => by have := hlt3 P (h9.imp id (fun h8 => h8.imp id .inl)); omega)).trans HU3.out
  have hA4 : w4.heap[P + 1]? = some (.cells #[.int .i64 0, .int .i64 0, .slice none 0 0, .slice none 0 0] 44 (0, 0)) := (hc4.block (P + 1) (Array.getElem?_eq_some_iff.1 HA3.out).1 (fun h9 => by have := hlt3 (P + 1) (h9.imp id (fun h8 => h8.imp id .inl)); omega)).trans HA3.out
  have hl4 : P + 1 < w4.heap.size := (Array.getElem?_eq_some_iff.1 hA4).1
  obtain ⟨Q, hQ⟩ : ∃ Q, Q = w4.heap.size := ⟨_, rfl⟩
  obtain ⟨w5, hw5⟩ : ∃ w5, w5 = w4.alloc (.cells #[.int .u64 (en : Int), .int .u64 (sn : Int)] tSs) := ⟨_, rfl⟩
  have hb5 : Below w4.heap.size w4 w5 := by rw [hw5]; exact al (Below.refl _ _) _
  have hT5 : TkF w5 P Q (unC 1 (en : Int) (sn : Int) pa i (cn : Int) da dn dc cd ga gn gc) (en, sn) := ⟨(hb5.block P (by omega)).trans hU4, (hb5.block (P + 1) (by omega)).trans hA4, by rw [hw5, hQ]; exact heap_alloc_new w4 _, by omega⟩
  have hI5 := hI4.below hb5
  have hch5 : Chg (footI none p m1 m2 E) w w5 := ((Chg.of_below HBW.out.drew).trans hc4 (fun b hb => .inl (hb.imp id (fun h8 => h8.imp id .inl)))).trans (Chg.of_below (F := fun _ => False) hb5) (fun _ h9 => h9.elim)
  have HT5 : Hid _ := hT5
  have HI5 : Hid _ := hI5
  have HCH5 : Hid _ := hch5
  have HFT : Hid _ := hft
  have HLT3 : Hid _ := hlt3
  have HW5 : Hid (w5 = _) := hw5
  have HQ : Hid (Q = w4.heap.size) := hQ
  obtain ⟨g0, g1, g2, g3, g4, g5, g6, g7, g8⟩ := unCell hU4
  have hlkG : lk G' (en, sn) = none := by
    have h9 := hH
    rw [hI4.eH, lk_mp] at h9
    exact Option.map_eq_none_iff.1 h9
  have HGET : Hid (Calls _ _ _ w5.drew _) := getI_no (o := 4) (p := p) ((hI5.below (w' := w5.drew) (Below.refl _ _).drew).cell.2.2.2.2.2.2) (hI5.below (w' := w5.drew) (Below.refl _ _).drew).r2 HSS.out hlkG
  have hk5 := hT5.k0
  clear hI4 hft hc4 hlt3 hU4 hA4 hw5 hQ hb5 hT5 hI5 hch5 b0 b1 b2 b3 b4 b5 b6 b7 b8 hS5
  go_wp2
  rw [← HW5.out, ← HQ.out]
  refine wp_region_noPanic ?_
  refine wp_region_held_drew (S := (fun u => u.cell? ⟨Q, 0, none⟩ = some (.int .u64 (en : Int)) ∧ u.cell? ⟨Q, 1, none⟩ = some (.int .u64 (sn : Int)))) (by kernel_rfl) (by first | exact hk5 | exact HK6.out | assumption) (fun hHeld => ?_)
  refine tz (i := 0) 41 rfl rfl hHeld ?_
  simp only [pS]
  refine tz (i := 1) 42 rfl rfl hHeld ?_
  simp only [pS]
  refine tz (i := 2) 43 rfl rfl hHeld ?_
  simp only [pS]
  refine tz (i := 3) 44 rfl rfl hHeld ?_
  simp only [pS]
  refine run_at (i := 4) rfl (by kernel_rfl) (by rfl) (fun K hK => ?_)
  simp only [List.getElem_toArray, List.getElem_cons_zero, List.getElem_cons_succ]
  go_simp
  (go_at_call 36; refine Calls.mono HGET.out ?_; rintro e' w6 ⟨rfl, hb6⟩; have HB6 : Hid (Below w5.heap.size w5 w6) := ((Below.refl w5.heap.size w5).drew).trans hb6; have HT6 : Hid (TkF w6 P Q (unC 1 (en : Int) (sn : Int) pa i (cn : Int) da dn dc cd ga gn gc) (en, sn)) := HT5.out.below HB6.out; have HK6 : Hid (w6.cell? ⟨Q, 0, none⟩ = some (.int .u64 (en : Int)) ∧ w6.cell? ⟨Q, 1, none⟩ = some (.int .u64 (sn : Int))) := HT6.out.k0; clear hb6)
  go_wp2_with fail
  refine hK.out _ _ (by first | exact hk5 | exact HK6.out | assumption) ?_
  clear hK K
  intro hHeld2
  clear hHeld
  have hHeld := hHeld2
  clear hHeld2
  try simp only [pS]
  refine tz (i := 5) 40 rfl rfl hHeld ?_
  simp only [pS]
  refine tz (i := 6) 46 rfl rfl hHeld ?_
  simp only [pS]
  refine tz (i := 7) 47 rfl rfl hHeld ?_
  simp only [pS]
  refine tz (i := 8) 6 rfl rfl hHeld ?_
  simp only [pS]
  refine tz (i := 9) 7 rfl rfl hHeld ?_
  simp only [pS]
  refine wpAnyH_done (by kernel_rfl) ?_ _
  refine NoPanic.normal ?_
  have HI6 : Hid _ := HI5.out.below HB6.out
  have hk6 := HK6.out
  have HCH6 : Hid (Chg (footI none p m1 m2 E) w w6) := HCH5.out.trans (Chg.of_below (F := fun _ => False) HB6.out) (fun _ h9 => h9.elim)
  have HX6 : Hid (Rd w6 da xs) := Rd.chg HX.out HCH6.out HXF.out
  obtain ⟨u0, u1, u2, u3, u4, u5, u6, u7, u8⟩ := unCell HT6.out.un
  have hlkE : lk E' (en, sn) = none := by
    have h9 := hO
    rw [HI6.out.eO, lk_mp] at h9
    exact Option.map_eq_none_iff.1 h9
  have HBWC : Hid (Calls _ _ _ w6 _) := bw_new HI6.out (en, sn) HSS.out 1 (en : Int) (sn : Int) pa i cn da dn dc cd ga gn gc hlkE (by have := HD.out.2.2.2.2.2.1; have := HD.out.2.2.2.2.1; omega) (by have := HD.out.2.2.2.2.2.1; omega) xs HN.out HX6.out HNL.out (by have := HD.out.2.2.2.2.2.2.1; omega)
  rw [hok] at HBWC
  go_wp2_with fail
  refine Calls.mono HBWC.out ?_
  rintro e' w7 ⟨q, F', rfl, hB7, hF7, hb7⟩
  have HT7 : Hid (TkF w7 P Q (unC 1 (en : Int) (sn : Int) pa i (cn : Int) da dn dc cd ga gn gc) (en, sn)) := HT6.out.below hb7
  have hch7 : Chg (footI none p m1 m2 E) w w7 := HCH6.out.trans (Chg.of_below (F := fun _ => False) hb7) (fun _ h9 => h9.elim)
  have HP6 : Hid (P + 1 < w6.heap.size) := (Array.getElem?_eq_some_iff.1 HT6.out.an).1
  have hI7 : Ibx (some (en, sn)) w7 p m1 m2 T1 T2 (riseI I en) E' G' := (HI6.out.below hb7).apart (en, sn)
  have hl6 : ∀ c, footI none p m1 m2 E' c → c < w6.heap.size := fun c h9 => HI6.out.lt h9
  have hFo : ∀ x, x ∈ E' → x.1 ≠ (en, sn) → ∀ c, x.2.F c → F' c → False := fun x hx hn c h1 h2 => by
    have h3 := hF7 c h2
    have := hl6 c (.inr (.inr (.inr ⟨x, hx, by simp, h1⟩)))
    omega
  have hFn : ∀ c, F' c → c ≠ p ∧ c ≠ m1 ∧ c ≠ m2 := fun c h2 => by
    have h3 := hF7 c h2
    have h4 := hl6 p (.inl rfl); have h5 := hl6 m1 (.inr (.inl rfl)); have h6 := hl6 m2 (.inr (.inr (.inl rfl))); omega
  have HI7 : Hid _ := hI7
  have HB7 : Hid (PBx w7 (some ⟨q, 0, none⟩) (some (putL (List.replicate cn []) i xs)) F') := hB7
  have HPUT : Hid (Calls _ _ _ w7.drew _) := putB_t (w := w7.drew) (o := 1) (p := p) tIb _ (HI7.out.below (w' := w7.drew) (Below.refl _ _).drew).hp (riseI I en).mo rfl rfl rfl (HI7.out.below (w' := w7.drew) (Below.refl _ _).drew).r1 HSS.out q hT HI7.out.ok.o0 (by have := HI7.out.ok.o1; omega) (by rw [len_mp]; exact HI7.out.lenE)
  have hk7 := HT7.out.k0
  have HFO : Hid _ := hFo
  have HFN : Hid _ := hFn
  have HF7 : Hid _ := hF7
  have HCH7 : Hid _ := hch7
  have HOP : Hid (∀ u, RowM u m1 (T1 + 1) (mp fB (pt (riseI I en).mo (mp Bg.qt E') (en, sn) (q, T1 + 1))) → u.heap[p]? = some (.cells ((ibC (riseI I en) T1 T2 m1 m2).setIfInBounds 2 (.int .u64 ((T1 + 1 : Nat) : Int))) tIb (0, 0)) → Chg (fun b => b = p ∨ b = m1) w7 u → Ibx none u p m1 m2 (T1 + 1) T2 { riseI I en with O := pt (riseI I en).mo (riseI I en).O (en, sn) (putL (List.replicate cn []) i xs) } (pt (riseI I en).mo E' (en, sn) ⟨q, T1 + 1, putL (List.replicate cn []) i xs, F'⟩) G') := fun u h1 h2 h3 => Ibx.opn HI7.out HEP2.out.symm (lk_none.1 hH) HB7.out HFO.out HFN.out h1 h2 h3
  clear hI7 hB7 hFo hFn hF7 hch7 hl6 hb7
  clear hk6 u0 u1 u2 u3 u4 u5 u6 u7 u8
  go_wp2
  refine wp_region_noPanic ?_
  refine wp_region_held_drew (S := (fun u => u.cell? ⟨Q, 0, none⟩ = some (.int .u64 (en : Int)) ∧ u.cell? ⟨Q, 1, none⟩ = some (.int .u64 (sn : Int)))) (by kernel_rfl) (by first | exact hk7 | exact HT8.out.k0 | assumption) (fun hHeld => ?_)
  refine tz (i := 0) 67 rfl rfl hHeld ?_
  simp only [pS]
  refine tz (i := 1) 68 rfl rfl hHeld ?_
  simp only [pS]
  refine tz (i := 2) 69 rfl rfl hHeld ?_
  simp only [pS]
  refine tz (i := 3) 70 rfl rfl hHeld ?_
  simp only [pS]
  refine tz (i := 4) 71 rfl rfl hHeld ?_
  simp only [pS]
  refine run_at (i := 5) rfl (by kernel_rfl) (by rfl) (fun K hK => ?_)
  simp only [List.getElem_toArray, List.getElem_cons_zero, List.getElem_cons_succ]
  go_simp
  (go_at_call 39; refine Calls.mono HPUT.out ?_; rintro e' w8 ⟨rfl, hr8, hp8, hc8⟩; have HC8 : Hid (Chg (fun b => b = p ∨ b = m1) w7 w8) := ((Chg.refl (fun b => b = p ∨ b = m1) w7).drew).trans hc8 (fun b hb => .inl hb); have HT8 : Hid (TkF w8 P Q (unC 1 (en : Int) (sn : Int) pa i (cn : Int) da dn dc cd ga gn gc) (en, sn)) := HT7.out.chg HC8.out (fun b hb => HLT3.out b (HFT.out b (hb.elim .inl (fun h9 => .inr (.inl h9))))); have HI8 : Hid _ := HOP.out w8 hr8 hp8 HC8.out; clear hr8 hp8 hc8)
  go_wp2_with fail
  refine hK.out _ _ (by first | exact hk7 | exact HT8.out.k0 | assumption) ?_
  clear hK K
  intro hHeld2
  clear hHeld
  have hHeld := hHeld2
  clear hHeld2
  try simp only [pS]
  refine wpAnyH_done (by kernel_rfl) ?_ _
  refine NoPanic.normal ?_
  have hB8 : PBx w8 (some ⟨q, 0, none⟩) (some (putL (List.replicate cn []) i xs)) F' := HI8.out.bx ((en, sn), ⟨q, T1 + 1, putL (List.replicate cn []) i xs, F'⟩) (by rw [pt_eq]; simp) (by simp)
  have HTL : Hid (Calls _ _ _ w8 _) := told_t hB8
  have HCH8 : Hid (Chg (footI none p m1 m2 E) w w8) := HCH7.out.trans HC8.out (fun b hb => .inl (HFT.out b (hb.elim .inl (fun h9 => .inr (.inl h9)))))
  clear hB8 hk7
  go_wp2_with fail
  refine Calls.mono HTL.out ?_
  rintro e' w9 ⟨⟨ga9, ba9, gn9, gc9, bn9, bc9, rs9, xs9, rfl, hA9⟩, hb9⟩
  have HT9 : Hid _ := HT8.out.below hb9
  obtain ⟨c0, c1, c2, c3, f0, f1, f2, f3⟩ := ansCell HT9.out.an
  have HA9 : Hid (AnsAt w9 w8.heap.size (tellA (putL (List.replicate cn []) i xs)) ga9 ba9 gn9 gc9 bn9 bc9 rs9 xs9) := hA9
  obtain ⟨st9, hst9⟩ : ∃ st9, st9 = (tellA (putL (List.replicate cn []) i xs)).st := ⟨_, rfl⟩
  obtain ⟨cd9, hcd9⟩ : ∃ cd9, cd9 = (tellA (putL (List.replicate cn []) i xs)).cd := ⟨_, rfl⟩
  unfold ansV
  rw [← hst9, ← hcd9]
  have HST9 : Hid _ := hst9
  have HCD9 : Hid _ := hcd9
  have HB9 : Hid _ := hb9
  clear hA9 hst9 hcd9 hb9
  go_wp2
  have hPw := HP.out
  have hI9 := HI8.out.below HB9.out
  have hch9 : Chg (footI none p m1 m2 E) w w9 := HCH8.out.trans (Chg.of_below (F := fun _ => False) HB9.out) (fun _ h9 => h9.elim)
  have hF9 : ∀ c, footI none p m1 m2 (pt (riseI I en).mo E' (en, sn) ⟨q, T1 + 1, putL (List.replicate cn []) i xs, F'⟩) c → footI none p m1 m2 E c ∨ w6.heap.size ≤ c := fun c h9 => by
    rcases h9 with h9 | h9 | h9 | ⟨x, hx, -, h9⟩
    · exact .inl (.inl h9)
    · exact .inl (.inr (.inl h9))
    · exact .inl (.inr (.inr (.inl h9)))
    · rcases mem_pt hx with h1 | rfl
      · exact .inl (HFT.out c (.inr (.inr (.inr ⟨x, pf_mem h1, by simp, h9⟩))))
      · exact .inr (HF7.out c h9)
  have hST : Chg (fun b => b = P + 1) w9 ((((w9.setCell ⟨P + 1, 0, none⟩ (.int .i64 st9)).setCell ⟨P + 1, 1, none⟩ (.int .i64 cd9)).setCell ⟨P + 1, 2, none⟩ (.slice ga9 gn9 gc9)).setCell ⟨P + 1, 3, none⟩ (.slice ba9 bn9 bc9)) := Chg.of_grown ((((gset1 w9 (P + 1) 0 _).trans' (gset1 _ (P + 1) 1 _)).trans' (gset1 _ (P + 1) 2 _)).trans' (gset1 _ (P + 1) 3 _)) (fun b e => (Option.some.inj e).symm)
  have hPE : ∀ b9, footI none p m1 m2 (pt (riseI I en).mo E' (en, sn) ⟨q, T1 + 1, putL (List.replicate cn []) i xs, F'⟩) b9 → b9 ≠ P + 1 := fun b hb e => by have := HP6.out; rcases hF9 b hb with h9 | h9 <;> first | omega | (have := HLT3.out b h9; omega)
  have hIE := hI9.chg hST hPE
  have hl8 : P + 1 < w8.heap.size := (Array.getElem?_eq_some_iff.1 HT8.out.an).1
  exact bodyPost_ret (v := .agg #[.int .i64 st9, .int .i64 cd9, .slice ga9 gn9 gc9, .slice ba9 bn9 bc9]) (by simp [results, Tryz.results15, go_sem, c0, c1, c2, c3, f0, f1, f2, f3]) rfl ⟨T1 + 1, T2, _, _, w8.heap.size, ga9, ba9, gn9, gc9, bn9, bc9, rs9, xs9, by rw [HST9.out, HCD9.out], HA9.out.chg hST (fun b hb => by omega), hIE, Nat.le_refl _, Nat.le_succ _, hch9.trans hST (fun b hb => .inr (by omega)), fun b hb => ⟨(hF9 b hb).imp id (fun h9 => Nat.le_trans HCH6.out.size h9), HI8.out.lt hb⟩, HCH8.out.size⟩
end
end Go.Proofs.YtdoikcolkbjnfaaGreat
namespace Go.Proofs.YtdoikcolkbjnfaaGreat
set_option linter.unusedVariables false
set_option linter.unusedSimpArgs false
open Go.RowKit Go.Maps
def numBI (n : Nat) : Bool := decide (1 ≤ n ∧ n ≤ 281474976710655)
/-- what a Decide answers -/
def decE (I : Ib) (s : Ss) (c : Int) : Int := if ¬ (1 ≤ c ∧ c ≤ 7) ∨ numBI s.1 = false ∨ numBI s.2 = false then 1 else if s.1 < I.ep then 83 else if s ∈ ks I.H then 3 else 0
/-- what it leaves -/
def decI (I : Ib) (s : Ss) (c : Int) : Ib := if decE I s c = 0 then { riseI I s.1 with O := rm (riseI I s.1).O s, H := pt (riseI I s.1).ms (riseI I s.1).H s c } else I
def dropI (I : Ib) (s : Ss) : Ib := { I with O := rm I.O s }
/-- what a Decide or a Drop leaves -/
def DcPost (w : World) (p m1 m2 T1 T2 : Nat) (E : List (Ss × Bg)) (I' : Ib) (w' : World) : Prop :=
  ∃ T2' E' G', Ibx none w' p m1 m2 T1 T2' I' E' G' ∧ T2' ≤ T2 + 1 ∧ Chg (footI none p m1 m2 E) w w' ∧ ∀ b, footI none p m1 m2 E' b → footI none p m1 m2 E b
section
variable {w w' : World} {p m1 m2 T1 T2 : Nat} {I : Ib} {E : List (Ss × Bg)} {G : List (Ss × (Int × Nat))}
theorem DcPost.same (h : Ibx none w p m1 m2 T1 T2 I E G) (hb : Below w.heap.size w w') : DcPost w p m1 m2 T1 T2 E I w' := ⟨T2, E, G, h.below hb, Nat.le_succ _, Chg.of_below hb, fun b hb => hb⟩
set_option maxRecDepth 20000
set_option maxHeartbeats 3200000
theorem isnum_t (n : Nat) (w : World) : Calls Tryz.prog 56 #[.int .u64 (n : Int)] w fun e w' => e = .returned (.bool (numBI n)) ∧ w' = w := by
  by_cases h1 : 1 ≤ n
  · have h1i : (1 : Int) ≤ (n : Int) := by omega
    by_cases h2 : n ≤ 281474976710655
    · have h2i : (n : Int) ≤ 281474976710655 := by omega
      have HD : Hid (numBI n = true) := by unfold Hid numBI; simp [h1, h2]
      go_enter Tryz.func56, Tryz.ntmps56
      go_wp2
      go_ret
      rw [HD.out]
      exact ⟨by simp [h2], rfl⟩
    · have h2i : ¬ (n : Int) ≤ 281474976710655 := by omega
      have HD : Hid (numBI n = false) := by unfold Hid numBI; simp [h2]
      go_enter Tryz.func56, Tryz.ntmps56
      go_wp2
      go_ret
      rw [HD.out]
      exact ⟨by simp [h2], rfl⟩
  · have h1i : ¬ (1 : Int) ≤ (n : Int) := by omega
    have HD : Hid (numBI n = false) := by unfold Hid numBI; simp [h1]
    go_enter Tryz.func56, Tryz.ntmps56
    go_wp2
    go_ret
    rw [HD.out]
    exact ⟨by simp, rfl⟩
theorem idrop_t (h : Ibx none w p m1 m2 T1 T2 I E G) (s : Ss) (hs : inS s) :
    Calls Tryz.prog 46 #[.pointer (some ⟨p, 0, none⟩), sv s] w fun e w' => e = .returned (.bool (decide (s ∈ ks I.O))) ∧ DcPost w p m1 m2 T1 T2 E (dropI I s) w' := by
  obtain ⟨w1, hw1⟩ : ∃ w1, w1 = w.alloc (.cells #[.int .u64 (s.1 : Int), .int .u64 (s.2 : Int)] tSs) := ⟨_, rfl⟩
  have hb1 : Below w.heap.size w w1 := by rw [hw1]; exact al (Below.refl _ _) _
  have hI1 := h.below hb1
  have hI9 := hI1.below (w' := w1.drew) (Below.refl _ _).drew
  have HM : Hid _ := imade_t hI9
  obtain ⟨P, hP⟩ : ∃ P, P = w.heap.size := ⟨_, rfl⟩
  have hky : w1.heap[P]? = some (.cells #[.int .u64 (s.1 : Int), .int .u64 (s.2 : Int)] tSs (0, 0)) := by rw [hw1, hP]; exact heap_alloc_new w _
  have hkc : w1.cell? ⟨P, 0, none⟩ = some (.int .u64 (s.1 : Int)) ∧ w1.cell? ⟨P, 1, none⟩ = some (.int .u64 (s.2 : Int)) := ⟨by rw [cell_of_row _ _ _ _ _ _ hky]; rfl, by rw [cell_of_row _ _ _ _ _ _ hky]; rfl⟩
  have HDR : Hid (Calls Tryz.prog 57 #[.pointer (some ⟨p, 1, none⟩), sv s] w1.drew fun e w' => e = .returned (.bool (decide (s ∈ ks I.O))) ∧ RowM w' m1 T1 (mp fB (rm (mp Bg.qt E) s)) ∧ Chg (fun b => b = m1) w1.drew w') := by
    have hkk : ks (mp Bg.qt E) = ks I.O := by rw [ks_mp, h.ksO]
    cases h9 : lk (mp Bg.qt E) s with
    | none =>
      rw [decide_eq_false (by rw [← hkk]; exact lk_none.1 h9)]
      exact drop_no (o := 1) hI9.hp rfl hI9.r1 hs h9
    | some a =>
      rw [decide_eq_true (by rw [← hkk]; exact mem_ks (lk_mem h9))]
      exact drop_in (o := 1) hI9.hp rfl hI9.r1 hs (c := a.1) (t := a.2) h9
  obtain ⟨bl, hbl⟩ : ∃ bl, bl = decide (s ∈ ks I.O) := ⟨_, rfl⟩
  rw [← hbl] at HDR ⊢
  have HI : Hid _ := h
  have HI1 : Hid _ := hI1
  have HB1 : Hid _ := hb1
  have HKY : Hid _ := hky
  have HW1 : Hid (w1 = _) := hw1
  have HP : Hid _ := hP
  have HLP : Hid (m1 < P) := by unfold Hid; rw [hP]; exact h.lt (.inr (.inl rfl))
  clear h hI1 hI9 hky hb1 hw1 hP hbl
  go_enter Tryz.func46, Tryz.ntmps46
  go_wp2
  rw [← HW1.out, ← HP.out]
  refine wp_region_noPanic ?_
  refine wp_region_held_drew (S := (fun u => u.cell? ⟨P, 0, none⟩ = some (.int .u64 (s.1 : Int)) ∧ u.cell? ⟨P, 1, none⟩ = some (.int .u64 (s.2 : Int)))) (by kernel_rfl) (by first | exact hkc | exact HK4.out | assumption) (fun hHeld => ?_)
  refine tz (i := 0) 5 rfl rfl hHeld ?_
  simp only [pS]
  refine run_at (i := 1) rfl (by kernel_rfl) (by rfl) (fun K hK => ?_)
  simp only [List.getElem_toArray, List.getElem_cons_zero, List.getElem_cons_succ]
  go_simp
  first | (go_at_call 33; refine Calls.mono HM.out ?_; rintro e w' ⟨rfl, hq⟩; have hq := hq.symm; subst hq) | (go_at_call 57; refine Calls.mono HDR.out ?_; rintro e w4 ⟨rfl, hr4, hc4⟩; have HC4 : Hid (Chg (fun b => b = m1) w1 w4) := ((Chg.refl (fun b => b = m1) w1).drew).trans hc4 (fun b hb => .inl hb); have HKY4 : Hid (w4.heap[P]? = _) := (HC4.out.block P (Array.getElem?_eq_some_iff.1 HKY.out).1 (fun h9 => by have := HLP.out; omega)).trans HKY.out; have HK4 : Hid (w4.cell? ⟨P, 0, none⟩ = some (.int .u64 (s.1 : Int)) ∧ w4.cell? ⟨P, 1, none⟩ = some (.int .u64 (s.2 : Int))) := ⟨(by rw [cell_of_row _ _ _ _ _ _ HKY4.out]; rfl), (by rw [cell_of_row _ _ _ _ _ _ HKY4.out]; rfl)⟩; have HI4 : Hid _ := Ibx.rm HI1.out s hr4 HC4.out; clear hr4 hc4)
  go_wp2_with fail
  refine hK.out _ _ (by first | exact hkc | exact HK4.out | assumption) ?_
  clear hK K
  intro hHeld2
  clear hHeld
  have hHeld := hHeld2
  clear hHeld2
  try simp only [pS]
  refine tz (i := 2) 7 rfl rfl hHeld ?_
  simp only [pS]
  refine tz (i := 3) 8 rfl rfl hHeld ?_
  simp only [pS]
  refine tz (i := 4) 9 rfl rfl hHeld ?_
  simp only [pS]
  refine tz (i := 5) 10 rfl rfl hHeld ?_
  simp only [pS]
  refine tz (i := 6) 11 rfl rfl hHeld ?_
  simp only [pS]
  refine run_at (i := 7) rfl (by kernel_rfl) (by rfl) (fun K hK => ?_)
  simp only [List.getElem_toArray, List.getElem_cons_zero, List.getElem_cons_succ]
  go_simp
  first | (go_at_call 33; refine Calls.mono HM.out ?_; rintro e w' ⟨rfl, hq⟩; have hq := hq.symm; subst hq) | (go_at_call 57; refine Calls.mono HDR.out ?_; rintro e w4 ⟨rfl, hr4, hc4⟩; have HC4 : Hid (Chg (fun b => b = m1) w1 w4) := ((Chg.refl (fun b => b = m1) w1).drew).trans hc4 (fun b hb => .inl hb); have HKY4 : Hid (w4.heap[P]? = _) := (HC4.out.block P (Array.getElem?_eq_some_iff.1 HKY.out).1 (fun h9 => by have := HLP.out; omega)).trans HKY.out; have HK4 : Hid (w4.cell? ⟨P, 0, none⟩ = some (.int .u64 (s.1 : Int)) ∧ w4.cell? ⟨P, 1, none⟩ = some (.int .u64 (s.2 : Int))) := ⟨(by rw [cell_of_row _ _ _ _ _ _ HKY4.out]; rfl), (by rw [cell_of_row _ _ _ _ _ _ HKY4.out]; rfl)⟩; have HI4 : Hid _ := Ibx.rm HI1.out s hr4 HC4.out; clear hr4 hc4)
  go_wp2_with fail
  refine hK.out _ _ (by first | exact hkc | exact HK4.out | assumption) ?_
  clear hK K
  intro hHeld2
  clear hHeld
  have hHeld := hHeld2
  clear hHeld2
  try simp only [pS]
  refine tz (i := 8) 13 rfl rfl hHeld ?_
  simp only [pS]
  refine tz (i := 9) 4 rfl rfl hHeld ?_
  simp only [pS]
  refine wpAnyH_done (by kernel_rfl) ?_ _
  refine NoPanic.normal ?_
  go_wp2
  go_ret
  refine ⟨rfl, T2, _, _, HI4.out, Nat.le_succ _, (Chg.of_below HB1.out).trans HC4.out (fun b hb => .inl (.inr (.inl hb))), fun b hb => ?_⟩
  rcases hb with hb | hb | hb | ⟨x, hx, ho, hb⟩
  · exact .inl hb
  · exact .inr (.inl hb)
  · exact .inr (.inr (.inl hb))
  · exact .inr (.inr (.inr ⟨x, (mem_rm.1 hx).1, ho, hb⟩))
theorem dec_lo (h : Ibx none w p m1 m2 T1 T2 I E G) (s : Ss) (c : Int) (hc : c < 1) :
    Calls Tryz.prog 29 #[.pointer (some ⟨p, 0, none⟩), sv s, .int .i64 c] w fun e w' => e = .returned (.int .i64 1) ∧ Below w.heap.size w w' := by
  have HM : Hid _ := imade_t (h.below (al (Below.refl w.heap.size w) (.cells #[.int .u64 (s.1 : Int), .int .u64 (s.2 : Int)] tSs)))
  clear h
  go_enter Tryz.func29, Tryz.ntmps29
  go_wp2_with (first | (go_at_call 33; refine Calls.mono HM.out ?_; rintro e w' ⟨rfl, hq⟩; have hq := hq.symm; subst hq) | (go_at_call 56; refine Calls.mono (isnum_t _ _) ?_; rintro e w' ⟨rfl, hq⟩; have hq := hq.symm; subst hq; skip))
  go_ret
  exact ⟨rfl, al (Below.refl _ _) _⟩
theorem dec_hi (h : Ibx none w p m1 m2 T1 T2 I E G) (s : Ss) (c : Int) (hc : 7 < c) :
    Calls Tryz.prog 29 #[.pointer (some ⟨p, 0, none⟩), sv s, .int .i64 c] w fun e w' => e = .returned (.int .i64 1) ∧ Below w.heap.size w w' := by
  have HM : Hid _ := imade_t (h.below (al (Below.refl w.heap.size w) (.cells #[.int .u64 (s.1 : Int), .int .u64 (s.2 : Int)] tSs)))
  clear h
  have hc1 : ¬ c < 1 := by omega
  go_enter Tryz.func29, Tryz.ntmps29
  go_wp2_with (first | (go_at_call 33; refine Calls.mono HM.out ?_; rintro e w' ⟨rfl, hq⟩; have hq := hq.symm; subst hq) | (go_at_call 56; refine Calls.mono (isnum_t _ _) ?_; rintro e w' ⟨rfl, hq⟩; have hq := hq.symm; subst hq; skip))
  go_ret
  exact ⟨rfl, al (Below.refl _ _) _⟩
theorem dec_ep (h : Ibx none w p m1 m2 T1 T2 I E G) (s : Ss) (c : Int) (h0 : 1 ≤ c) (hc : c ≤ 7) (hn : numBI s.1 = false) :
    Calls Tryz.prog 29 #[.pointer (some ⟨p, 0, none⟩), sv s, .int .i64 c] w fun e w' => e = .returned (.int .i64 1) ∧ Below w.heap.size w w' := by
  have HM : Hid _ := imade_t (h.below (al (Below.refl w.heap.size w) (.cells #[.int .u64 (s.1 : Int), .int .u64 (s.2 : Int)] tSs)))
  clear h
  have hc1 : ¬ c < 1 := by omega
  have hc2 : ¬ 7 < c := by omega
  go_enter Tryz.func29, Tryz.ntmps29
  go_wp2_with (first | (go_at_call 33; refine Calls.mono HM.out ?_; rintro e w' ⟨rfl, hq⟩; have hq := hq.symm; subst hq) | (go_at_call 56; refine Calls.mono (isnum_t _ _) ?_; rintro e w' ⟨rfl, hq⟩; have hq := hq.symm; subst hq; rw [hn]))
  go_ret
  exact ⟨rfl, al (Below.refl _ _) _⟩
theorem dec_nu (h : Ibx none w p m1 m2 T1 T2 I E G) (s : Ss) (c : Int) (h0 : 1 ≤ c) (hc : c ≤ 7) (hn : numBI s.1 = true) (hn2 : numBI s.2 = false) :
    Calls Tryz.prog 29 #[.pointer (some ⟨p, 0, none⟩), sv s, .int .i64 c] w fun e w' => e = .returned (.int .i64 1) ∧ Below w.heap.size w w' := by
  have HM : Hid _ := imade_t (h.below (al (Below.refl w.heap.size w) (.cells #[.int .u64 (s.1 : Int), .int .u64 (s.2 : Int)] tSs)))
  clear h
  have hc1 : ¬ c < 1 := by omega
  have hc2 : ¬ 7 < c := by omega
  go_enter Tryz.func29, Tryz.ntmps29
  go_wp2_with (first | (go_at_call 33; refine Calls.mono HM.out ?_; rintro e w' ⟨rfl, hq⟩; have hq := hq.symm; subst hq) | (go_at_call 56; refine Calls.mono (isnum_t _ _) ?_; rintro e w' ⟨rfl, hq⟩; have hq := hq.symm; subst hq; first | rw [hn] | rw [hn2]))
  go_ret
  exact ⟨rfl, al (Below.refl _ _) _⟩
theorem dec_old (h : Ibx none w p m1 m2 T1 T2 I E G) (s : Ss) (c : Int) (h0 : 1 ≤ c) (hc : c ≤ 7) (hn : numBI s.1 = true) (hn2 : numBI s.2 = true) (he : s.1 < I.ep) :
    Calls Tryz.prog 29 #[.pointer (some ⟨p, 0, none⟩), sv s, .int .i64 c] w fun e w' => e = .returned (.int .i64 83) ∧ Below w.heap.size w w' := by
  obtain ⟨w1, hw1⟩ : ∃ w1, w1 = w.alloc (.cells #[.int .u64 (s.1 : Int), .int .u64 (s.2 : Int)] tSs) := ⟨_, rfl⟩
  have hb1 : Below w.heap.size w w1 := by rw [hw1]; exact al (Below.refl _ _) _
  have hI1 := h.below hb1
  have HM : Hid _ := imade_t hI1
  obtain ⟨P, hP⟩ : ∃ P, P = w.heap.size := ⟨_, rfl⟩
  have hky : w1.heap[P]? = some (.cells #[.int .u64 (s.1 : Int), .int .u64 (s.2 : Int)] tSs (0, 0)) := by rw [hw1, hP]; exact heap_alloc_new w _
  have hkc : w1.cell? ⟨P, 0, none⟩ = some (.int .u64 (s.1 : Int)) ∧ w1.cell? ⟨P, 1, none⟩ = some (.int .u64 (s.2 : Int)) := ⟨by rw [cell_of_row _ _ _ _ _ _ hky]; rfl, by rw [cell_of_row _ _ _ _ _ _ hky]; rfl⟩
  have hep := hI1.cell.1
  obtain ⟨ep, hep2⟩ : ∃ ep, ep = I.ep := ⟨_, rfl⟩
  rw [← hep2] at hep
  have hS3 : w1.cell? ⟨P, 0, none⟩ = some (.int .u64 (s.1 : Int)) ∧ w1.cell? ⟨P, 1, none⟩ = some (.int .u64 (s.2 : Int)) ∧ w1.cell? ⟨p, 0, none⟩ = some (.int .u64 (ep : Int)) := ⟨hkc.1, hkc.2, hep⟩
  have HI : Hid _ := h
  have HI1 : Hid _ := hI1
  have HP : Hid _ := hP
  have HKY : Hid _ := hky
  have HB1 : Hid _ := hb1
  have HW1 : Hid (w1 = _) := hw1
  have HEP : Hid _ := hep2
  have hc1 : ¬ c < 1 := by omega
  have hc2 : ¬ 7 < c := by omega
  have hlt : (s.1 : Int) < (ep : Int) := by omega
  clear h hI1 hky hb1 hw1 hP hep2 hep
  go_enter Tryz.func29, Tryz.ntmps29
  go_wp2_with fail
  rw [← HW1.out, ← HP.out]
  refine Calls.mono HM.out ?_
  rintro e w' ⟨rfl, hq⟩
  have hq := hq.symm
  subst hq
  go_wp2_with (go_at_call 56; refine Calls.mono (isnum_t _ _) ?_; rintro e w' ⟨rfl, hq⟩; have hq := hq.symm; subst hq; first | rw [hn] | rw [hn2])
  refine wp_region_noPanic ?_
  refine wp_region_held_drew (S := (fun u => u.cell? ⟨P, 0, none⟩ = some (.int .u64 (s.1 : Int)) ∧ u.cell? ⟨P, 1, none⟩ = some (.int .u64 (s.2 : Int)) ∧ u.cell? ⟨p, 0, none⟩ = some (.int .u64 (ep : Int)))) (by kernel_rfl) (by first | exact hS3 | assumption) (fun hHeld => ?_)
  refine tz (i := 0) 32 rfl rfl hHeld ?_
  simp only [pS]
  refine tz (i := 1) 33 rfl rfl hHeld ?_
  simp only [pS]
  refine tz (i := 2) 34 rfl rfl hHeld ?_
  simp only [pS]
  refine tz (i := 3) 35 rfl rfl hHeld ?_
  simp only [pS]
  refine tz (i := 4) 36 rfl rfl hHeld ?_
  simp only [pS]
  refine tz (i := 5) 37 rfl rfl hHeld ?_
  simp only [pS]
  refine tz (i := 6) 38 rfl rfl hHeld ?_
  simp only [pS]
  refine wpAnyH_done (by kernel_rfl) ?_ _
  refine NoPanic.normal ?_
  go_wp2
  go_ret
  exact ⟨rfl, HB1.out.drew⟩
theorem dec_twice (h : Ibx none w p m1 m2 T1 T2 I E G) (s : Ss) (c : Int) (h0 : 1 ≤ c) (hc : c ≤ 7) (hn : numBI s.1 = true) (hn2 : numBI s.2 = true) (he : I.ep ≤ s.1) (hH : s ∈ ks I.H) :
    Calls Tryz.prog 29 #[.pointer (some ⟨p, 0, none⟩), sv s, .int .i64 c] w fun e w' => e = .returned (.int .i64 3) ∧ Below w.heap.size w w' := by
  obtain ⟨w1, hw1⟩ : ∃ w1, w1 = w.alloc (.cells #[.int .u64 (s.1 : Int), .int .u64 (s.2 : Int)] tSs) := ⟨_, rfl⟩
  have hb1 : Below w.heap.size w w1 := by rw [hw1]; exact al (Below.refl _ _) _
  have hI1 := h.below hb1
  have HM : Hid _ := imade_t hI1
  obtain ⟨P, hP⟩ : ∃ P, P = w.heap.size := ⟨_, rfl⟩
  have hky : w1.heap[P]? = some (.cells #[.int .u64 (s.1 : Int), .int .u64 (s.2 : Int)] tSs (0, 0)) := by rw [hw1, hP]; exact heap_alloc_new w _
  have hkc : w1.cell? ⟨P, 0, none⟩ = some (.int .u64 (s.1 : Int)) ∧ w1.cell? ⟨P, 1, none⟩ = some (.int .u64 (s.2 : Int)) := ⟨by rw [cell_of_row _ _ _ _ _ _ hky]; rfl, by rw [cell_of_row _ _ _ _ _ _ hky]; rfl⟩
  have hep := hI1.cell.1
  obtain ⟨ep, hep2⟩ : ∃ ep, ep = I.ep := ⟨_, rfl⟩
  rw [← hep2] at hep
  have hS3 : w1.cell? ⟨P, 0, none⟩ = some (.int .u64 (s.1 : Int)) ∧ w1.cell? ⟨P, 1, none⟩ = some (.int .u64 (s.2 : Int)) ∧ w1.cell? ⟨p, 0, none⟩ = some (.int .u64 (ep : Int)) := ⟨hkc.1, hkc.2, hep⟩
  have HI : Hid _ := h
  have HI1 : Hid _ := hI1
  have HP : Hid _ := hP
  have HKY : Hid _ := hky
  have HB1 : Hid _ := hb1
  have HW1 : Hid (w1 = _) := hw1
  have HEP : Hid _ := hep2
  have hc1 : ¬ c < 1 := by omega
  have hc2 : ¬ 7 < c := by omega
  have hlt : ¬ (s.1 : Int) < (ep : Int) := by omega
  have HSS : Hid (inS s) := by
    have h1 := hn
    have h2 := hn2
    unfold numBI at h1 h2
    simp only [decide_eq_true_eq] at h1 h2
    exact ⟨by omega, by omega⟩
  obtain ⟨c9, t9, hlk⟩ : ∃ c9 t9, lk G s = some (c9, t9) := by
    cases h9 : lk G s with
    | none => exact absurd hH (by rw [← h.ksH]; exact lk_none.1 h9)
    | some a => exact ⟨a.1, a.2, rfl⟩
  have HGET : Hid (Calls _ _ _ w1.drew.drew _) := getI_in (o := 4) (p := p) ((hI1.below (w' := w1.drew.drew) (Below.refl _ _).drew.drew).cell.2.2.2.2.2.2) (hI1.below (w' := w1.drew.drew) (Below.refl _ _).drew.drew).r2 HSS.out hlk
  clear h hI1 hky hb1 hw1 hP hep2 hep
  go_enter Tryz.func29, Tryz.ntmps29
  go_wp2_with fail
  rw [← HW1.out, ← HP.out]
  refine Calls.mono HM.out ?_
  rintro e w' ⟨rfl, hq⟩
  have hq := hq.symm
  subst hq
  go_wp2_with (go_at_call 56; refine Calls.mono (isnum_t _ _) ?_; rintro e w' ⟨rfl, hq⟩; have hq := hq.symm; subst hq; first | rw [hn] | rw [hn2])
  refine wp_region_noPanic ?_
  refine wp_region_held_drew (S := (fun u => u.cell? ⟨P, 0, none⟩ = some (.int .u64 (s.1 : Int)) ∧ u.cell? ⟨P, 1, none⟩ = some (.int .u64 (s.2 : Int)) ∧ u.cell? ⟨p, 0, none⟩ = some (.int .u64 (ep : Int)))) (by kernel_rfl) (by first | exact hS3 | assumption) (fun hHeld => ?_)
  refine tz (i := 0) 32 rfl rfl hHeld ?_
  simp only [pS]
  refine tz (i := 1) 33 rfl rfl hHeld ?_
  simp only [pS]
  refine tz (i := 2) 34 rfl rfl hHeld ?_
  simp only [pS]
  refine tz (i := 3) 35 rfl rfl hHeld ?_
  simp only [pS]
  refine tz (i := 4) 36 rfl rfl hHeld ?_
  simp only [pS]
  refine tz (i := 5) 37 rfl rfl hHeld ?_
  simp only [pS]
  refine tz (i := 6) 38 rfl rfl hHeld ?_
  simp only [pS]
  refine wpAnyH_done (by kernel_rfl) ?_ _
  refine NoPanic.normal ?_
  go_wp2
  refine wp_region_noPanic ?_
  refine wp_region_held_drew (S := (fun u => u.cell? ⟨P, 0, none⟩ = some (.int .u64 (s.1 : Int)) ∧ u.cell? ⟨P, 1, none⟩ = some (.int .u64 (s.2 : Int)))) (by kernel_rfl) (by first | exact hkc | exact HK2.out | assumption) (fun hHeld => ?_)
  refine tz (i := 0) 40 rfl rfl hHeld ?_
  simp only [pS]
  refine tz (i := 1) 41 rfl rfl hHeld ?_
  simp only [pS]
  refine tz (i := 2) 42 rfl rfl hHeld ?_
  simp only [pS]
  refine tz (i := 3) 43 rfl rfl hHeld ?_
  simp only [pS]
  refine run_at (i := 4) rfl (by kernel_rfl) (by rfl) (fun K hK => ?_)
  simp only [List.getElem_toArray, List.getElem_cons_zero, List.getElem_cons_succ]
  go_simp
  (go_at_call 36; refine Calls.mono HGET.out ?_; rintro e w2 ⟨rfl, hb2⟩; have HB2 : Hid (Below w1.heap.size w1 w2) := ((Below.refl w1.heap.size w1).drew.drew).trans hb2; have HKY2 : Hid (w2.heap[P]? = _) := (HB2.out.block P (Array.getElem?_eq_some_iff.1 HKY.out).1).trans HKY.out; have HK2 : Hid (w2.cell? ⟨P, 0, none⟩ = some (.int .u64 (s.1 : Int)) ∧ w2.cell? ⟨P, 1, none⟩ = some (.int .u64 (s.2 : Int))) := ⟨(by rw [cell_of_row _ _ _ _ _ _ HKY2.out]; rfl), (by rw [cell_of_row _ _ _ _ _ _ HKY2.out]; rfl)⟩; clear hb2)
  go_wp2_with fail
  refine hK.out _ _ (by first | exact hkc | exact HK2.out | assumption) ?_
  clear hK K
  intro hHeld2
  clear hHeld
  have hHeld := hHeld2
  clear hHeld2
  try simp only [pS]
  refine tz (i := 5) 39 rfl rfl hHeld ?_
  simp only [pS]
  refine tz (i := 6) 45 rfl rfl hHeld ?_
  simp only [pS]
  refine tz (i := 7) 46 rfl rfl hHeld ?_
  simp only [pS]
  refine tz (i := 8) 7 rfl rfl hHeld ?_
  simp only [pS]
  refine tz (i := 9) 8 rfl rfl hHeld ?_
  simp only [pS]
  refine wpAnyH_done (by kernel_rfl) ?_ _
  refine NoPanic.normal ?_
  go_wp2
  go_ret
  exact ⟨rfl, below_next HB1.out HB2.out⟩
theorem dec_ok (h : Ibx none w p m1 m2 T1 T2 I E G) (s : Ss) (c : Int) (h0 : 1 ≤ c) (hc : c ≤ 7) (hn : numBI s.1 = true) (hn2 : numBI s.2 = true) (he : I.ep ≤ s.1) (hH : s ∉ ks I.H) (hT : T2 < 9223372036854775807) :
    Calls Tryz.prog 29 #[.pointer (some ⟨p, 0, none⟩), sv s, .int .i64 c] w fun e w' => e = .returned (.int .i64 0) ∧ DcPost w p m1 m2 T1 T2 E { riseI I s.1 with O := rm (riseI I s.1).O s, H := pt (riseI I s.1).ms (riseI I s.1).H s c } w' := by
  obtain ⟨w1, hw1⟩ : ∃ w1, w1 = w.alloc (.cells #[.int .u64 (s.1 : Int), .int .u64 (s.2 : Int)] tSs) := ⟨_, rfl⟩
  have hb1 : Below w.heap.size w w1 := by rw [hw1]; exact al (Below.refl _ _) _
  have hI1 := h.below hb1
  have HM : Hid _ := imade_t hI1
  obtain ⟨P, hP⟩ : ∃ P, P = w.heap.size := ⟨_, rfl⟩
  have hky : w1.heap[P]? = some (.cells #[.int .u64 (s.1 : Int), .int .u64 (s.2 : Int)] tSs (0, 0)) := by rw [hw1, hP]; exact heap_alloc_new w _
  have hkc : w1.cell? ⟨P, 0, none⟩ = some (.int .u64 (s.1 : Int)) ∧ w1.cell? ⟨P, 1, none⟩ = some (.int .u64 (s.2 : Int)) := ⟨by rw [cell_of_row _ _ _ _ _ _ hky]; rfl, by rw [cell_of_row _ _ _ _ _ _ hky]; rfl⟩
  have hep := hI1.cell.1
  obtain ⟨ep, hep2⟩ : ∃ ep, ep = I.ep := ⟨_, rfl⟩
  rw [← hep2] at hep
  have hS3 : w1.cell? ⟨P, 0, none⟩ = some (.int .u64 (s.1 : Int)) ∧ w1.cell? ⟨P, 1, none⟩ = some (.int .u64 (s.2 : Int)) ∧ w1.cell? ⟨p, 0, none⟩ = some (.int .u64 (ep : Int)) := ⟨hkc.1, hkc.2, hep⟩
  have HI : Hid _ := h
  have HI1 : Hid _ := hI1
  have HP : Hid _ := hP
  have HKY : Hid _ := hky
  have HB1 : Hid _ := hb1
  have HW1 : Hid (w1 = _) := hw1
  have HEP : Hid _ := hep2
  have hc1 : ¬ c < 1 := by omega
  have hc2 : ¬ 7 < c := by omega
  have hlt : ¬ (s.1 : Int) < (ep : Int) := by omega
  have HSS : Hid (inS s) := by
    have h1 := hn
    have h2 := hn2
    unfold numBI at h1 h2
    simp only [decide_eq_true_eq] at h1 h2
    exact ⟨by omega, by omega⟩
  have hlk : lk G s = none := lk_none.2 (by rw [h.ksH]; exact hH)
  have HGET : Hid (Calls _ _ _ w1.drew.drew _) := getI_no (o := 4) (p := p) ((hI1.below (w' := w1.drew.drew) (Below.refl _ _).drew.drew).cell.2.2.2.2.2.2) (hI1.below (w' := w1.drew.drew) (Below.refl _ _).drew.drew).r2 HSS.out hlk
  clear h hI1 hky hb1 hw1 hP hep2 hep
  go_enter Tryz.func29, Tryz.ntmps29
  go_wp2_with fail
  rw [← HW1.out, ← HP.out]
  refine Calls.mono HM.out ?_
  rintro e w' ⟨rfl, hq⟩
  have hq := hq.symm
  subst hq
  go_wp2_with (go_at_call 56; refine Calls.mono (isnum_t _ _) ?_; rintro e w' ⟨rfl, hq⟩; have hq := hq.symm; subst hq; first | rw [hn] | rw [hn2])
  refine wp_region_noPanic ?_
  refine wp_region_held_drew (S := (fun u => u.cell? ⟨P, 0, none⟩ = some (.int .u64 (s.1 : Int)) ∧ u.cell? ⟨P, 1, none⟩ = some (.int .u64 (s.2 : Int)) ∧ u.cell? ⟨p, 0, none⟩ = some (.int .u64 (ep : Int)))) (by kernel_rfl) (by first | exact hS3 | assumption) (fun hHeld => ?_)
  refine tz (i := 0) 32 rfl rfl hHeld ?_
  simp only [pS]
  refine tz (i := 1) 33 rfl rfl hHeld ?_
  simp only [pS]
  refine tz (i := 2) 34 rfl rfl hHeld ?_
  simp only [pS]
  refine tz (i := 3) 35 rfl rfl hHeld ?_
  simp only [pS]
  refine tz (i := 4) 36 rfl rfl hHeld ?_
  simp only [pS]
  refine tz (i := 5) 37 rfl rfl hHeld ?_
  simp only [pS]
  refine tz (i := 6) 38 rfl rfl hHeld ?_
  simp only [pS]
  refine wpAnyH_done (by kernel_rfl) ?_ _
  refine NoPanic.normal ?_
  go_wp2
  refine wp_region_noPanic ?_
  refine wp_region_held_drew (S := (fun u => u.cell? ⟨P, 0, none⟩ = some (.int .u64 (s.1 : Int)) ∧ u.cell? ⟨P, 1, none⟩ = some (.int .u64 (s.2 : Int)))) (by kernel_rfl) (by first | exact hkc | exact HK2.out | assumption) (fun hHeld => ?_)
  refine tz (i := 0) 40 rfl rfl hHeld ?_
  simp only [pS]
  refine tz (i := 1) 41 rfl rfl hHeld ?_
  simp only [pS]
  refine tz (i := 2) 42 rfl rfl hHeld ?_
  simp only [pS]
  refine tz (i := 3) 43 rfl rfl hHeld ?_
  simp only [pS]
  refine run_at (i := 4) rfl (by kernel_rfl) (by rfl) (fun K hK => ?_)
  simp only [List.getElem_toArray, List.getElem_cons_zero, List.getElem_cons_succ]
  go_simp
  (go_at_call 36; refine Calls.mono HGET.out ?_; rintro e w2 ⟨rfl, hb2⟩; have HB2 : Hid (Below w1.heap.size w1 w2) := ((Below.refl w1.heap.size w1).drew.drew).trans hb2; have HKY2 : Hid (w2.heap[P]? = _) := (HB2.out.block P (Array.getElem?_eq_some_iff.1 HKY.out).1).trans HKY.out; have HK2 : Hid (w2.cell? ⟨P, 0, none⟩ = some (.int .u64 (s.1 : Int)) ∧ w2.cell? ⟨P, 1, none⟩ = some (.int .u64 (s.2 : Int))) := ⟨(by rw [cell_of_row _ _ _ _ _ _ HKY2.out]; rfl), (by rw [cell_of_row _ _ _ _ _ _ HKY2.out]; rfl)⟩; clear hb2)
  go_wp2_with fail
  refine hK.out _ _ (by first | exact hkc | exact HK2.out | assumption) ?_
  clear hK K
  intro hHeld2
  clear hHeld
  have hHeld := hHeld2
  clear hHeld2
  try simp only [pS]
  refine tz (i := 5) 39 rfl rfl hHeld ?_
  simp only [pS]
  refine tz (i := 6) 45 rfl rfl hHeld ?_
  simp only [pS]
  refine tz (i := 7) 46 rfl rfl hHeld ?_
  simp only [pS]
  refine tz (i := 8) 7 rfl rfl hHeld ?_
  simp only [pS]
  refine tz (i := 9) 8 rfl rfl hHeld ?_
  simp only [pS]
  refine wpAnyH_done (by kernel_rfl) ?_ _
  refine NoPanic.normal ?_
  have HI2 : Hid _ := HI1.out.below HB2.out
  have HH : Hid (Calls _ _ _ w2 _) := ihear_t HI2.out s.1 (HSS.out.1)
  have hk2 := HK2.out
  go_wp2_with fail
  refine Calls.mono HH.out ?_
  rintro e w3 ⟨rfl, E', G', hI3, hft, hc3⟩
  have hlt3 : ∀ b, footI none p m1 m2 E b → b < P := fun b hb => by rw [HP.out]; exact Ibx.lt HI.out hb
  have hky3 : w3.heap[P]? = some (.cells #[.int .u64 (s.1 : Int), .int .u64 (s.2 : Int)] tSs (0, 0)) := (hc3.block P (Array.getElem?_eq_some_iff.1 HKY2.out).1 (fun h9 => by have := hlt3 P (h9.imp id (fun h8 => h8.imp id .inl)); omega)).trans HKY2.out
  have hk3 : w3.cell? ⟨P, 0, none⟩ = some (.int .u64 (s.1 : Int)) ∧ w3.cell? ⟨P, 1, none⟩ = some (.int .u64 (s.2 : Int)) := ⟨(by rw [cell_of_row _ _ _ _ _ _ hky3]; rfl), (by rw [cell_of_row _ _ _ _ _ _ hky3]; rfl)⟩
  have HKY3 : Hid _ := hky3
  have HI3 : Hid _ := hI3
  have HFT : Hid _ := hft
  have HLT3 : Hid _ := hlt3
  have HCH3 : Hid (Chg (footI none p m1 m2 E) w w3) := (Chg.of_below (below_next HB1.out HB2.out)).trans hc3 (fun b hb => .inl (hb.imp id (fun h8 => h8.imp id .inl)))
  have HDR : Hid (∃ bl, Calls Tryz.prog 57 #[.pointer (some ⟨p, 1, none⟩), sv s] w3.drew fun e w' => e = .returned (.bool bl) ∧ RowM w' m1 T1 (mp fB (rm (mp Bg.qt E') s)) ∧ Chg (fun b => b = m1) w3.drew w') := by
    have hI9 := hI3.below (w' := w3.drew) (Below.refl _ _).drew
    cases h9 : lk (mp Bg.qt E') s with
    | none => exact ⟨false, drop_no (o := 1) hI9.hp rfl hI9.r1 HSS.out h9⟩
    | some a => exact ⟨true, drop_in (o := 1) hI9.hp rfl hI9.r1 HSS.out (c := a.1) (t := a.2) h9⟩
  obtain ⟨bl, hdr⟩ := HDR.out
  have HDR2 : Hid (Calls _ _ _ _ _) := hdr
  clear hI3 hft hc3 hky3 hlt3 hdr HDR hk2
  go_wp2
  refine wp_region_noPanic ?_
  refine wp_region_held_drew (S := (fun u => u.cell? ⟨P, 0, none⟩ = some (.int .u64 (s.1 : Int)) ∧ u.cell? ⟨P, 1, none⟩ = some (.int .u64 (s.2 : Int)))) (by kernel_rfl) (by first | exact hk3 | exact HK4.out | assumption) (fun hHeld => ?_)
  refine tz (i := 0) 52 rfl rfl hHeld ?_
  simp only [pS]
  refine tz (i := 1) 53 rfl rfl hHeld ?_
  simp only [pS]
  refine tz (i := 2) 54 rfl rfl hHeld ?_
  simp only [pS]
  refine tz (i := 3) 55 rfl rfl hHeld ?_
  simp only [pS]
  refine run_at (i := 4) rfl (by kernel_rfl) (by rfl) (fun K hK => ?_)
  simp only [List.getElem_toArray, List.getElem_cons_zero, List.getElem_cons_succ]
  go_simp
  (go_at_call 57; refine Calls.mono HDR2.out ?_; rintro e w4 ⟨rfl, hr4, hc4⟩; have HC4 : Hid (Chg (fun b => b = m1) w3 w4) := ((Chg.refl (fun b => b = m1) w3).drew).trans hc4 (fun b hb => .inl hb); have HKY4 : Hid (w4.heap[P]? = _) := (HC4.out.block P (Array.getElem?_eq_some_iff.1 HKY3.out).1 (fun h9 => by have := HLT3.out P (HFT.out P (.inr (.inl h9))); omega)).trans HKY3.out; have HK4 : Hid (w4.cell? ⟨P, 0, none⟩ = some (.int .u64 (s.1 : Int)) ∧ w4.cell? ⟨P, 1, none⟩ = some (.int .u64 (s.2 : Int))) := ⟨(by rw [cell_of_row _ _ _ _ _ _ HKY4.out]; rfl), (by rw [cell_of_row _ _ _ _ _ _ HKY4.out]; rfl)⟩; have HI4 : Hid _ := Ibx.rm HI3.out s hr4 HC4.out; clear hr4 hc4)
  go_wp2_with fail
  refine hK.out _ _ (by first | exact hk3 | exact HK4.out | assumption) ?_
  clear hK K
  intro hHeld2
  clear hHeld
  have hHeld := hHeld2
  clear hHeld2
  try simp only [pS]
  refine wpAnyH_done (by kernel_rfl) ?_ _
  refine NoPanic.normal ?_
  have hk4 := HK4.out
  have HPUT : Hid (Calls _ _ _ w4.drew _) := putI_t (w := w4.drew) (o := 4) (p := p) tIb _ (HI4.out.below (w' := w4.drew) (Below.refl _ _).drew).hp (riseI I s.1).ms rfl rfl rfl (HI4.out.below (w' := w4.drew) (Below.refl _ _).drew).r2 HSS.out c hT HI4.out.ok.s0 (by have h9 : (riseI I s.1).ms ≤ 4096 := HI4.out.ok.s1; omega) HI4.out.lenG
  go_wp2
  refine wp_region_noPanic ?_
  refine wp_region_held_drew (S := (fun u => u.cell? ⟨P, 0, none⟩ = some (.int .u64 (s.1 : Int)) ∧ u.cell? ⟨P, 1, none⟩ = some (.int .u64 (s.2 : Int)))) (by kernel_rfl) (by first | exact hk4 | exact HK5.out | assumption) (fun hHeld => ?_)
  refine tz (i := 0) 57 rfl rfl hHeld ?_
  simp only [pS]
  refine tz (i := 1) 58 rfl rfl hHeld ?_
  simp only [pS]
  refine tz (i := 2) 59 rfl rfl hHeld ?_
  simp only [pS]
  refine tz (i := 3) 60 rfl rfl hHeld ?_
  simp only [pS]
  refine tz (i := 4) 61 rfl rfl hHeld ?_
  simp only [pS]
  refine run_at (i := 5) rfl (by kernel_rfl) (by rfl) (fun K hK => ?_)
  simp only [List.getElem_toArray, List.getElem_cons_zero, List.getElem_cons_succ]
  go_simp
  (go_at_call 37; refine Calls.mono HPUT.out ?_; rintro e w5 ⟨rfl, hr5, hp5, hc5⟩; have HC5 : Hid (Chg (fun b => b = p ∨ b = m2) w4 w5) := ((Chg.refl (fun b => b = p ∨ b = m2) w4).drew).trans hc5 (fun b hb => .inl hb); have HKY5 : Hid (w5.heap[P]? = _) := (HC5.out.block P (Array.getElem?_eq_some_iff.1 HKY4.out).1 (fun h9 => by have := HLT3.out P (HFT.out P (h9.elim .inl (fun h8 => .inr (.inr (.inl h8))))); omega)).trans HKY4.out; have HK5 : Hid (w5.cell? ⟨P, 0, none⟩ = some (.int .u64 (s.1 : Int)) ∧ w5.cell? ⟨P, 1, none⟩ = some (.int .u64 (s.2 : Int))) := ⟨(by rw [cell_of_row _ _ _ _ _ _ HKY5.out]; rfl), (by rw [cell_of_row _ _ _ _ _ _ HKY5.out]; rfl)⟩; have HI5 : Hid _ := Ibx.dec (s := s) HI4.out (riseI_ep he).symm (fun h9 => (mem_ks_rm.1 h9).2 rfl) c hr5 hp5 HC5.out; clear hr5 hp5 hc5)
  go_wp2_with fail
  refine hK.out _ _ (by first | exact hk4 | exact HK5.out | assumption) ?_
  clear hK K
  intro hHeld2
  clear hHeld
  have hHeld := hHeld2
  clear hHeld2
  try simp only [pS]
  refine wpAnyH_done (by kernel_rfl) ?_ _
  refine NoPanic.normal ?_
  go_wp2
  go_ret
  refine ⟨rfl, T2 + 1, _, _, HI5.out, Nat.le_refl _, (HCH3.out.trans HC4.out (fun b hb => .inl (HFT.out b (.inr (.inl hb))))).trans HC5.out (fun b hb => .inl (HFT.out b (hb.elim .inl (fun h8 => .inr (.inr (.inl h8)))))), fun b hb => HFT.out b ?_⟩
  rcases hb with hb | hb | hb | ⟨x, hx, ho, hb⟩
  · exact .inl hb
  · exact .inr (.inl hb)
  · exact .inr (.inr (.inl hb))
  · exact .inr (.inr (.inr ⟨x, (mem_rm.1 hx).1, ho, hb⟩))
end
end Go.Proofs.YtdoikcolkbjnfaaGreat
