import Derived.Test.YtkdgjfjcpgiokaaGreatLxC
import Derived.Test.YtkdgjfjcpgiokaaGreatLxCa
namespace Go.Proofs.YtkdgjfjcpgiokaaGreat
set_option linter.unusedVariables false
set_option linter.unusedSimpArgs false
open Go.RowKit Go.Maps
theorem opBox {u : World} {P : Nat} {y : OpX} (h : u.heap[P]? = some (.cells y.c tOpX (0, 0))) : u.cell? ⟨P, 0, none⟩ = some (.int .i64 y.kd) ∧ u.cell? ⟨P, 1, none⟩ = some (.int .i64 y.x.u.kind) ∧ u.cell? ⟨P, 2, none⟩ = some (.int .u64 y.x.u.ep) ∧ u.cell? ⟨P, 3, none⟩ = some (.int .u64 y.x.u.se) ∧ u.cell? ⟨P, 4, none⟩ = some (.int .i64 y.x.u.path) ∧ u.cell? ⟨P, 5, none⟩ = some (.int .i64 y.x.u.idx) ∧ u.cell? ⟨P, 6, none⟩ = some (.int .i64 y.x.u.cnt) ∧ u.cell? ⟨P, 7, none⟩ = some (.slice y.x.da y.x.dn y.x.dc) ∧ u.cell? ⟨P, 8, none⟩ = some (.int .i64 y.x.u.code) ∧ u.cell? ⟨P, 9, none⟩ = some (.slice y.x.ga y.x.gn y.x.gc) ∧ u.cell? ⟨P, 10, none⟩ = some (.int .u64 (y.e : Int)) ∧ u.cell? ⟨P, 11, none⟩ = some (.int .u64 (y.n : Int)) ∧ u.cell? ⟨P, 12, none⟩ = some (.int .i64 y.cd) := by
  refine ⟨?_, ?_, ?_, ?_, ?_, ?_, ?_, ?_, ?_, ?_, ?_, ?_, ?_⟩ <;> (rw [cell_of_row _ _ _ _ _ _ h]; rfl)
section
set_option maxRecDepth 20000
set_option maxHeartbeats 6400000
theorem inboxOnce_walk (a b : Int) (sa : Option Addr) (sc : Nat) (xs : List OpX) (w : World) (ha : -9223372036854775808 ≤ a ∧ a ≤ 9223372036854775807) (hb : -9223372036854775808 ≤ b ∧ b ≤ 9223372036854775807) (hx : RdX w sa xs) (hlc : xs.length ≤ sc) (hnil : sa = none → sc = 0) (hn : xs.length ≤ 4398046511103) :
    Calls Tryz.prog 8 #[.int .i64 a, .int .i64 b, .slice sa xs.length sc] w fun e w' => e = .returned (.bool true) ∧ Below w.heap.size w w' := by
  have HK : Hid (∀ u : World, Calls _ _ _ u _) := fun u => knows_t u
  have HWA : Hid (Calls Tryz.prog 16 #[.int .i64 a, .int .i64 64] w _) := winI_t a 64 (by decide) (by decide) w ha.1 ha.2
  have HWB : Hid (Calls Tryz.prog 16 #[.int .i64 b, .int .i64 4096] w _) := winI_t b 4096 (by decide) (by decide) w hb.1 hb.2
  have hlA := winN_lt a 64 (by decide)
  have hlB := winN_lt b 4096 (by decide)
  obtain ⟨ka, hka⟩ : ∃ ka, ka = winN a 64 := ⟨_, rfl⟩
  obtain ⟨kb, hkb⟩ : ∃ kb, kb = winN b 4096 := ⟨_, rfl⟩
  rw [← hka] at HWA hlA
  rw [← hkb] at HWB hlB
  have hnw := new_a (ka + 1) (kb + 1) (by omega) (by omega) (by omega) (by omega) w
  rw [show ((ka + 1 : Nat) : Int) = 1 + (ka : Int) by omega, show ((kb + 1 : Nat) : Int) = 1 + (kb : Int) by omega] at hnw
  have HNW : Hid (Calls _ _ _ w _) := hnw
  have HX : Hid _ := hx
  have HM : Hid (xs.length ≤ 4398046511103) := hn
  obtain ⟨M, hM⟩ : ∃ M, M = xs.length := ⟨_, rfl⟩
  rw [← hM]
  have HML : Hid _ := hM
  have hMb : M ≤ 4398046511103 := by omega
  clear hx hn hM hka hkb ha hb hlc hnil hnw
  go_enter Tryz.func8, Tryz.ntmps8
  go_wp2_with (first | (go_at_call 16; first | (with_reducible refine Calls.mono HWA.out ?_; rintro e w' ⟨rfl, hq⟩; have hq := hq.symm; subst hq) | (with_reducible refine Calls.mono HWB.out ?_; rintro e w' ⟨rfl, hq⟩; have hq := hq.symm; subst hq)))
  refine Calls.mono HNW.out ?_
  rintro e w1 ⟨p, F1, rfl, hI1, hF1, hb1⟩
  have HI1 : Hid _ := hI1
  have HF1 : Hid _ := hF1
  have HB1 : Hid _ := hb1
  clear hI1 hF1 hb1
  go_wp2_with fail
  refine Calls.mono (HK.out _) ?_
  rintro e w2 ⟨rfl, hb2⟩
  have HI2 : Hid (IbA w2 p 0 (newI (ka + 1) (kb + 1)) F1) := HI1.out.below hb2
  have HB2 : Hid (Below w.heap.size w w2) := below_next HB1.out hb2
  clear hb2
  go_wp2
  go_loopw [10, 9] (fun j lv wr => ∃ (k : Nat) (I : Ib) (F : Nat → Prop) (B : List Cd), k ≤ M ∧ j = .int .i64 (k : Int) ∧ IbA wr p k I F ∧ OwnG KCd wr w.heap.size lv B ∧ B.length ≤ k ∧ (∀ b, lv.ownBlock = some b → ¬ F b) ∧ Bok B I ∧ (∀ b, F b → w.heap.size ≤ b) ∧ Below w.heap.size w wr) (fun j _ _ => M - (intOf j).toNat)
  case atStart => exact ⟨0, _, F1, [], Nat.zero_le _, rfl, HI2.out, World.ownsRow_nil _ _ _ _, Nat.le_refl _, (fun b hb => by cases hb), Bok.nil _ rfl, HF1.out, HB2.out⟩
  case round =>
    obtain ⟨k, I, F, B, hk, rfl, hI, hO, hBl, hBF, hBok, hF, hbw⟩ := hrel
    have hkw : IntKind.i64.wrap ((k : Int) + 1) = ((k + 1 : Nat) : Int) := by rw [IntKind.wrap_i64]; omega
    by_cases hlt : k < M
    · have hlti : (k : Int) < (M : Int) := by omega
      have hk0 : (0 : Int) ≤ (k : Int) := by omega
      have hk1 : k < xs.length := by rw [← HML.out]; exact hlt
      obtain ⟨sb, so, rfl, hrng, hop⟩ := HX.out k hk1
      obtain ⟨y, hy⟩ : ∃ y, y = xs[k] := ⟨_, rfl⟩
      rw [← hy] at hrng hop
      have hld := opRange (rangeAt_below hrng hbw)
      have hIok := hI.ok
      have hHl : (ks I.H).length ≤ 16384 := by rw [len_ks]; have := hIok.ls; have := hIok.s1; omega
      clear hrng hk1 hy
      by_cases hkd : y.kd = 1
      · obtain ⟨kd, x, ye, yn, ycd⟩ := y
        simp only at hkd hld
        subst hkd
        obtain ⟨en, hen, -⟩ := hop.un.ee
        obtain ⟨sn, hsn, -⟩ := hop.un.es
        have HUN : Hid _ := hop.un
        simp only at hen hsn HUN
        obtain ⟨⟨uk, ue, us, pa, ui, uc, ux, ucd, ul⟩, da, dn, dc, ga, gn, gc⟩ := x
        simp only at hen hsn hld
        subst hen hsn
        have hbx0 := opBox (u := wr.alloc (.cells (OpX.mk 1 ⟨⟨uk, (en : Int), (sn : Int), pa, ui, uc, ux, ucd, ul⟩, da, dn, dc, ga, gn, gc⟩ ye yn ycd : OpX).c tOpX)) (P := wr.heap.size) (y := OpX.mk 1 ⟨⟨uk, (en : Int), (sn : Int), pa, ui, uc, ux, ucd, ul⟩, da, dn, dc, ga, gn, gc⟩ ye yn ycd) (heap_alloc_new _ _)
        obtain ⟨wA, hwA⟩ : ∃ wA, wA = (wr.alloc (.cells (OpX.mk 1 ⟨⟨uk, (en : Int), (sn : Int), pa, ui, uc, ux, ucd, ul⟩, da, dn, dc, ga, gn, gc⟩ ye yn ycd : OpX).c tOpX)).alloc (.cells #[.int .u64 (en : Int), .int .u64 (sn : Int)] tSs) := ⟨_, rfl⟩
        have hbA : Below wr.heap.size wr wA := by rw [hwA]; exact al (al (Below.refl _ _) _) _
        have hzA : wA.heap.size = wr.heap.size + 2 := by rw [hwA]; simp
        have hA0 : wA.heap[wr.heap.size]? = some (.cells (OpX.mk 1 ⟨⟨uk, (en : Int), (sn : Int), pa, ui, uc, ux, ucd, ul⟩, da, dn, dc, ga, gn, gc⟩ ye yn ycd : OpX).c tOpX (0, 0)) := by
          rw [hwA]
          exact ((al (Below.refl _ (wr.alloc (.cells (OpX.mk 1 ⟨⟨uk, (en : Int), (sn : Int), pa, ui, uc, ux, ucd, ul⟩, da, dn, dc, ga, gn, gc⟩ ye yn ycd : OpX).c tOpX))) _).block _ (by simp)).trans (heap_alloc_new _ _)
        have hA1 : wA.heap[wr.heap.size + 1]? = some (.cells #[.int .u64 (en : Int), .int .u64 (sn : Int)] tSs (0, 0)) := by
          rw [hwA]
          have h9 := heap_alloc_new (wr.alloc (.cells (OpX.mk 1 ⟨⟨uk, (en : Int), (sn : Int), pa, ui, uc, ux, ucd, ul⟩, da, dn, dc, ga, gn, gc⟩ ye yn ycd : OpX).c tOpX)) (.cells #[.int .u64 (en : Int), .int .u64 (sn : Int)] tSs)
          rw [World.size_alloc] at h9
          exact h9
        have hbx : ∀ u, Below wA.heap.size wA u → u.cell? ⟨wr.heap.size + 1, 0, none⟩ = some (.int .u64 (en : Int)) ∧ u.cell? ⟨wr.heap.size + 1, 1, none⟩ = some (.int .u64 (sn : Int)) := fun u hu => by
          have h9 := (hu.block _ (by omega)).trans hA1
          exact ⟨by rw [cell_of_row _ _ _ _ _ _ h9]; rfl, by rw [cell_of_row _ _ _ _ _ _ h9]; rfl⟩
        have HDC : Hid (∀ u, Below wA.heap.size wA u → Calls _ _ _ u _) := fun u hu => decd_a (hI.below (below_next hbA hu))
        have HDO : Hid (∀ u, Below wA.heap.size wA u → Calls _ _ _ u _) := fun u hu => does_t (hI.below (below_next hbA hu)) (OpX.mk 1 ⟨⟨uk, (en : Int), (sn : Int), pa, ui, uc, ux, ucd, ul⟩, da, dn, dc, ga, gn, gc⟩ ye yn ycd) w hop (hbw.trans ((below_next hbA hu).mono hbw.size)) hF (by omega)
        have HB9 : Hid (∀ u, Below wA.heap.size wA u → u.heap[wr.heap.size]? = some (.cells (OpX.mk 1 ⟨⟨uk, (en : Int), (sn : Int), pa, ui, uc, ux, ucd, ul⟩, da, dn, dc, ga, gn, gc⟩ ye yn ycd : OpX).c tOpX (0, 0)) ∧ u.heap[wr.heap.size + 1]? = some (.cells #[.int .u64 (en : Int), .int .u64 (sn : Int)] tSs (0, 0))) := fun u hu => ⟨(hu.block _ (by omega)).trans hA0, (hu.block _ (by omega)).trans hA1⟩
        have HI : Hid _ := hI
        have HO : Hid _ := hO
        have HBF : Hid _ := hBF
        have HBK : Hid _ := hBok
        have HFX : Hid _ := hF
        have HBW : Hid _ := hbw
        have HBA : Hid _ := hbA
        have HWA2 : Hid (wA = _) := hwA
        have HIO : Hid _ := hIok
        have HHL : Hid _ := hHl
        have HZA : Hid _ := hzA
        clear hI hO hBF hBok hF hbw hbA hwA hIok hHl hA0 hA1 hop hzA
        go_wp2_with fail
        rw [← HWA2.out]
        refine wp_region_noPanic ?_
        refine wp_region_held_drew (S := (fun u => Below wA.heap.size wA u)) (by kernel_rfl) (by first | exact (Below.refl _ _).drew | exact hS3 | exact hS2 | assumption) (fun hHeld => ?_)
        refine take_at (i := 0) 61 (v := ?_) rfl rfl (by kernel_rfl) (by kernel_rfl) (by kernel_rfl) (fun _ _ _ h => h) (by rfl) ?_ hHeld ?_
        rotate_left
        · (intro w hSw; (try dsimp only at hSw); go_simp; try with_reducible rfl)
        simp only [Act.put, List.setIfInBounds_toArray, List.set_cons_zero, List.set_cons_succ]
        refine take_at (i := 2) 63 (v := ?_) rfl rfl (by kernel_rfl) (by kernel_rfl) (by kernel_rfl) (fun _ _ _ h => h) (by rfl) ?_ hHeld ?_
        rotate_left
        · (intro w hSw; (try dsimp only at hSw); go_simp; try with_reducible rfl)
        simp only [Act.put, List.setIfInBounds_toArray, List.set_cons_zero, List.set_cons_succ]
        refine run_at (i := 1) rfl (by kernel_rfl) (by rfl) (fun K hK => ?_)
        simp only [List.getElem_toArray, List.getElem_cons_zero, List.getElem_cons_succ]
        go_simp
        first | (go_at_call 22; refine Calls.mono (HDC.out _ (by assumption)) ?_; rintro e u2 ⟨v2, rfl, hv2, hu2⟩; obtain ⟨a2, c2, rfl, -, -, -, hrd2⟩ := OwnG.val hv2; have hS2 : Below wA.heap.size wA u2 := below_next (by assumption) hu2; have HRD2 : Hid (RdG KSs u2 a2 (ks I.H)) := hrd2; clear hv2 hu2 hrd2) | (go_at_call 24; refine Calls.mono (hasI_t a2 _ c2 (ks I.H) rfl (en, sn) u2 HRD2.out HHL.out) ?_; rintro e u3 ⟨rfl, hu3⟩; have hS3 : Below wA.heap.size wA u3 := below_next hS2 hu3; clear hu3)
        go_wp2_with fail
        refine hK.out _ _ (by first | exact (Below.refl _ _).drew | exact hS3 | exact hS2 | assumption) ?_
        clear hK K
        intro hHeld2
        clear hHeld
        have hHeld := hHeld2
        clear hHeld2
        try simp only [Act.put, List.setIfInBounds_toArray, List.set_cons_zero, List.set_cons_succ]
        refine run_at (i := 3) rfl (by kernel_rfl) (by rfl) (fun K hK => ?_)
        simp only [List.getElem_toArray, List.getElem_cons_zero, List.getElem_cons_succ]
        go_simp
        first | (go_at_call 22; refine Calls.mono (HDC.out _ (by assumption)) ?_; rintro e u2 ⟨v2, rfl, hv2, hu2⟩; obtain ⟨a2, c2, rfl, -, -, -, hrd2⟩ := OwnG.val hv2; have hS2 : Below wA.heap.size wA u2 := below_next (by assumption) hu2; have HRD2 : Hid (RdG KSs u2 a2 (ks I.H)) := hrd2; clear hv2 hu2 hrd2) | (go_at_call 24; refine Calls.mono (hasI_t a2 _ c2 (ks I.H) rfl (en, sn) u2 HRD2.out HHL.out) ?_; rintro e u3 ⟨rfl, hu3⟩; have hS3 : Below wA.heap.size wA u3 := below_next hS2 hu3; clear hu3)
        go_wp2_with fail
        refine hK.out _ _ (by first | exact (Below.refl _ _).drew | exact hS3 | exact hS2 | assumption) ?_
        clear hK K
        intro hHeld2
        clear hHeld
        have hHeld := hHeld2
        clear hHeld2
        try simp only [Act.put, List.setIfInBounds_toArray, List.set_cons_zero, List.set_cons_succ]
        refine take_at (i := 4) 13 (v := ?_) rfl rfl (by kernel_rfl) (by kernel_rfl) (by kernel_rfl) (fun _ _ _ h => h) (by rfl) ?_ hHeld ?_
        rotate_left
        · (intro w hSw; (try dsimp only at hSw); go_simp; try with_reducible rfl)
        simp only [Act.put, List.setIfInBounds_toArray, List.set_cons_zero, List.set_cons_succ]
        refine wpAnyH_done (by kernel_rfl) ?_ _
        refine NoPanic.normal ?_
        have HS3 : Hid (Below wA.heap.size wA u3) := hS3
        have hlb := opBox (HB9.out u3 hS3).1
        simp only at hlb
        clear hS3 hS2 hHeld hbx hbx0
        go_wp2_with fail
        refine Calls.mono (HDO.out u3 HS3.out) ?_
        rintro e5 w5 ⟨F5, qa, qb, qn, qc, rn, rc, rfl, hI5, hc5, hf5⟩
        have hu3 : Below wr.heap.size wr u3 := below_next HBA.out HS3.out
        have hO3 := OwnG.below HO.out hu3
        have HO5 : Hid (OwnG KCd w5 w.heap.size u9 B) := hO3.kept (fun b e => hc5.block b (hO3.lt' e).2 (HBF.out b e))
        have HN5 : Hid (∀ b, u9.ownBlock = some b → ¬ F5 b) := fun b e h9 => (hf5 b h9).elim (HBF.out b e) (fun h8 => by have := (hO3.lt' e).2; omega)
        have HF5 : Hid (∀ b, F5 b → w.heap.size ≤ b) := fun b h9 => (hf5 b h9).elim (HFX.out b) (fun h8 => Nat.le_trans HBW.out.size (Nat.le_trans hu3.size h8))
        have HB5 : Hid (Below w.heap.size w w5) := (HBW.out.trans (hu3.mono HBW.out.size)).trans (hc5.below HFX.out (Nat.le_trans HBW.out.size hu3.size))
        have hz3 : wr.heap.size + 2 ≤ u3.heap.size := by rw [← HZA.out]; exact HS3.out.size
        have h05 := (hc5.block wr.heap.size (by omega) (fun h9 => by have := HI.out.lt _ h9; omega)).trans (HB9.out u3 HS3.out).1
        have h15 := (hc5.block (wr.heap.size + 1) (by omega) (fun h9 => by have := HI.out.lt _ h9; omega)).trans (HB9.out u3 HS3.out).2
        have hz5 : wr.heap.size + 2 ≤ w5.heap.size := Nat.le_trans hz3 hc5.size
        have HI5 : Hid (IbA w5 p (k + 1) (doI I (OpX.mk 1 ⟨⟨uk, (en : Int), (sn : Int), pa, ui, uc, ux, ucd, ul⟩, da, dn, dc, ga, gn, gc⟩ ye yn ycd)) F5) := hI5
        obtain ⟨ast, hast⟩ : ∃ ast, ast = (doA I (OpX.mk 1 ⟨⟨uk, (en : Int), (sn : Int), pa, ui, uc, ux, ucd, ul⟩, da, dn, dc, ga, gn, gc⟩ ye yn ycd)).st := ⟨_, rfl⟩
        obtain ⟨ac, hac⟩ : ∃ ac, ac = (doA I (OpX.mk 1 ⟨⟨uk, (en : Int), (sn : Int), pa, ui, uc, ux, ucd, ul⟩, da, dn, dc, ga, gn, gc⟩ ye yn ycd)).cd := ⟨_, rfl⟩
        obtain ⟨er, her⟩ : ∃ er, er = doE I (OpX.mk 1 ⟨⟨uk, (en : Int), (sn : Int), pa, ui, uc, ux, ucd, ul⟩, da, dn, dc, ga, gn, gc⟩ ye yn ycd) := ⟨_, rfl⟩
        unfold ansV
        rw [← hast, ← hac, ← her]
        obtain ⟨w6, hw6⟩ : ∃ w6, w6 = w5.alloc (.cells #[.int .i64 ast, .int .i64 ac, .slice qa qn qc, .slice qb rn rc] 59) := ⟨_, rfl⟩
        have hb6 : Below w5.heap.size w5 w6 := by rw [hw6]; exact al (Below.refl _ _) _
        have h26 : w6.heap[w5.heap.size]? = some (.cells #[.int .i64 ast, .int .i64 ac, .slice qa qn qc, .slice qb rn rc] 59 (0, 0)) := by rw [hw6]; exact heap_alloc_new _ _
        have HG : Hid (∀ u, Below w6.heap.size w6 u → u.heap[wr.heap.size]? = some (.cells (OpX.mk 1 ⟨⟨uk, (en : Int), (sn : Int), pa, ui, uc, ux, ucd, ul⟩, da, dn, dc, ga, gn, gc⟩ ye yn ycd : OpX).c tOpX (0, 0)) ∧ u.heap[wr.heap.size + 1]? = some (.cells #[.int .u64 (en : Int), .int .u64 (sn : Int)] tSs (0, 0)) ∧ u.heap[w5.heap.size]? = some (.cells #[.int .i64 ast, .int .i64 ac, .slice qa qn qc, .slice qb rn rc] 59 (0, 0))) := fun u hu => by
          have h9 := hb6.size
          refine ⟨(hu.block _ (by omega)).trans ((hb6.block _ (by omega)).trans h05), (hu.block _ (by omega)).trans ((hb6.block _ (by omega)).trans h15), (hu.block _ (Array.getElem?_eq_some_iff.1 h26).1).trans h26⟩
        have HGC : Hid (∀ u, Below w6.heap.size w6 u → u.cell? ⟨wr.heap.size + 1, 0, none⟩ = some (.int .u64 (en : Int)) ∧ u.cell? ⟨wr.heap.size + 1, 1, none⟩ = some (.int .u64 (sn : Int)) ∧ u.cell? ⟨w5.heap.size, 0, none⟩ = some (.int .i64 ast) ∧ u.cell? ⟨w5.heap.size, 1, none⟩ = some (.int .i64 ac)) := fun u hu => by
          obtain ⟨-, g2, g3⟩ := HG.out u hu
          exact ⟨by rw [cell_of_row _ _ _ _ _ _ g2]; rfl, by rw [cell_of_row _ _ _ _ _ _ g2]; rfl, by rw [cell_of_row _ _ _ _ _ _ g3]; rfl, by rw [cell_of_row _ _ _ _ _ _ g3]; rfl⟩
        have HGO : Hid (∀ u, Below w6.heap.size w6 u → _) := fun u hu => opBox (HG.out u hu).1
        have HW6 : Hid (w6 = _) := hw6
        have HB6 : Hid _ := hb6
        have HAS : Hid (ast = _ ∧ ac = _ ∧ er = _) := ⟨hast, hac, her⟩
        clear hI5 hc5 hf5 hu3 hO3 hz3 h05 h15 hz5 hw6 hb6 h26 hlb hld hast hac her
        go_upto_region 14 with fail
        rw [← HW6.out]
        have hg6 := HGO.out w6 (Below.refl _ _)
        have hgc6 := HGC.out w6 (Below.refl _ _)
        try simp only at hg6
        by_cases hin : (en, sn) ∈ ks I.H
        · rw [decide_eq_true hin]
          by_cases hd : dataB (⟨uk, (en : Int), (sn : Int), pa, ui, uc, ux, ucd, ul⟩ : Un) = true
          · obtain ⟨c, hc, htk⟩ := take_in HIO.out (u := (⟨uk, (en : Int), (sn : Int), pa, ui, uc, ux, ucd, ul⟩ : Un)) hd hin
            have hast : ast = 5 := by rw [HAS.out.1]; show (takeA I (⟨uk, (en : Int), (sn : Int), pa, ui, uc, ux, ucd, ul⟩ : Un)).st = 5; rw [htk]
            have hac : ac = c := by rw [HAS.out.2.1]; show (takeA I (⟨uk, (en : Int), (sn : Int), pa, ui, uc, ux, ucd, ul⟩ : Un)).cd = c; rw [htk]
            have HCB : Hid _ := HBK.out _ _ hc
            have HCD : Hid (∀ u, Calls _ _ _ u _) := fun u => refData_t (⟨uk, (en : Int), (sn : Int), pa, ui, uc, ux, ucd, ul⟩ : Un) da dn dc ga gn gc HUN.out.hn HUN.out.hg u
            subst hast hac
            obtain ⟨a9, c9, rfl, -, -, -, -⟩ := OwnG.val HO5.out
            rw [hd] at HCD
            clear hin hd hc htk
            go_wp2_with fail
            refine Calls.mono (HCD.out w6) ?_
            rintro e7 w7 ⟨rfl, hb7⟩
            have hg7 := HGO.out w7 hb7
            have hgc7 := HGC.out w7 hb7
            have HB7 : Hid _ := hb7
            have HR7 : Hid (RdG KCd w7 a9 B) := by
              obtain ⟨a8, c8, h8, -, -, -, hr8⟩ := OwnG.val (OwnG.below HO5.out (below_next HB6.out hb7))
              cases h8
              exact hr8
            try simp only at hg7
            clear hg6 hgc6 hb7
            go_wp2_with fail
            refine Calls.mono (wrote_t a9 _ c9 B rfl (en, sn) _ w7 HR7.out (by omega) HCB.out) ?_
            rintro e8 w8 ⟨rfl, hb8⟩
            have HB8 : Hid (Below w6.heap.size w6 w8) := below_next HB7.out hb8
            have hg8 := HGO.out w8 HB8.out
            try simp only at hg8
            clear hg7 hgc7 hb8
            go_wp2
            go_roundw
            case rel => exact ⟨k + 1, _, F5, B, by omega, by go_num, HI5.out.below (below_next HB6.out HB8.out), OwnG.below HO5.out (below_next HB6.out HB8.out), by omega, HN5.out, Bok.do1 HBK.out HIO.out (OpX.mk 1 ⟨⟨uk, (en : Int), (sn : Int), pa, ui, uc, ux, ucd, ul⟩, da, dn, dc, ga, gn, gc⟩ ye yn ycd) (.inl (show (1 : Int) ≠ 2 by decide)), HF5.out, HB5.out.trans (Below.mono (below_next HB6.out HB8.out) HB5.out.size)⟩
            case measure => simp [intOf]; omega
          · have HCD : Hid (∀ u, Calls _ _ _ u _) := fun u => refData_t (⟨uk, (en : Int), (sn : Int), pa, ui, uc, ux, ucd, ul⟩ : Un) da dn dc ga gn gc HUN.out.hn HUN.out.hg u
            rw [Bool.eq_false_iff.2 hd] at HCD
            clear hin hd
            go_wp2_with fail
            refine Calls.mono (HCD.out w6) ?_
            rintro e7 w7 ⟨rfl, hb7⟩
            have hg7 := HGO.out w7 hb7
            have HB7 : Hid _ := hb7
            try simp only at hg7
            clear hg6 hgc6 hb7
            go_wp2
            go_roundw
            case rel => exact ⟨k + 1, _, F5, B, by omega, by go_num, HI5.out.below (below_next HB6.out HB7.out), OwnG.below HO5.out (below_next HB6.out HB7.out), by omega, HN5.out, Bok.do1 HBK.out HIO.out (OpX.mk 1 ⟨⟨uk, (en : Int), (sn : Int), pa, ui, uc, ux, ucd, ul⟩, da, dn, dc, ga, gn, gc⟩ ye yn ycd) (.inl (show (1 : Int) ≠ 2 by decide)), HF5.out, HB5.out.trans (Below.mono (below_next HB6.out HB7.out) HB5.out.size)⟩
            case measure => simp [intOf]; omega
        · rw [decide_eq_false hin]
          have hst : (ast == 5) = false := by
            have h9 : ast ≠ 5 := by rw [HAS.out.1]; exact take_out (u := (⟨uk, (en : Int), (sn : Int), pa, ui, uc, ux, ucd, ul⟩ : Un)) hin
            simp [h9]
          clear hin
          go_wp2
          go_roundw
          case rel => exact ⟨k + 1, _, F5, B, by omega, by go_num, HI5.out.below HB6.out, OwnG.below HO5.out HB6.out, by omega, HN5.out, Bok.do1 HBK.out HIO.out (OpX.mk 1 ⟨⟨uk, (en : Int), (sn : Int), pa, ui, uc, ux, ucd, ul⟩, da, dn, dc, ga, gn, gc⟩ ye yn ycd) (.inl (show (1 : Int) ≠ 2 by decide)), HF5.out, HB5.out.trans (Below.mono HB6.out HB5.out.size)⟩
          case measure => simp [intOf]; omega
      · obtain ⟨kd, x, ye, yn, ycd⟩ := y
        simp only at hkd hld
        have hkq : (kd == 1) = false := by simp [hkd]
        have hbx0 := opBox (u := wr.alloc (.cells (OpX.mk kd x ye yn ycd : OpX).c tOpX)) (P := wr.heap.size) (y := OpX.mk kd x ye yn ycd) (heap_alloc_new _ _)
        obtain ⟨wA, hwA⟩ : ∃ wA, wA = (wr.alloc (.cells (OpX.mk kd x ye yn ycd : OpX).c tOpX)).alloc (.cells #[.int .u64 (ye : Int), .int .u64 (yn : Int)] tSs) := ⟨_, rfl⟩
        have hbA : Below wr.heap.size wr wA := by rw [hwA]; exact al (al (Below.refl _ _) _) _
        have hzA : wA.heap.size = wr.heap.size + 2 := by rw [hwA]; simp
        have hA0 : wA.heap[wr.heap.size]? = some (.cells (OpX.mk kd x ye yn ycd : OpX).c tOpX (0, 0)) := by
          rw [hwA]
          exact ((al (Below.refl _ (wr.alloc (.cells (OpX.mk kd x ye yn ycd : OpX).c tOpX))) _).block _ (by simp)).trans (heap_alloc_new _ _)
        have hA1 : wA.heap[wr.heap.size + 1]? = some (.cells #[.int .u64 (ye : Int), .int .u64 (yn : Int)] tSs (0, 0)) := by
          rw [hwA]
          have h9 := heap_alloc_new (wr.alloc (.cells (OpX.mk kd x ye yn ycd : OpX).c tOpX)) (.cells #[.int .u64 (ye : Int), .int .u64 (yn : Int)] tSs)
          rw [World.size_alloc] at h9
          exact h9
        have hbx : ∀ u, Below wA.heap.size wA u → u.cell? ⟨wr.heap.size + 1, 0, none⟩ = some (.int .u64 (ye : Int)) ∧ u.cell? ⟨wr.heap.size + 1, 1, none⟩ = some (.int .u64 (yn : Int)) := fun u hu => by
          have h9 := (hu.block _ (by omega)).trans hA1
          exact ⟨by rw [cell_of_row _ _ _ _ _ _ h9]; rfl, by rw [cell_of_row _ _ _ _ _ _ h9]; rfl⟩
        have HDC : Hid (∀ u, Below wA.heap.size wA u → Calls _ _ _ u _) := fun u hu => decd_a (hI.below (below_next hbA hu))
        have HDO : Hid (∀ u, Below wA.heap.size wA u → Calls _ _ _ u _) := fun u hu => does_t (hI.below (below_next hbA hu)) (OpX.mk kd x ye yn ycd) w hop (hbw.trans ((below_next hbA hu).mono hbw.size)) hF (by omega)
        have HB9 : Hid (∀ u, Below wA.heap.size wA u → u.heap[wr.heap.size]? = some (.cells (OpX.mk kd x ye yn ycd : OpX).c tOpX (0, 0)) ∧ u.heap[wr.heap.size + 1]? = some (.cells #[.int .u64 (ye : Int), .int .u64 (yn : Int)] tSs (0, 0))) := fun u hu => ⟨(hu.block _ (by omega)).trans hA0, (hu.block _ (by omega)).trans hA1⟩
        have HI : Hid _ := hI
        have HO : Hid _ := hO
        have HBF : Hid _ := hBF
        have HBK : Hid _ := hBok
        have HFX : Hid _ := hF
        have HBW : Hid _ := hbw
        have HBA : Hid _ := hbA
        have HWA2 : Hid (wA = _) := hwA
        have HIO : Hid _ := hIok
        have HHL : Hid _ := hHl
        have HZA : Hid _ := hzA
        clear hI hO hBF hBok hF hbw hbA hwA hIok hHl hA0 hA1 hop hzA
        go_wp2_with fail
        rw [← HWA2.out]
        refine wp_region_noPanic ?_
        refine wp_region_held_drew (S := (fun u => Below wA.heap.size wA u)) (by kernel_rfl) (by first | exact (Below.refl _ _).drew | exact hS3 | exact hS2 | assumption) (fun hHeld => ?_)
        refine take_at (i := 0) 61 (v := ?_) rfl rfl (by kernel_rfl) (by kernel_rfl) (by kernel_rfl) (fun _ _ _ h => h) (by rfl) ?_ hHeld ?_
        rotate_left
        · (intro w hSw; (try dsimp only at hSw); go_simp; try with_reducible rfl)
        simp only [Act.put, List.setIfInBounds_toArray, List.set_cons_zero, List.set_cons_succ]
        refine take_at (i := 2) 63 (v := ?_) rfl rfl (by kernel_rfl) (by kernel_rfl) (by kernel_rfl) (fun _ _ _ h => h) (by rfl) ?_ hHeld ?_
        rotate_left
        · (intro w hSw; (try dsimp only at hSw); go_simp; try with_reducible rfl)
        simp only [Act.put, List.setIfInBounds_toArray, List.set_cons_zero, List.set_cons_succ]
        refine run_at (i := 1) rfl (by kernel_rfl) (by rfl) (fun K hK => ?_)
        simp only [List.getElem_toArray, List.getElem_cons_zero, List.getElem_cons_succ]
        go_simp
        first | (go_at_call 22; refine Calls.mono (HDC.out _ (by assumption)) ?_; rintro e u2 ⟨v2, rfl, hv2, hu2⟩; obtain ⟨a2, c2, rfl, -, -, -, hrd2⟩ := OwnG.val hv2; have hS2 : Below wA.heap.size wA u2 := below_next (by assumption) hu2; have HRD2 : Hid (RdG KSs u2 a2 (ks I.H)) := hrd2; clear hv2 hu2 hrd2) | (go_at_call 24; refine Calls.mono (hasI_t a2 _ c2 (ks I.H) rfl (ye, yn) u2 HRD2.out HHL.out) ?_; rintro e u3 ⟨rfl, hu3⟩; have hS3 : Below wA.heap.size wA u3 := below_next hS2 hu3; clear hu3)
        go_wp2_with fail
        refine hK.out _ _ (by first | exact (Below.refl _ _).drew | exact hS3 | exact hS2 | assumption) ?_
        clear hK K
        intro hHeld2
        clear hHeld
        have hHeld := hHeld2
        clear hHeld2
        try simp only [Act.put, List.setIfInBounds_toArray, List.set_cons_zero, List.set_cons_succ]
        refine run_at (i := 3) rfl (by kernel_rfl) (by rfl) (fun K hK => ?_)
        simp only [List.getElem_toArray, List.getElem_cons_zero, List.getElem_cons_succ]
        go_simp
        first | (go_at_call 22; refine Calls.mono (HDC.out _ (by assumption)) ?_; rintro e u2 ⟨v2, rfl, hv2, hu2⟩; obtain ⟨a2, c2, rfl, -, -, -, hrd2⟩ := OwnG.val hv2; have hS2 : Below wA.heap.size wA u2 := below_next (by assumption) hu2; have HRD2 : Hid (RdG KSs u2 a2 (ks I.H)) := hrd2; clear hv2 hu2 hrd2) | (go_at_call 24; refine Calls.mono (hasI_t a2 _ c2 (ks I.H) rfl (ye, yn) u2 HRD2.out HHL.out) ?_; rintro e u3 ⟨rfl, hu3⟩; have hS3 : Below wA.heap.size wA u3 := below_next hS2 hu3; clear hu3)
        go_wp2_with fail
        refine hK.out _ _ (by first | exact (Below.refl _ _).drew | exact hS3 | exact hS2 | assumption) ?_
        clear hK K
        intro hHeld2
        clear hHeld
        have hHeld := hHeld2
        clear hHeld2
        try simp only [Act.put, List.setIfInBounds_toArray, List.set_cons_zero, List.set_cons_succ]
        refine take_at (i := 4) 13 (v := ?_) rfl rfl (by kernel_rfl) (by kernel_rfl) (by kernel_rfl) (fun _ _ _ h => h) (by rfl) ?_ hHeld ?_
        rotate_left
        · (intro w hSw; (try dsimp only at hSw); go_simp; try with_reducible rfl)
        simp only [Act.put, List.setIfInBounds_toArray, List.set_cons_zero, List.set_cons_succ]
        refine wpAnyH_done (by kernel_rfl) ?_ _
        refine NoPanic.normal ?_
        have HS3 : Hid (Below wA.heap.size wA u3) := hS3
        have hlb := opBox (HB9.out u3 hS3).1
        simp only at hlb
        clear hS3 hS2 hHeld hbx hbx0
        go_wp2_with fail
        refine Calls.mono (HDO.out u3 HS3.out) ?_
        rintro e5 w5 ⟨F5, qa, qb, qn, qc, rn, rc, rfl, hI5, hc5, hf5⟩
        have hu3 : Below wr.heap.size wr u3 := below_next HBA.out HS3.out
        have hO3 := OwnG.below HO.out hu3
        have HO5 : Hid (OwnG KCd w5 w.heap.size u9 B) := hO3.kept (fun b e => hc5.block b (hO3.lt' e).2 (HBF.out b e))
        have HN5 : Hid (∀ b, u9.ownBlock = some b → ¬ F5 b) := fun b e h9 => (hf5 b h9).elim (HBF.out b e) (fun h8 => by have := (hO3.lt' e).2; omega)
        have HF5 : Hid (∀ b, F5 b → w.heap.size ≤ b) := fun b h9 => (hf5 b h9).elim (HFX.out b) (fun h8 => Nat.le_trans HBW.out.size (Nat.le_trans hu3.size h8))
        have HB5 : Hid (Below w.heap.size w w5) := (HBW.out.trans (hu3.mono HBW.out.size)).trans (hc5.below HFX.out (Nat.le_trans HBW.out.size hu3.size))
        have hz3 : wr.heap.size + 2 ≤ u3.heap.size := by rw [← HZA.out]; exact HS3.out.size
        have h05 := (hc5.block wr.heap.size (by omega) (fun h9 => by have := HI.out.lt _ h9; omega)).trans (HB9.out u3 HS3.out).1
        have h15 := (hc5.block (wr.heap.size + 1) (by omega) (fun h9 => by have := HI.out.lt _ h9; omega)).trans (HB9.out u3 HS3.out).2
        have hz5 : wr.heap.size + 2 ≤ w5.heap.size := Nat.le_trans hz3 hc5.size
        have HI5 : Hid (IbA w5 p (k + 1) (doI I (OpX.mk kd x ye yn ycd)) F5) := hI5
        obtain ⟨ast, hast⟩ : ∃ ast, ast = (doA I (OpX.mk kd x ye yn ycd)).st := ⟨_, rfl⟩
        obtain ⟨ac, hac⟩ : ∃ ac, ac = (doA I (OpX.mk kd x ye yn ycd)).cd := ⟨_, rfl⟩
        obtain ⟨er, her⟩ : ∃ er, er = doE I (OpX.mk kd x ye yn ycd) := ⟨_, rfl⟩
        unfold ansV
        rw [← hast, ← hac, ← her]
        obtain ⟨w6, hw6⟩ : ∃ w6, w6 = w5.alloc (.cells #[.int .i64 ast, .int .i64 ac, .slice qa qn qc, .slice qb rn rc] 59) := ⟨_, rfl⟩
        have hb6 : Below w5.heap.size w5 w6 := by rw [hw6]; exact al (Below.refl _ _) _
        have h26 : w6.heap[w5.heap.size]? = some (.cells #[.int .i64 ast, .int .i64 ac, .slice qa qn qc, .slice qb rn rc] 59 (0, 0)) := by rw [hw6]; exact heap_alloc_new _ _
        have HG : Hid (∀ u, Below w6.heap.size w6 u → u.heap[wr.heap.size]? = some (.cells (OpX.mk kd x ye yn ycd : OpX).c tOpX (0, 0)) ∧ u.heap[wr.heap.size + 1]? = some (.cells #[.int .u64 (ye : Int), .int .u64 (yn : Int)] tSs (0, 0)) ∧ u.heap[w5.heap.size]? = some (.cells #[.int .i64 ast, .int .i64 ac, .slice qa qn qc, .slice qb rn rc] 59 (0, 0))) := fun u hu => by
          have h9 := hb6.size
          refine ⟨(hu.block _ (by omega)).trans ((hb6.block _ (by omega)).trans h05), (hu.block _ (by omega)).trans ((hb6.block _ (by omega)).trans h15), (hu.block _ (Array.getElem?_eq_some_iff.1 h26).1).trans h26⟩
        have HGC : Hid (∀ u, Below w6.heap.size w6 u → u.cell? ⟨wr.heap.size + 1, 0, none⟩ = some (.int .u64 (ye : Int)) ∧ u.cell? ⟨wr.heap.size + 1, 1, none⟩ = some (.int .u64 (yn : Int)) ∧ u.cell? ⟨w5.heap.size, 0, none⟩ = some (.int .i64 ast) ∧ u.cell? ⟨w5.heap.size, 1, none⟩ = some (.int .i64 ac)) := fun u hu => by
          obtain ⟨-, g2, g3⟩ := HG.out u hu
          exact ⟨by rw [cell_of_row _ _ _ _ _ _ g2]; rfl, by rw [cell_of_row _ _ _ _ _ _ g2]; rfl, by rw [cell_of_row _ _ _ _ _ _ g3]; rfl, by rw [cell_of_row _ _ _ _ _ _ g3]; rfl⟩
        have HGO : Hid (∀ u, Below w6.heap.size w6 u → _) := fun u hu => opBox (HG.out u hu).1
        have HW6 : Hid (w6 = _) := hw6
        have HB6 : Hid _ := hb6
        have HAS : Hid (ast = _ ∧ ac = _ ∧ er = _) := ⟨hast, hac, her⟩
        clear hI5 hc5 hf5 hu3 hO3 hz3 h05 h15 hz5 hw6 hb6 h26 hlb hld hast hac her
        go_upto_region 14 with fail
        rw [← HW6.out]
        have hg6 := HGO.out w6 (Below.refl _ _)
        have hgc6 := HGC.out w6 (Below.refl _ _)
        try simp only at hg6
        by_cases hk2 : kd = 2
        · subst hk2
          by_cases he0 : er = 0
          · have hno := dec_not (I := I) (y := OpX.mk 2 x ye yn ycd) rfl (by rw [← HAS.out.2.2]; exact he0)
            rw [decide_eq_false hno]
            have HD2 : Hid _ := Bok.do2 HBK.out HIO.out (OpX.mk 2 x ye yn ycd) rfl (by rw [← HAS.out.2.2]; exact he0)
            subst he0
            clear hno hkd hkq
            go_wp2_with (at_builtin; refine wp_appG1 (K := KCd) rfl _ _ rfl w.heap.size u9 B ((ye, yn), ycd) B.length rfl ⟨w6.heap.size, 0, none⟩ 1 rfl (OwnG.below HO5.out (al HB6.out _)) rfl (rdG_lit (K := KCd) (heap_alloc_new _ _) rfl) (by show (B.length + 1) * 24 ≤ _; omega) (by simp only [maxLen]; omega) (by have := HB5.out.size; have := HB6.out.size; simp; omega) ?_; intro g7 c7 w7 hown7 hg7 hlie7; have HO7 : Hid _ := hown7; have HG7 : Hid _ := hg7; have HL7 : Hid _ := hlie7; clear hown7 hg7 hlie7)
            have hI6 := HI5.out.below (al HB6.out (.cells #[.int .u64 (ye : Int), .int .u64 (yn : Int), .int .i64 ycd] tCd))
            go_roundw
            case rel => exact ⟨k + 1, _, F5, _, by omega, by go_num, hI6.chg (Chg.of_grown (F := fun b => u9.ownBlock = some b) HG7.out (fun b h9 => h9)) (fun b h8 h9 => HN5.out b h9 h8), HO7.out, by simp; omega, (fun b h9 => by cases h9; exact HL7.out.elim (HN5.out _) (fun h8 h7 => by have h6 : g7 < w5.heap.size := HI5.out.lt _ h7; have h5 := HB6.out.size; simp at h8; omega)), HD2.out, HF5.out, (HB5.out.trans (Below.mono (al HB6.out _) HB5.out.size)).grown HG7.out (by have := HB5.out.size; have := HB6.out.size; simp; omega) (fun b h9 => (OwnG.lt' HO5.out h9).1)⟩
            case measure => simp [intOf]; omega
          · have heq : (er == 0) = false := by simp [he0]
            have HNE : Hid (doE I (OpX.mk 2 x ye yn ycd) ≠ 0) := by unfold Hid; rw [← HAS.out.2.2]; exact he0
            go_wp2
            go_roundw
            case rel => exact ⟨k + 1, _, F5, B, by omega, by go_num, HI5.out.below HB6.out, OwnG.below HO5.out HB6.out, by omega, HN5.out, Bok.do1 HBK.out HIO.out (OpX.mk 2 x ye yn ycd) (.inr HNE.out), HF5.out, HB5.out.trans (Below.mono HB6.out HB5.out.size)⟩
            case measure => simp [intOf]; omega
        · have hkq2 : (kd == 2) = false := by simp [hk2]
          have HK2 : Hid (kd ≠ 2) := hk2
          clear hk2
          go_wp2
          go_roundw
          case rel => exact ⟨k + 1, _, F5, B, by omega, by go_num, HI5.out.below HB6.out, OwnG.below HO5.out HB6.out, by omega, HN5.out, Bok.do1 HBK.out HIO.out (OpX.mk kd x ye yn ycd) (.inl HK2.out), HF5.out, HB5.out.trans (Below.mono HB6.out HB5.out.size)⟩
          case measure => simp [intOf]; omega
    · have hlti : ¬ (k : Int) < (M : Int) := by omega
      have HBW : Hid _ := hbw
      clear hI hO hBF hBok hF hbw
      go_wp2
      go_ret
      exact ⟨rfl, HBW.out⟩
end
end Go.Proofs.YtkdgjfjcpgiokaaGreat
