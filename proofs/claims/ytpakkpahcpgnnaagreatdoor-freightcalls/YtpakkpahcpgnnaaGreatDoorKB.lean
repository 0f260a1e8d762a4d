import Derived.Test.YtpakkpahcpgnnaaGreatDoorJG
set_option linter.unusedVariables false
set_option linter.unusedSimpArgs false
namespace Go.Proofs.YtpakkpahcpgnnaaGreatDoor
open Go.RowKit Go.Maps
theorem nodup_at {α : Type} {ks : List α} (h : ks.Nodup) {i j : Nat} {k : α} (hi : ks[i]? = some k) (hj : ks[j]? = some k) : i = j := by
 obtain ⟨h1, e1⟩ := List.getElem?_eq_some_iff.1 hi; obtain ⟨h2, e2⟩ := List.getElem?_eq_some_iff.1 hj; have hp := List.pairwise_iff_getElem.1 (List.nodup_iff_pairwise_ne.1 h); rcases Nat.lt_trichotomy i j with h9 | h9 | h9
 · exact absurd (e1.trans e2.symm) (hp i j h1 h2 h9)
 · exact h9
 · exact absurd (e2.trans e1.symm) (hp j i h2 h1 h9)
theorem infoD3j : (Tryz.prog.info? tDo).map (·.size) = some 3 := by kernel_rfl
theorem doneJ_one (a b c : Int) : (#[Value.int .i64 a, Value.int .u64 b, Value.int .i64 c] : Array Value).all (·.oneCell') = true := by simp [Value.oneCell']
section
variable {w w' : World} {P P' : Jp} {X : Value × Value} {t : Dd}
set_option maxRecDepth 20000
set_option maxHeartbeats 6400000
theorem jhear_in (h : JS w P X t) (hi0 : DInv t) {i0 : Nat} {x0 : Fd} (hx0 : t.L[i0]? = some x0) (k e cd pt ix c : Int) (da : Option Addr) (dn dc : Nat) (ga : Option Addr) (gn gc : Nat) (l : List Rg) (hn : gn = l.length) (hx : RdR w ga l) (hl : gn ≤ 8796093022208) (hv : validR 2 (t.ep : Int) (x0.n : Int) pt ix c dn cd gn l) (hcd : ¬ cd = 0) :
 Calls Tryz.prog 54 #[.pointer (some ⟨P.q, 0, none⟩), .agg (ucl 2 (t.ep : Int) (x0.n : Int) pt ix c da dn dc cd ga gn gc)] w fun e9 w' => e9 = .returned (.tuple #[doneV x0.k.1 (x0.k.2 : Int) cd, .bool true]) ∧ ∃ v', JS w' { P with lv := v', Q := P.Q.eraseIdx i0 } X { t with L := t.L.eraseIdx i0 } ∧ JStp w w' P { P with lv := v', Q := P.Q.eraseIdx i0 } := by
 have HX0 : Hid (t.L[i0]? = some x0) := hx0
 have HIDX : Hid (∀ i (hi : i < P.Q.length), (P.Q[i]).x.n = x0.n → i = i0) := fun i hi e => by
  have h1 : (t.L.map Fd.n)[i]? = some x0.n := by rw [← h.lx, List.map_map, List.getElem?_map, List.getElem?_eq_getElem hi]; exact congrArg some e
  have h2 : (t.L.map Fd.n)[i0]? = some x0.n := by rw [List.getElem?_map, hx0]; rfl
  exact nodup_at hi0.nn h1 h2
 have hi := hi0; have hcd1 : (cd == 0) = false := by simp [hcd]
 clear hi0 hx0; obtain ⟨w1, hw1⟩ : ∃ w1, w1 = (w.alloc (.cells (ucl 2 (t.ep : Int) (x0.n : Int) pt ix c da dn dc cd ga gn gc) tUn)).alloc (.cells #[.int .i64 0, .int .u64 0, .int .i64 0] tDo) := ⟨_, rfl⟩; obtain ⟨hb1, hsz1, hu1, hd1⟩ := hboxes w _ w1 hw1; obtain ⟨la, lc, hlv, -, -, -, hrdQ⟩ := OwnG.val (h.below hb1).l; obtain ⟨m, hm⟩ : ∃ m, m = P.Q.length := ⟨_, rfl⟩; have hm64 : m ≤ 64 := by rw [hm, h.llen]; have := hi.len; omega
 rw [← hm] at hlv
 have hsh : ∀ u, Below w1.heap.size w1 u → u.cell? ⟨w.heap.size, 0, none⟩ = some (.int .i64 2) ∧ u.cell? ⟨w.heap.size, 1, none⟩ = some (.int .u64 (t.ep : Int)) ∧ u.cell? ⟨w.heap.size, 2, none⟩ = some (.int .u64 (x0.n : Int)) ∧ u.cell? ⟨w.heap.size, 3, none⟩ = some (.int .i64 pt) ∧ u.cell? ⟨w.heap.size, 4, none⟩ = some (.int .i64 ix) ∧ u.cell? ⟨w.heap.size, 5, none⟩ = some (.int .i64 c) ∧ u.cell? ⟨w.heap.size, 6, none⟩ = some (.slice da dn dc) ∧ u.cell? ⟨w.heap.size, 7, none⟩ = some (.int .i64 cd) ∧ u.cell? ⟨w.heap.size, 8, none⟩ = some (.slice ga gn gc) ∧ u.cell? ⟨P.q, 6, none⟩ = some (.int .u64 (t.ep : Int)) ∧ u.cell? ⟨P.q, 9, none⟩ = some (.slice la m lc) := fun u hu => by
  have h9 := (hu.block _ (sI hu1).1).trans hu1; have h8 := (h.below hb1).below hu; refine ⟨?_, ?_, ?_, ?_, ?_, ?_, ?_, ?_, ?_, ?_, ?_⟩
  all_goals first | (rw [cR h9]; rfl) | exact h8.cell 6 | (rw [← hlv]; exact h8.cell 9)
 have HV : Hid (∀ u, Below w1.heap.size w1 u → Calls Tryz.prog 95 #[.agg (ucl 2 (t.ep : Int) (x0.n : Int) pt ix c da dn dc cd ga gn gc)] u fun e w' => e = .returned (.int .i64 0) ∧ Below u.heap.size u w') := fun u hu => by
  have h9 := rvalid_t 2 (t.ep : Int) (x0.n : Int) pt ix c da dn dc cd ga gn gc l true (by simp; exact hv) u hn (hx.below (hb1.trans (hu.mono hb1.size))) hl
  simpa using h9
 have hsh1 := hsh w1 (bR _ _); have HB1 : Hid _ := hb1; have HD1 : Hid _ := hd1; have HH : Hid _ := h; have HI : Hid _ := hi; have HM : Hid (m = P.Q.length) := hm; have HLV : Hid (P.lv = .slice la m lc) := hlv; have HRQ : Hid (RdG KJe w1 la P.Q) := hrdQ; have HW1 : Hid (w1 = _) := hw1; have HX : Hid (∀ u, Below w1.heap.size w1 u → Below w.heap.size w u) := fun u hu => hb1.trans (hu.mono hb1.size)
 have HSZ1 : Hid (w1.heap.size = w.heap.size + 2) := hsz1; clear h hi hb1 hw1 hd1 hu1 hsz1 hv hm hlv hrdQ hn hx hl; go_enter Tryz.func54, Tryz.ntmps54
 (go_wp2_with fail); rw [← HW1.out]; refine wp_region_noPanic ?_; refine wp_region_held_drew (S := (fun u => Below w1.heap.size w1 u)) (by kernel_rfl) (by first | exact (bR _ _).drew | assumption | exact below_next (by assumption) (by assumption)) (fun hHeld => ?_); refine tz 0 8 hHeld ?_; simp only [pS]; refine run_at (i := 1) rfl (by kernel_rfl) (by rfl) (fun K hK => ?_); simp only [gE]; go_simp
 (go_at_call 95; refine Calls.mono (HV.out _ (by assumption)) ?_; rintro e9 u5 ⟨rfl, hu5⟩)
 (go_wp2_with fail); refine hK.out _ _ (by first | exact (bR _ _).drew | assumption | exact below_next (by assumption) (by assumption)) ?_; clear hK K; clear hHeld; intro hHeld; (try simp only [pS]); refine tz 2 10 hHeld ?_; simp only [pS]; refine tz 3 11 hHeld ?_; simp only [pS]; refine tz 4 12 hHeld ?_; simp only [pS]; refine tz 5 13 hHeld ?_; simp only [pS]; refine tz 6 14 hHeld ?_; simp only [pS]; refine tz 7 15 hHeld ?_; simp only [pS]; refine tz 8 16 hHeld ?_; simp only [pS]; refine tz 9 17 hHeld ?_; simp only [pS]; refine tz 10 18 hHeld ?_; simp only [pS]; refine tz 11 19 hHeld ?_; simp only [pS]; refine tz 12 20 hHeld ?_; simp only [pS]; refine tz 13 21 hHeld ?_; simp only [pS]; refine tz 14 22 hHeld ?_; simp only [pS]; refine tk 15 23 (v := (Value.bool false)) ?_ hHeld ?_
 · (intro w hSw; (try dsimp only at hSw); go_simp)
 simp only [pS]; refine tz 16 24 hHeld ?_; simp only [pS]; refine wpAnyH_done (by kernel_rfl) ?_ _; refine NoPanic.normal ?_; have hb2 := hHeld; clear hu5 hsh1 hHeld
 have HRX : Hid (∀ u, Below w1.heap.size w1 u → ∀ i (hi : i < P.Q.length), ∃ b o, la = some ⟨b, o, none⟩ ∧ u.cell? ⟨b, o + i * 7, none⟩ = some (.int .u64 ((P.Q[i]).x.n : Int))) := fun u hu i hi => by
  obtain ⟨b, o, e, r1, -⟩ := RdG.below HRQ.out hu i hi; have h9 := r1 0 (.int .u64 ((P.Q[i]).x.n : Int)) rfl; rw [Nat.add_zero] at h9; exact ⟨b, o, e, h9⟩
 go_wp2; go_loopw [6] (fun j wr => ∃ i : Nat, i ≤ m ∧ j = .int .i64 (i : Int) ∧ Below w1.heap.size w1 wr ∧ Hid (∀ i' (hi : i' < P.Q.length), i' < i → ¬ (P.Q[i']).x.n = x0.n)) (fun j _ => m - (intOf j).toNat)
 case atStart => exact ⟨0, Nat.zero_le _, rfl, hb2, fun i' hi h9 => by omega⟩
 case round =>
  obtain ⟨i, him, rfl, hbw, HNO⟩ := hrel; clear hb2; have hkw : IntKind.i64.wrap ((i : Int) + 1) = ((i + 1 : Nat) : Int) := by rw [IntKind.wrap_i64]; omega
  have hshr := hsh wr hbw
  by_cases hlt : i < m
  · have hlti : (i : Int) < (m : Int) := by omega
    have hi0 : (0 : Int) ≤ (i : Int) := by omega
    have hi1 : i < P.Q.length := by rw [← HM.out]; exact hlt
    obtain ⟨b, o, e1, -⟩ := HRX.out wr hbw i hi1; subst e1; obtain ⟨x, hx⟩ : ∃ x : Fq, x = P.Q[i] := ⟨_, rfl⟩
    have hxc : ∀ u, Below w1.heap.size w1 u → u.cell? ⟨b, o + i * 7, none⟩ = some (.int .u64 (x.x.n : Int)) := fun u hu => by
     obtain ⟨b', o', e', h9⟩ := HRX.out u hu i hi1; cases e'; rw [hx]; exact h9
    have HXE : Hid (P.Q[i]? = some x) := by unfold Hid; rw [hx]; exact List.getElem?_eq_getElem hi1
    have HBW : Hid _ := hbw
    by_cases he : x.x.n = x0.n
    · obtain rfl : i = i0 := HIDX.out i hi1 (by rw [← hx]; exact he)
      have hxx : x.x = x0 := by
       have h9 := HX0.out; rw [← HH.out.lx, List.getElem?_map, HXE.out] at h9; exact Option.some.inj h9
      have hei : ((x.x.n : Int) == (x0.n : Int)) = true := by simp; omega
      have hei2 : (x.x.n : Int) = (x0.n : Int) := by omega
      have hei3 : ((x.x.n : Int) != (x0.n : Int)) = false := by simp; omega
      have hrc : ∀ u, Below w1.heap.size w1 u → u.cell? ⟨b, o + i * 7 + 1, none⟩ = some (.int .i64 x0.k.1) ∧ u.cell? ⟨b, o + i * 7 + 1 + 1, none⟩ = some (.int .u64 (x0.k.2 : Int)) := fun u hu => by
       obtain ⟨b', o', e', r1, -⟩ := RdG.below HRQ.out hu i hi1; cases e'; rw [← hxx, hx]; exact ⟨r1 1 _ rfl, r1 2 _ rfl⟩
      have HE : Hid (∀ u, Below w1.heap.size w1 u → Calls _ _ _ u _) := fun u hu => jend_t (HH.out.below (HX.out u hu)) HI.out i (by rw [← HH.out.llen]; exact hi1)
      clear hx hi1 he HNO hxx; (go_wp2_with fail); refine wp_region_noPanic ?_; refine wp_region_held_drew (S := (fun u => Below w1.heap.size w1 u)) (by kernel_rfl) (by first | exact hbw.drew | assumption) (fun hHeld => ?_); refine tz 0 35 hHeld ?_; simp only [pS]; refine tz 1 36 hHeld ?_; simp only [pS]; refine tz 2 37 hHeld ?_; simp only [pS]; refine tk 3 38 (v := .slice (some ⟨b, o, none⟩) m lc) ?_ hHeld ?_
      · (intro w hSw; have hc9 := hsh _ hSw; go_simp; try with_reducible rfl)
      simp only [pS]; refine tz 4 39 hHeld ?_; simp only [pS]; refine tz 5 40 hHeld ?_; simp only [pS]; refine tz 6 41 hHeld ?_; simp only [pS]; refine tk 7 42 (v := .int .u64 (x.x.n : Int)) ?_ hHeld ?_
      · (intro w hSw; have hc9 := hxc _ hSw; go_simp; try with_reducible rfl)
      simp only [pS]; refine tz 8 43 hHeld ?_; simp only [pS]; refine tk 9 44 (v := .int .u64 (x0.n : Int)) ?_ hHeld ?_
      · (intro w hSw; have hc9 := hsh _ hSw; go_simp; try with_reducible rfl)
      simp only [pS]; refine tk 10 45 (v := .bool false) ?_ hHeld ?_
      · (intro w hSw; go_simp; try with_reducible rfl)
      simp only [pS]; refine wpAnyH_done (by kernel_rfl) ?_ _; refine NoPanic.normal ?_; clear hHeld hshr; have hb2 : Below w1.heap.size w1 wr.drew := HBW.out.drew; obtain ⟨u5, hu5⟩ : ∃ u5, u5 = wr.drew := ⟨_, rfl⟩; rw [← hu5] at hb2 ⊢; have hsh5 := hsh u5 hb2; have HB2 : Hid _ := hb2; clear hu5; (go_wp2_with fail); refine wp_region_noPanic ?_; refine wp_region_held_drew (S := (fun u => Below w1.heap.size w1 u)) (by kernel_rfl) (by first | exact hb2.drew | assumption | exact hb2.drew.alloc hb2.size _ | exact (hb2.alloc hb2.size _).drew | exact HB3.out) (fun hHeld => ?_); refine tz 0 68 hHeld ?_; simp only [pS]; refine tz 1 69 hHeld ?_; simp only [pS]; refine tz 2 70 hHeld ?_; simp only [pS]; refine tk 3 71 (v := .slice (some ⟨b, o, none⟩) m lc) ?_ hHeld ?_
      · (intro w hSw; have hc9 := hsh _ hSw; go_simp; try with_reducible rfl)
      simp only [pS]; refine tz 4 72 hHeld ?_; simp only [pS]; refine tz 5 73 hHeld ?_; simp only [pS]; refine tz 6 74 hHeld ?_; simp only [pS]; refine tk 7 75 (v := .agg #[.int .i64 x0.k.1, .int .u64 (x0.k.2 : Int)]) ?_ hHeld ?_
      · (intro w hSw; have hc9 := hrc _ hSw; go_simp; try with_reducible rfl)
      simp only [pS]; refine tz 8 76 hHeld ?_; simp only [pS]; refine tk 9 77 (v := .int .i64 cd) ?_ hHeld ?_
      · (intro w hSw; have hc9 := hsh _ hSw; go_simp; try with_reducible rfl)
      simp only [pS]; refine tz 10 78 hHeld ?_; simp only [pS]; refine run_at (i := 11) rfl (by kernel_rfl) (by rfl) (fun K hK => ?_); simp only [gE]; go_simp; (go_wp2_with fail); refine hK.out _ _ (by first | exact hb2.drew | assumption | exact hb2.drew.alloc hb2.size _ | exact (hb2.alloc hb2.size _).drew | exact HB3.out) ?_; clear hK K; clear hHeld; intro hHeld; (try simp only [pS]); refine run_at (i := 12) rfl (by kernel_rfl) (by rfl) (fun K hK => ?_); simp only [gE]
      (refine wp_store_row tDo _ _ rfl u5.heap.size #[.int .i64 x0.k.1, .int .u64 (x0.k.2 : Int), .int .i64 cd] (by rfl) (by rfl) tDo _ (heap_alloc_new u5 _) infoD3j rfl (doneJ_one _ _ _) ?_; have HB3 : Hid _ := below_setRow (B := w1.heap.size) (w0 := w1) (hb2.alloc hb2.size (.cells #[.int .i64 0, .int .u64 0, .int .i64 0] tDo)).drew hb2.size #[.int .i64 x0.k.1, .int .u64 (x0.k.2 : Int), .int .i64 cd]; have HH3 : Hid _ := setRow_heap _ u5.heap.size _ #[.int .i64 x0.k.1, .int .u64 (x0.k.2 : Int), .int .i64 cd] tDo _ (heap_alloc_new u5 (.cells #[.int .i64 0, .int .u64 0, .int .i64 0] tDo)))
      refine hK.out _ _ (by first | exact hb2.drew | assumption | exact hb2.drew.alloc hb2.size _ | exact (hb2.alloc hb2.size _).drew | exact HB3.out) ?_; clear hK K; clear hHeld; intro hHeld; (try simp only [pS]); refine wpAnyH_done (by kernel_rfl) ?_ _; refine NoPanic.normal ?_; clear hHeld hrc hsh hsh5 hxc; obtain ⟨w4, hw4⟩ : ∃ w4, w4 = ((u5.alloc (.cells #[.int .i64 0, .int .u64 0, .int .i64 0] tDo)).drew).setRow u5.heap.size #[.int .i64 x0.k.1, .int .u64 (x0.k.2 : Int), .int .i64 cd] := ⟨_, rfl⟩; have hb4 : Below w1.heap.size w1 w4 := by rw [hw4]; exact HB3.out
      have hh4 : w4.heap[u5.heap.size]? = some (.cells #[.int .i64 x0.k.1, .int .u64 (x0.k.2 : Int), .int .i64 cd] tDo (0, 0)) := by rw [hw4]; exact HH3.out
      rw [← hw4]; have HB4 : Hid _ := hb4; have HH4 : Hid _ := hh4; have HSZ5 : Hid (w1.heap.size ≤ u5.heap.size) := hb2.size; clear hw4 hb4 hh4 hb2 HB3 HH3; (go_wp2_with fail); refine Calls.mono (HE.out _ HB4.out) ?_; rintro e7 w7 ⟨rfl, v', hR7, hst7⟩; have hfo : ∀ b, w.heap.size ≤ b → ¬ footJ P b := fun b hb hf => by have := HH.out.lt hf; omega
      have hh7 := (hst7.chg.block u5.heap.size (sI HH4.out).1 (hfo _ (by have := HSZ5.out; have := HSZ1.out; omega))).trans HH4.out; have hd4 := (HB4.out.block _ (sI HD1.out).1).trans HD1.out; have hd7 := (hst7.chg.block (w.heap.size + 1) (sI hd4).1 (hfo _ (by omega))).trans hd4; have a0 : w7.cell? ⟨u5.heap.size, 0, none⟩ = some (.int .i64 x0.k.1) := by rw [cR hh7]; rfl
      have a1 : w7.cell? ⟨u5.heap.size, 1, none⟩ = some (.int .u64 (x0.k.2 : Int)) := by rw [cR hh7]; rfl
      have a2 : w7.cell? ⟨u5.heap.size, 2, none⟩ = some (.int .i64 cd) := by rw [cR hh7]; rfl
      have c0 : w7.cell? ⟨w.heap.size + 1, 0, none⟩ = some (.int .i64 0) := by rw [cR hd7]; rfl
      have c1 : w7.cell? ⟨w.heap.size + 1, 1, none⟩ = some (.int .u64 0) := by rw [cR hd7]; rfl
      have c2 : w7.cell? ⟨w.heap.size + 1, 2, none⟩ = some (.int .i64 0) := by rw [cR hd7]; rfl
      have f0 : w7.frozen? ⟨w.heap.size + 1, 0, none⟩ = false := by simp [World.frozen?, hd7]
      have f1 : w7.frozen? ⟨w.heap.size + 1, 1, none⟩ = false := by simp [World.frozen?, hd7]
      have f2 : w7.frozen? ⟨w.heap.size + 1, 2, none⟩ = false := by simp [World.frozen?, hd7]
      have HR7 : Hid _ := hR7; have HS7 : Hid _ := hst7; clear hR7 hst7 hfo hh7 hd4 hd7; go_wp2; refine bodyPost_ret (v := .tuple #[doneV x0.k.1 (x0.k.2 : Int) cd, .bool true]) (by simp [results, Tryz.results54, go_sem, c0, c1, c2, f0, f1, f2]) rfl ⟨rfl, v', ?_, ?_⟩
      · refine HR7.out.chg (Chg.of_grown (F := fun b => b = w.heap.size + 1) (grow_trans (grow_trans (gset1 _ _ _ _) (gset1 _ _ _ _)) (gset1 _ _ _ _)) (fun b e => (Option.some.inj e).symm)) (fun b hb e => ?_); rcases HS7.out.new b hb with h1 | h1
        · have := HH.out.lt h1; omega
        · have := HB4.out.size; have := HSZ1.out; omega
      · have h1 := (JStp.below (HX.out _ HB4.out) P).trans HS7.out; refine ⟨h1.chg.trans (Chg.of_grown (F := fun b => b = w.heap.size + 1) (grow_trans (grow_trans (gset1 _ _ _ _) (gset1 _ _ _ _)) (gset1 _ _ _ _)) (fun b e => (Option.some.inj e).symm)) (fun b hb => .inr (by omega)), h1.new⟩
    · have hei : ((x.x.n : Int) == (x0.n : Int)) = false := by simp; omega
      have hei2 : ¬ (x.x.n : Int) = (x0.n : Int) := by omega
      have hei3 : ((x.x.n : Int) != (x0.n : Int)) = true := by simp; omega
      have HNX : Hid (∀ i' (hi : i' < P.Q.length), i' < i + 1 → ¬ (P.Q[i']).x.n = x0.n) := fun i' hi h9 => by
       by_cases e : i' = i
       · subst e; have h7 := HXE.out; rw [List.getElem?_eq_getElem hi] at h7; rw [Option.some.inj h7]; exact he
       · exact HNO.out i' hi (by omega)
      clear hx hi1 he HNO; (go_wp2_with fail); refine wp_region_noPanic ?_; refine wp_region_held_drew (S := (fun u => Below w1.heap.size w1 u)) (by kernel_rfl) (by first | exact hbw.drew | assumption) (fun hHeld => ?_); refine tz 0 35 hHeld ?_; simp only [pS]; refine tz 1 36 hHeld ?_; simp only [pS]; refine tz 2 37 hHeld ?_; simp only [pS]; refine tk 3 38 (v := .slice (some ⟨b, o, none⟩) m lc) ?_ hHeld ?_
      · (intro w hSw; have hc9 := hsh _ hSw; go_simp; try with_reducible rfl)
      simp only [pS]; refine tz 4 39 hHeld ?_; simp only [pS]; refine tz 5 40 hHeld ?_; simp only [pS]; refine tz 6 41 hHeld ?_; simp only [pS]; refine tk 7 42 (v := .int .u64 (x.x.n : Int)) ?_ hHeld ?_
      · (intro w hSw; have hc9 := hxc _ hSw; go_simp; try with_reducible rfl)
      simp only [pS]; refine tz 8 43 hHeld ?_; simp only [pS]; refine tk 9 44 (v := .int .u64 (x0.n : Int)) ?_ hHeld ?_
      · (intro w hSw; have hc9 := hsh _ hSw; go_simp; try with_reducible rfl)
      simp only [pS]; refine tk 10 45 (v := .bool true) ?_ hHeld ?_
      · (intro w hSw; go_simp; try with_reducible rfl)
      simp only [pS]; refine wpAnyH_done (by kernel_rfl) ?_ _; refine NoPanic.normal ?_; go_wp2; go_roundw
      case rel => exact ⟨i + 1, by omega, by go_num, HBW.out.drew, HNX⟩
      case measure => simp [intOf]; omega
  · have hlti : ¬ (i : Int) < (m : Int) := by omega
    have HALL : Hid (∀ i' (hi : i' < P.Q.length), ¬ (P.Q[i']).x.n = x0.n) := fun i' hi => HNO.out i' hi (by have := HM.out; omega)
    clear HNO
    exact absurd (by
      have h9 := HX0.out; rw [← HH.out.lx, List.getElem?_map] at h9; cases hq : P.Q[i0]? with
      | none => rw [hq] at h9; cases h9
      | some y =>
       rw [hq] at h9; obtain ⟨hl9, e9⟩ := List.getElem?_eq_some_iff.1 hq
       exact ⟨i0, hl9, by rw [e9]; exact congrArg Fd.n (Option.some.inj h9)⟩ : ∃ i, ∃ hi : i < P.Q.length, (P.Q[i]).x.n = x0.n) (fun ⟨i', hi', h9⟩ => HALL.out i' hi' h9)
end
open Go.RowKit Go.Maps
section
variable {w w' : World} {P P' : Jp} {X : Value × Value} {t : Dd}
structure ToldJ (w w' : World) (P : Jp) (X : Value × Value) (t : Dd) (i0 : Nat) (x0 : Fd) (l out : List Rg) (P' : Jp) : Prop where
 ls : Lst out ∧ (∀ j, hasR out j ↔ hasR (x0.told ++ l) j) ∧ out.length ≤ (x0.told ++ l).length
 st : JS w' P' X { t with L := t.L.set i0 { x0 with told := out } }
 stp : JStp w w' P P'
 q : P'.q = P.q
theorem JS.setTold {w7 : World} (h : JS w P X t) (hb : Below w.heap.size w w7) {g m lc B i : Nat} {y : Fq} {out : List Rg} {d : Dc} (hlv : P.lv = .slice (some ⟨g, 0, none⟩) m lc) (hQ : P.Q[i]? = some y) (ho : OwnR w7 B d.v out) (hB : w.heap.size ≤ B) :
 JS (w7.setCell ⟨g, i * 7 + 4, none⟩ d.v) { P with Q := P.Q.set i { y with x := { y.x with told := out }, tl := d }, Z := fun b => P.Z b ∨ d.v.ownBlock = some b } X { t with L := t.L.set i { y.x with told := out } } ∧ JStp w (w7.setCell ⟨g, i * 7 + 4, none⟩ d.v) P { P with Q := P.Q.set i { y with x := { y.x with told := out }, tl := d }, Z := fun b => P.Z b ∨ d.v.ownBlock = some b } := by
 obtain ⟨hi, hy⟩ := List.getElem?_eq_some_iff.1 hQ; have hgo : P.lv.ownBlock = some g := by rw [hlv]; rfl
 have hgl := (h.l.lt' hgo).2; have hst : ∀ b, b ≠ g → (w7.setCell ⟨g, i * 7 + 4, none⟩ d.v).heap[b]? = w7.heap[b]? := fun b hb => heap_setCell_other w7 ⟨g, i * 7 + 4, none⟩ b _ hb
 have hz : ∀ b, P.Z b → (w7.setCell ⟨g, i * 7 + 4, none⟩ d.v).heap[b]? = w.heap[b]? := fun b hz => (hst b (fun e => (h.ql2 g hgo).2 (e ▸ hz))).trans (hb.block b (h.zt.lt hz))
 have hto : ∀ b, d.v.ownBlock = some b → B ≤ b ∧ b < w7.heap.size := fun b hb => World.ownsRow.lt ho b hb
 have ho8 : OwnR (w7.setCell ⟨g, i * 7 + 4, none⟩ d.v) 0 d.v out := (OwnR.base ho (Nat.zero_le _)).keptR (fun b hb => hst b (fun e => by have := (hto b hb).1; omega))
 have hm : m = P.Q.length := by
  obtain ⟨g', c', e, -⟩ := h.l.one (by omega); rw [hlv] at e; cases e; rfl
 have hmem : ∀ z, z ∈ P.Q.set i { y with x := { y.x with told := out }, tl := d } → z = { y with x := { y.x with told := out }, tl := d } ∨ z ∈ P.Q := fun z hz => by
  rcases List.mem_or_eq_of_mem_set hz with h9 | h9
  · exact .inr h9
  · exact .inl h9
 have hyQ : y ∈ P.Q := List.mem_of_getElem? hQ; refine ⟨⟨?_, ?_, h.rk, ?_, ?_, ?_, ?_, ?_, ?_⟩, ?_, ?_⟩
 · exact (hst P.q (fun e => (h.ql2 g hgo).1 e.symm)).trans ((hb.block P.q h.ql).trans h.blk)
 · exact h.row.kept (fun b hb' => (hst b (fun e => (h.qr b hb').2.1 (by rw [hgo, e]))).trans (hb.block b (h.row.lt hb')))
 · exact fun j r e h1 h2 => ((h.rs j r e h1 h2).kept hz).mono (fun b hb => .inl hb)
 · have h7 := h.l.below hb; show OwnG KJe _ 0 P.lv _; rw [hlv] at h7 ⊢; refine OwnG.setc h7 hm i 4 hi (by decide) _ d.v ?_; rw [hy]; rfl
 · show (P.Q.set i { y with x := { y.x with told := out }, tl := d }).map Fq.x = t.L.set i { y.x with told := out }; rw [List.map_set, h.lx]
 · intro z hz'; rcases hmem z hz' with rfl | h9
   · exact ((h.ls y hyQ).kept hz).mono (fun b hb => .inl hb)
   · exact ((h.ls z h9).kept hz).mono (fun b hb => .inl hb)
 · intro z hz'; rcases hmem z hz' with rfl | h9
   · exact ⟨ho8, fun b hb => .inr hb⟩
   · exact ((h.lq z h9).kept hz).mono (fun b hb => .inl hb)
 · intro b hb'; rcases hb' with h9 | h9
   · exact h.zt.kept hz b h9
   · obtain ⟨C, h8⟩ := ho8.atR h9; exact ⟨C, _, h8, by decide, by decide, by decide⟩
 · exact (Chg.of_below hb).trans (Chg.of_grown (F := fun b => b = g) (gset1 w7 g (i * 7 + 4) d.v) (fun b e => (Option.some.inj e).symm)) (fun b e => .inl (.inr (.inr (.inl (by rw [e]; exact hgo)))))
 · rintro b (rfl | hb' | hb' | hb' | hb')
   · exact .inl (.inl rfl)
   · exact .inl (.inr (.inl hb'))
   · exact .inl (.inr (.inr (.inl hb')))
   · exact .inl (.inr (.inr (.inr hb')))
   · exact .inr (Nat.le_trans hB (hto b hb').1)
set_option maxRecDepth 20000
set_option maxHeartbeats 6400000
theorem jhear_told (h : JS w P X t) (hi0 : DInv t) {i0 : Nat} {x0 : Fd} (hx0 : t.L[i0]? = some x0) (pt ix c : Int) (da : Option Addr) (dn dc : Nat) (ga : Option Addr) (gn gc : Nat) (l : List Rg) (hn : gn = l.length) (hx : RdR w ga l) (hl : gn ≤ 8796093022208) (hg0 : ga = none → gc = 0) (hri : RI x0.told ∧ RI l) (hle : x0.told.length + gn ≤ 1000000) (hv : validR 2 (t.ep : Int) (x0.n : Int) pt ix c dn 0 gn l) :
 Calls Tryz.prog 54 #[.pointer (some ⟨P.q, 0, none⟩), .agg (ucl 2 (t.ep : Int) (x0.n : Int) pt ix c da dn dc 0 ga gn gc)] w fun e9 w' => e9 = .returned (.tuple #[doneV 0 0 0, .bool false]) ∧ ∃ (out : List Rg) (P' : Jp), ToldJ w w' P X t i0 x0 l out P' := by
 have HX0 : Hid (t.L[i0]? = some x0) := hx0
 have HIDX : Hid (∀ i (hi : i < P.Q.length), (P.Q[i]).x.n = x0.n → i = i0) := fun i hi e => by
  have h1 : (t.L.map Fd.n)[i]? = some x0.n := by rw [← h.lx, List.map_map, List.getElem?_map, List.getElem?_eq_getElem hi]; exact congrArg some e
  have h2 : (t.L.map Fd.n)[i0]? = some x0.n := by rw [List.getElem?_map, hx0]; rfl
  exact nodup_at hi0.nn h1 h2
 have hi := hi0; have HG0 : Hid _ := hg0; have HRI : Hid _ := hri; have HLE : Hid _ := hle; have HGN : Hid _ := hn; have HGR : Hid (∀ u, Below w.heap.size w u → RdR u ga l) := fun u hu => hx.below hu
 clear hi0 hx0 hg0 hri hle; obtain ⟨w1, hw1⟩ : ∃ w1, w1 = (w.alloc (.cells (ucl 2 (t.ep : Int) (x0.n : Int) pt ix c da dn dc 0 ga gn gc) tUn)).alloc (.cells #[.int .i64 0, .int .u64 0, .int .i64 0] tDo) := ⟨_, rfl⟩; obtain ⟨hb1, hsz1, hu1, hd1⟩ := hboxes w _ w1 hw1; obtain ⟨la, lc, hlv, -, -, -, hrdQ⟩ := OwnG.val (h.below hb1).l; obtain ⟨m, hm⟩ : ∃ m, m = P.Q.length := ⟨_, rfl⟩; have hm64 : m ≤ 64 := by rw [hm, h.llen]; have := hi.len; omega
 rw [← hm] at hlv
 have hsh : ∀ u, Below w1.heap.size w1 u → u.cell? ⟨w.heap.size, 0, none⟩ = some (.int .i64 2) ∧ u.cell? ⟨w.heap.size, 1, none⟩ = some (.int .u64 (t.ep : Int)) ∧ u.cell? ⟨w.heap.size, 2, none⟩ = some (.int .u64 (x0.n : Int)) ∧ u.cell? ⟨w.heap.size, 3, none⟩ = some (.int .i64 pt) ∧ u.cell? ⟨w.heap.size, 4, none⟩ = some (.int .i64 ix) ∧ u.cell? ⟨w.heap.size, 5, none⟩ = some (.int .i64 c) ∧ u.cell? ⟨w.heap.size, 6, none⟩ = some (.slice da dn dc) ∧ u.cell? ⟨w.heap.size, 7, none⟩ = some (.int .i64 0) ∧ u.cell? ⟨w.heap.size, 8, none⟩ = some (.slice ga gn gc) ∧ u.cell? ⟨P.q, 6, none⟩ = some (.int .u64 (t.ep : Int)) ∧ u.cell? ⟨P.q, 9, none⟩ = some (.slice la m lc) := fun u hu => by
  have h9 := (hu.block _ (sI hu1).1).trans hu1; have h8 := (h.below hb1).below hu; refine ⟨?_, ?_, ?_, ?_, ?_, ?_, ?_, ?_, ?_, ?_, ?_⟩
  all_goals first | (rw [cR h9]; rfl) | exact h8.cell 6 | (rw [← hlv]; exact h8.cell 9)
 have HV : Hid (∀ u, Below w1.heap.size w1 u → Calls Tryz.prog 95 #[.agg (ucl 2 (t.ep : Int) (x0.n : Int) pt ix c da dn dc 0 ga gn gc)] u fun e w' => e = .returned (.int .i64 0) ∧ Below u.heap.size u w') := fun u hu => by
  have h9 := rvalid_t 2 (t.ep : Int) (x0.n : Int) pt ix c da dn dc 0 ga gn gc l true (by simp; exact hv) u hn (hx.below (hb1.trans (hu.mono hb1.size))) hl
  simpa using h9
 have hsh1 := hsh w1 (bR _ _); have HB1 : Hid _ := hb1; have HD1 : Hid _ := hd1; have HH : Hid _ := h; have HI : Hid _ := hi; have HM : Hid (m = P.Q.length) := hm; have HLV : Hid (P.lv = .slice la m lc) := hlv; have HRQ : Hid (RdG KJe w1 la P.Q) := hrdQ; have HW1 : Hid (w1 = _) := hw1; have HX : Hid (∀ u, Below w1.heap.size w1 u → Below w.heap.size w u) := fun u hu => hb1.trans (hu.mono hb1.size)
 have HSZ1 : Hid (w1.heap.size = w.heap.size + 2) := hsz1; clear h hi hb1 hw1 hd1 hu1 hsz1 hv hm hlv hrdQ hn hx hl; go_enter Tryz.func54, Tryz.ntmps54
 (go_wp2_with fail); rw [← HW1.out]; refine wp_region_noPanic ?_; refine wp_region_held_drew (S := (fun u => Below w1.heap.size w1 u)) (by kernel_rfl) (by first | exact (bR _ _).drew | assumption | exact below_next (by assumption) (by assumption)) (fun hHeld => ?_); refine tz 0 8 hHeld ?_; simp only [pS]; refine run_at (i := 1) rfl (by kernel_rfl) (by rfl) (fun K hK => ?_); simp only [gE]; go_simp
 (go_at_call 95; refine Calls.mono (HV.out _ (by assumption)) ?_; rintro e9 u5 ⟨rfl, hu5⟩)
 (go_wp2_with fail); refine hK.out _ _ (by first | exact (bR _ _).drew | assumption | exact below_next (by assumption) (by assumption)) ?_; clear hK K; clear hHeld; intro hHeld; (try simp only [pS]); refine tz 2 10 hHeld ?_; simp only [pS]; refine tz 3 11 hHeld ?_; simp only [pS]; refine tz 4 12 hHeld ?_; simp only [pS]; refine tz 5 13 hHeld ?_; simp only [pS]; refine tz 6 14 hHeld ?_; simp only [pS]; refine tz 7 15 hHeld ?_; simp only [pS]; refine tz 8 16 hHeld ?_; simp only [pS]; refine tz 9 17 hHeld ?_; simp only [pS]; refine tz 10 18 hHeld ?_; simp only [pS]; refine tz 11 19 hHeld ?_; simp only [pS]; refine tz 12 20 hHeld ?_; simp only [pS]; refine tz 13 21 hHeld ?_; simp only [pS]; refine tz 14 22 hHeld ?_; simp only [pS]; refine tk 15 23 (v := (Value.bool false)) ?_ hHeld ?_
 · (intro w hSw; (try dsimp only at hSw); go_simp)
 simp only [pS]; refine tz 16 24 hHeld ?_; simp only [pS]; refine wpAnyH_done (by kernel_rfl) ?_ _; refine NoPanic.normal ?_; have hb2 := hHeld; clear hu5 hsh1 hHeld
 have HRX : Hid (∀ u, Below w1.heap.size w1 u → ∀ i (hi : i < P.Q.length), ∃ b o, la = some ⟨b, o, none⟩ ∧ u.cell? ⟨b, o + i * 7, none⟩ = some (.int .u64 ((P.Q[i]).x.n : Int))) := fun u hu i hi => by
  obtain ⟨b, o, e, r1, -⟩ := RdG.below HRQ.out hu i hi; have h9 := r1 0 (.int .u64 ((P.Q[i]).x.n : Int)) rfl; rw [Nat.add_zero] at h9; exact ⟨b, o, e, h9⟩
 go_wp2; go_loopw [6] (fun j wr => ∃ i : Nat, i ≤ m ∧ j = .int .i64 (i : Int) ∧ Below w1.heap.size w1 wr ∧ Hid (∀ i' (hi : i' < P.Q.length), i' < i → ¬ (P.Q[i']).x.n = x0.n)) (fun j _ => m - (intOf j).toNat)
 case atStart => exact ⟨0, Nat.zero_le _, rfl, hb2, fun i' hi h9 => by omega⟩
 case round =>
  obtain ⟨i, him, rfl, hbw, HNO⟩ := hrel; clear hb2; have hkw : IntKind.i64.wrap ((i : Int) + 1) = ((i + 1 : Nat) : Int) := by rw [IntKind.wrap_i64]; omega
  have hshr := hsh wr hbw
  by_cases hlt : i < m
  · have hlti : (i : Int) < (m : Int) := by omega
    have hi0 : (0 : Int) ≤ (i : Int) := by omega
    have hi1 : i < P.Q.length := by rw [← HM.out]; exact hlt
    obtain ⟨b, o, e1, -⟩ := HRX.out wr hbw i hi1; subst e1; obtain ⟨x, hx⟩ : ∃ x : Fq, x = P.Q[i] := ⟨_, rfl⟩
    have hxc : ∀ u, Below w1.heap.size w1 u → u.cell? ⟨b, o + i * 7, none⟩ = some (.int .u64 (x.x.n : Int)) := fun u hu => by
     obtain ⟨b', o', e', h9⟩ := HRX.out u hu i hi1; cases e'; rw [hx]; exact h9
    have HXE : Hid (P.Q[i]? = some x) := by unfold Hid; rw [hx]; exact List.getElem?_eq_getElem hi1
    have HBW : Hid _ := hbw
    by_cases he : x.x.n = x0.n
    · obtain rfl : i = i0 := HIDX.out i hi1 (by rw [← hx]; exact he)
      have hxx : x.x = x0 := by
       have h9 := HX0.out; rw [← HH.out.lx, List.getElem?_map, HXE.out] at h9; exact Option.some.inj h9
      have hei : ((x.x.n : Int) == (x0.n : Int)) = true := by simp; omega
      have hei2 : (x.x.n : Int) = (x0.n : Int) := by omega
      have hei3 : ((x.x.n : Int) != (x0.n : Int)) = false := by simp; omega
      obtain ⟨g0, c0', hlv0, -⟩ := HH.out.l.one (by omega); have hla := HLV.out; rw [hlv0] at hla; obtain ⟨rfl, rfl⟩ : b = g0 ∧ o = 0 := by cases hla; exact ⟨rfl, rfl⟩
      clear hlv0 hla; have hiq : x ∈ P.Q := List.mem_of_getElem? HXE.out; have htz := HH.out.lq x hiq; obtain ⟨tv, htv⟩ : ∃ tv, tv = x.tl := ⟨_, rfl⟩; obtain ⟨ta, tn, tc⟩ := tv
      have htn : tn = x0.told.length := by
       obtain ⟨a9, c9, e9, -⟩ := OwnR.val htz.ow; rw [← htv, hxx] at e9; cases e9; rfl
      have hta : ta = none → tc = 0 := by
       obtain ⟨a9, c9, e9, -, -, h8, -, -⟩ := OwnR.val htz.ow; rw [← htv, hxx] at e9; cases e9; exact h8
      have hrt : ∀ u, Below w1.heap.size w1 u → RdR u ta x0.told := fun u hu => by
       have h9 := ((HH.out.below (HX.out u hu)).lq x hiq).ow; obtain ⟨a9, c9, e9, -, -, -, h8, -⟩ := OwnR.val h9; rw [← htv, hxx] at e9; cases e9; rw [hxx] at h8; exact h8
      have hrc : ∀ u, Below w1.heap.size w1 u → u.cell? ⟨b, 0 + i * 7 + 1 + 1 + 1 + 1, none⟩ = some (.slice ta tn tc) := fun u hu => by
       obtain ⟨b', o', e', r1, -⟩ := RdG.below HRQ.out hu i hi1; cases e'; have h9 := r1 4 (.slice ta tn tc) (by rw [← hx]; show some x.tl.v = _; rw [← htv]); exact h9
      have HUN : Hid (∀ u, Below w1.heap.size w1 u → Calls Tryz.prog 96 #[.slice ta tn tc, .slice ga gn gc] u fun e u' => LeastOut (x0.told ++ l) u e u') := fun u hu => runion_t ta ga tn gn tc gc x0.told l u htn HGN.out (hrt u hu) (HGR.out u (HX.out u hu)) (by rw [htn]; have := HLE.out; omega) HRI.out.1 HRI.out.2 hta HG0.out
      have HFR : Hid (∀ u, Below w1.heap.size w1 u → u.cell? ⟨b, i * 7 + 4, none⟩ = some (.slice ta tn tc) ∧ u.frozen? ⟨b, i * 7 + 4, none⟩ = false) := fun u hu => by
       have h9 := hrc u hu; rw [show 0 + i * 7 + 1 + 1 + 1 + 1 = i * 7 + 4 by omega] at h9; refine ⟨h9, ?_⟩; obtain ⟨cur, h8⟩ := (HH.out.below (HX.out u hu)).l.at_ (b := b) (by rw [HLV.out]; rfl); simp [World.frozen?, h8]
      have hxc1 : ∀ u, Below w1.heap.size w1 u → u.cell? ⟨b, i * 7, none⟩ = some (.int .u64 (x0.n : Int)) := fun u hu => by
       have h9 := hxc u hu; rw [Nat.zero_add, hxx] at h9; exact h9
      have hrc1 : ∀ u, Below w1.heap.size w1 u → u.cell? ⟨b, i * 7 + 4, none⟩ = some (.slice ta tn tc) := fun u hu => (HFR.out u hu).1
      have HXX : Hid (x.x = x0) := hxx; clear hxc hrc hei hei2 hei3 hxx; clear hx hi1 he HNO hiq htz htv htn hta hrt; (go_wp2_with fail); refine wp_region_noPanic ?_; refine wp_region_held_drew (S := (fun u => Below w1.heap.size w1 u)) (by kernel_rfl) (by first | exact hbw.drew | assumption) (fun hHeld => ?_); refine tz 0 35 hHeld ?_; simp only [pS]; refine tz 1 36 hHeld ?_; simp only [pS]; refine tz 2 37 hHeld ?_; simp only [pS]; refine tk 3 38 (v := .slice (some ⟨b, 0, none⟩) m lc) ?_ hHeld ?_
      · (intro w hSw; have hc9 := hsh _ hSw; go_simp; try with_reducible rfl)
      simp only [pS]; refine tz 4 39 hHeld ?_; simp only [pS]; refine tz 5 40 hHeld ?_; simp only [pS]; refine tz 6 41 hHeld ?_; simp only [pS]; refine tk 7 42 (v := .int .u64 (x0.n : Int)) ?_ hHeld ?_
      · (intro w hSw; have hc9 := hxc1 _ hSw; go_simp; try with_reducible rfl)
      simp only [pS]; refine tz 8 43 hHeld ?_; simp only [pS]; refine tk 9 44 (v := .int .u64 (x0.n : Int)) ?_ hHeld ?_
      · (intro w hSw; have hc9 := hsh _ hSw; go_simp; try with_reducible rfl)
      simp only [pS]; refine tk 10 45 (v := .bool false) ?_ hHeld ?_
      · (intro w hSw; go_simp; try with_reducible rfl)
      simp only [pS]; refine wpAnyH_done (by kernel_rfl) ?_ _; refine NoPanic.normal ?_; clear hHeld hshr hxc1; have hb2 : Below w1.heap.size w1 wr.drew := HBW.out.drew; obtain ⟨u5, hu5⟩ : ∃ u5, u5 = wr.drew := ⟨_, rfl⟩; rw [← hu5] at hb2 ⊢; have hsh5 := hsh u5 hb2; have HB2 : Hid _ := hb2; clear hu5; (go_wp2_with fail); refine wp_region_noPanic ?_; refine wp_region_late_drew (S := (fun u => Below w1.heap.size w1 u)) (X := [18]) (by kernel_rfl) (by first | exact hb2.drew | assumption | exact HB7.out) (fun hHeld => ?_); refine qA 0 49 hHeld ?_; simp only [pS]; refine qA 1 50 hHeld ?_; simp only [pS]; refine qA 2 51 hHeld ?_; simp only [pS]; refine qL 3 52 (v := .slice (some ⟨b, 0, none⟩) m lc) ?_ hHeld ?_
      · (intro w hSw; have hc9 := hsh _ hSw; go_simp; try with_reducible rfl)
      simp only [pS]; refine qA 4 53 hHeld ?_; simp only [pS]; refine qA 5 54 hHeld ?_; simp only [pS]; refine qA 6 55 hHeld ?_; simp only [pS]; refine qA 7 56 hHeld ?_; simp only [pS]; refine qL 8 57 (v := .slice (some ⟨b, 0, none⟩) m lc) ?_ hHeld ?_
      · (intro w hSw; have hc9 := hsh _ hSw; go_simp; try with_reducible rfl)
      simp only [pS]; refine qA 9 58 hHeld ?_; simp only [pS]; refine qA 10 59 hHeld ?_; simp only [pS]; refine qA 11 60 hHeld ?_; simp only [pS]; refine qL 12 61 (v := .slice ta tn tc) ?_ hHeld ?_
      · (intro w hSw; have hc9 := hrc1 _ hSw; go_simp; try with_reducible rfl)
      simp only [pS]; refine qA 13 62 hHeld ?_; simp only [pS]; refine qL 14 63 (v := .slice ga gn gc) ?_ hHeld ?_
      · (intro w hSw; have hc9 := hsh _ hSw; go_simp; try with_reducible rfl)
      simp only [pS]; refine run_atL (i := 15) rfl (by kernel_rfl) (by rfl) (fun K hK => ?_); simp only [gE]; go_simp
      (go_at_call 96; refine Calls.mono (HUN.out _ hb2.drew) ?_; rintro e9 w7 ⟨v, out, rfl, hov, hls, hhs, hlo, hb7⟩; obtain ⟨a7, cp7, hve, -, -, -, -, -⟩ := OwnR.val hov; obtain ⟨n7, hn7⟩ : ∃ n7, n7 = out.length := ⟨_, rfl⟩; rw [← hn7] at hve; subst hve; have HB7 : Hid (Below w1.heap.size w1 w7) := below_next hb2.drew hb7; have HOV : Hid _ := hov; have HLS : Hid (Lst out ∧ (∀ j, hasR out j ↔ hasR (x0.told ++ l) j) ∧ out.length ≤ (x0.told ++ l).length) := ⟨hls, hhs, hlo⟩; obtain ⟨hc3, hf3⟩ := HFR.out _ HB7.out; clear hov hls hhs hlo hb7 hn7)
      (go_wp2_with fail); refine hK.out _ _ (by first | exact hb2.drew | assumption | exact HB7.out) ?_; clear hK K; clear hHeld; intro hHeld; (try simp only [pS]); refine qA 16 65 hHeld ?_; simp only [pS]; refine qA 17 66 hHeld ?_; simp only [pS]; refine run_atLate (i := 18) rfl (by kernel_rfl) (by decide) (by rfl) (fun K hK => ?_); simp only [gE]; go_simp; (go_wp2_with fail); refine hK.out _ _ ?_; clear hK K; (try simp only [pS]); refine doneL (by kernel_rfl) ?_ _; refine NoPanic.normal ?_; clear hHeld hrc1 hsh hsh5; have hd7 := (HB7.out.block _ (sI HD1.out).1).trans HD1.out; have hg9 : P.lv.ownBlock = some b := by rw [HLV.out]; rfl
      have hbl : b < w.heap.size := (HH.out.l.lt' hg9).2; obtain ⟨w8, hw8⟩ : ∃ w8, w8 = w7.setCell ⟨b, i * 7 + 4, none⟩ (.slice a7 n7 cp7) := ⟨_, rfl⟩; have hd8 : w8.heap[w.heap.size + 1]? = some (.cells #[.int .i64 0, .int .u64 0, .int .i64 0] tDo (0, 0)) := by rw [hw8, heap_setCell_other _ _ _ _ (by show w.heap.size + 1 ≠ b; omega)]; exact hd7
      have HJ8 : Hid _ := (HH.out.below HB1.out).setTold HB7.out HLV.out HXE.out (d := ⟨a7, n7, cp7⟩) HOV.out (Nat.le_trans HB2.out.size (Nat.le_of_eq rfl)); have HW8 : Hid (w8 = _) := hw8
      try rw [← hw8]
      have c0 : w8.cell? ⟨w.heap.size + 1, 0, none⟩ = some (.int .i64 0) := by rw [cR hd8]; rfl
      have c1 : w8.cell? ⟨w.heap.size + 1, 1, none⟩ = some (.int .u64 0) := by rw [cR hd8]; rfl
      have c2 : w8.cell? ⟨w.heap.size + 1, 2, none⟩ = some (.int .i64 0) := by rw [cR hd8]; rfl
      have f0 : w8.frozen? ⟨w.heap.size + 1, 0, none⟩ = false := by simp [World.frozen?, hd8]
      have f1 : w8.frozen? ⟨w.heap.size + 1, 1, none⟩ = false := by simp [World.frozen?, hd8]
      have f2 : w8.frozen? ⟨w.heap.size + 1, 2, none⟩ = false := by simp [World.frozen?, hd8]
      clear hd7 hd8 hw8 hc3 hf3 hg9 hbl; go_wp2; refine bodyPost_ret (v := .tuple #[.agg #[.int .i64 0, .int .u64 0, .int .i64 0], .bool false]) (by simp [results, Tryz.results54, go_sem, c0, c1, c2, f0, f1, f2]) rfl ?_
      obtain ⟨h1, h2⟩ := HJ8.out; rw [HXX.out, ← HW8.out] at h1; rw [← HW8.out] at h2; refine ⟨rfl, out, _, HLS.out, h1.chg (Chg.of_grown (F := fun b => b = w.heap.size + 1) (grow_trans (grow_trans (gset1 _ _ _ _) (gset1 _ _ _ _)) (gset1 _ _ _ _)) (fun b e => (Option.some.inj e).symm)) (fun b hb e => ?_), ?_, rfl⟩
      · rcases h2.new b hb with h3 | h3
        · have := HH.out.lt h3; omega
        · have := HSZ1.out; omega
      · have h3 := (JStp.below HB1.out P).trans h2; refine ⟨h3.chg.trans (Chg.of_grown (F := fun b => b = w.heap.size + 1) (grow_trans (grow_trans (gset1 _ _ _ _) (gset1 _ _ _ _)) (gset1 _ _ _ _)) (fun b e => (Option.some.inj e).symm)) (fun b hb => .inr (by omega)), h3.new⟩
    · have hei : ((x.x.n : Int) == (x0.n : Int)) = false := by simp; omega
      have hei2 : ¬ (x.x.n : Int) = (x0.n : Int) := by omega
      have hei3 : ((x.x.n : Int) != (x0.n : Int)) = true := by simp; omega
      have HNX : Hid (∀ i' (hi : i' < P.Q.length), i' < i + 1 → ¬ (P.Q[i']).x.n = x0.n) := fun i' hi h9 => by
       by_cases e : i' = i
       · subst e; have h7 := HXE.out; rw [List.getElem?_eq_getElem hi] at h7; rw [Option.some.inj h7]; exact he
       · exact HNO.out i' hi (by omega)
      clear hx hi1 he HNO; (go_wp2_with fail); refine wp_region_noPanic ?_; refine wp_region_held_drew (S := (fun u => Below w1.heap.size w1 u)) (by kernel_rfl) (by first | exact hbw.drew | assumption) (fun hHeld => ?_); refine tz 0 35 hHeld ?_; simp only [pS]; refine tz 1 36 hHeld ?_; simp only [pS]; refine tz 2 37 hHeld ?_; simp only [pS]; refine tk 3 38 (v := .slice (some ⟨b, o, none⟩) m lc) ?_ hHeld ?_
      · (intro w hSw; have hc9 := hsh _ hSw; go_simp; try with_reducible rfl)
      simp only [pS]; refine tz 4 39 hHeld ?_; simp only [pS]; refine tz 5 40 hHeld ?_; simp only [pS]; refine tz 6 41 hHeld ?_; simp only [pS]; refine tk 7 42 (v := .int .u64 (x.x.n : Int)) ?_ hHeld ?_
      · (intro w hSw; have hc9 := hxc _ hSw; go_simp; try with_reducible rfl)
      simp only [pS]; refine tz 8 43 hHeld ?_; simp only [pS]; refine tk 9 44 (v := .int .u64 (x0.n : Int)) ?_ hHeld ?_
      · (intro w hSw; have hc9 := hsh _ hSw; go_simp; try with_reducible rfl)
      simp only [pS]; refine tk 10 45 (v := .bool true) ?_ hHeld ?_
      · (intro w hSw; go_simp; try with_reducible rfl)
      simp only [pS]; refine wpAnyH_done (by kernel_rfl) ?_ _; refine NoPanic.normal ?_; go_wp2; go_roundw
      case rel => exact ⟨i + 1, by omega, by go_num, HBW.out.drew, HNX⟩
      case measure => simp [intOf]; omega
  · have hlti : ¬ (i : Int) < (m : Int) := by omega
    have HALL : Hid (∀ i' (hi : i' < P.Q.length), ¬ (P.Q[i']).x.n = x0.n) := fun i' hi => HNO.out i' hi (by have := HM.out; omega)
    clear HNO
    exact absurd (by
      have h9 := HX0.out; rw [← HH.out.lx, List.getElem?_map] at h9; cases hq : P.Q[i0]? with
      | none => rw [hq] at h9; cases h9
      | some y =>
       rw [hq] at h9; obtain ⟨hl9, e9⟩ := List.getElem?_eq_some_iff.1 hq
       exact ⟨i0, hl9, by rw [e9]; exact congrArg Fd.n (Option.some.inj h9)⟩ : ∃ i, ∃ hi : i < P.Q.length, (P.Q[i]).x.n = x0.n) (fun ⟨i', hi', h9⟩ => HALL.out i' hi' h9)
end
open Go.RowKit Go.Maps
def misB (ep : Nat) (y : Fq) : List Bf := (missI y.x.told y.x.T.length).map (fun i => ⟨ep, y.x.n, i, y.x.T.length, y.E.getD i Dc.z⟩)
def filB (ep : Nat) (y : Fq) (k : Nat) : List Bf := ((List.range k).filter (fun i => !hasN y.x.told i)).map (fun i => ⟨ep, y.x.n, i, y.x.T.length, y.E.getD i Dc.z⟩)
theorem filB_succ (ep : Nat) (y : Fq) (k : Nat) : filB ep y (k + 1) = filB ep y k ++ (if hasN y.x.told k then [] else [⟨ep, y.x.n, k, y.x.T.length, y.E.getD k Dc.z⟩]) := by
 unfold filB; rw [List.range_succ, List.filter_append, List.map_append]
 congr 1
 cases h : hasN y.x.told k <;> simp [h]
theorem filB_len (ep : Nat) (y : Fq) (k : Nat) : (filB ep y k).length ≤ k := by
 unfold filB; rw [List.length_map]; exact Nat.le_trans (List.length_filter_le _ _) (by simp)
theorem misB_fil {ep : Nat} {y : Fq} (h : ¬ filB ep y y.x.T.length = []) : misB ep y = filB ep y y.x.T.length := by
 unfold misB filB missI at *; rw [if_neg (fun e => h (by rw [e]; rfl))]
theorem misB_last {ep : Nat} {y : Fq} (h : filB ep y y.x.T.length = []) : misB ep y = [⟨ep, y.x.n, y.x.T.length - 1, y.x.T.length, y.E.getD (y.x.T.length - 1) Dc.z⟩] := by
 unfold misB filB missI at *; rw [if_pos (List.map_eq_nil_iff.1 h)]
 rfl
theorem hasBN (l : List Rg) (i : Nat) : hasB l (i : Int) = hasN l i := by
 unfold hasB hasN
 congr 1
 funext r
 rw [Bool.decide_and]
structure MisO (w w' : World) (ep : Nat) (y : Fq) (v : Value) : Prop where
 ex : ∃ b o c, v = .slice (some ⟨b, o, none⟩) (misB ep y).length c ∧ RdG KBf w' (some ⟨b, o, none⟩) (misB ep y) ∧ w.heap.size ≤ b
 bl : Below w.heap.size w w'
section
variable {w w' : World} {P P' : Jp} {X : Value × Value} {t : Dd} {Z : Nat → Prop}
set_option maxRecDepth 20000
set_option maxHeartbeats 6400000
theorem jmissing_t (h : JS w P X t) (y : Fq) (hs : SegZ w Z y.sg y.x.T y.E) (ht : TolZ w Z y.tl y.x.told) (h1 : 1 ≤ y.x.T.length) (h64 : y.x.T.length ≤ 64) (htd : y.x.told.length ≤ 1000000) : Calls Tryz.prog 98 #[.pointer (some ⟨P.q, 0, none⟩), .agg (fqv y).toArray] w fun e w' => ∃ v, e = .returned v ∧ MisO w w' t.ep y v := by
 obtain ⟨w1, hw1⟩ : ∃ w1, w1 = w.alloc (.cells (fqv y).toArray tJe) := ⟨_, rfl⟩; have hb1 : Below w.heap.size w w1 := by rw [hw1]; exact alw (bR _ _) _
 have hbx : w1.heap[w.heap.size]? = some (.cells (fqv y).toArray tJe (0, 0)) := by rw [hw1]; exact heap_alloc_new w _
 have hEl : y.E.length = y.x.T.length := hs.ls.fml.len; obtain ⟨g, c, hsv, hNc, -, -, -⟩ := hs.ls.row.one (by omega); obtain ⟨N, hN⟩ : ∃ N, N = y.x.T.length := ⟨_, rfl⟩; rw [hEl, ← hN] at hsv; obtain ⟨ta, tc, htv, -, -, hta, hrt, -⟩ := OwnR.val ht.ow; obtain ⟨tn, htn⟩ : ∃ tn, tn = y.x.told.length := ⟨_, rfl⟩; rw [← htn] at htv htd
 have hsh : ∀ u, Below w1.heap.size w1 u → u.cell? ⟨P.q, 6, none⟩ = some (.int .u64 (t.ep : Int)) ∧ u.cell? ⟨w.heap.size, 0, none⟩ = some (.int .u64 (y.x.n : Int)) ∧ u.cell? ⟨w.heap.size, 3, none⟩ = some (.slice (some ⟨g, 0, none⟩) N c) ∧ u.cell? ⟨w.heap.size, 4, none⟩ = some (.slice ta tn tc) := fun u hu => by
  have h9 := (hu.block _ (sI hbx).1).trans hbx; refine ⟨((h.below hb1).below hu).cell 6, ?_, ?_, ?_⟩
  · rw [cR h9]; rfl
  · rw [cR h9, ← hsv]; rfl
  · rw [cR h9, ← htv]; rfl
 have HUN : Hid (∀ u, Below w1.heap.size w1 u → Calls Tryz.prog 93 #[.int .u64 (t.ep : Int), .int .u64 (y.x.n : Int), .int .i64 2, .slice (some ⟨g, 0, none⟩) N c] u fun e w' => ∃ v, e = .returned v ∧ OwnG KBf w' u.heap.size v (unF t.ep y.x.n N y.E) ∧ Below u.heap.size u w') := fun u hu => by
  have h9 := (hs.ls.row.below hb1).below hu; rw [hsv] at h9; exact runitsF_t t.ep y.x.n g N c 0 y.E (by rw [hEl]; exact hN) (by omega) h9
 have HRT : Hid (∀ u, Below w1.heap.size w1 u → RdR u ta y.x.told) := fun u hu => (hrt.below hb1).below hu
 have HTN : Hid (tn = y.x.told.length) := htn; have HN : Hid (N = y.x.T.length) := hN; have HEL : Hid (y.E.length = N) := hEl.trans hN.symm; have HB1 : Hid _ := hb1; have HW1 : Hid (w1 = _) := hw1; have hN1 : 1 ≤ N := by omega
 have hN64 : N ≤ 64 := by omega
 clear h hs ht h1 h64 hw1 hb1 hbx hEl hsv hNc hN htv hta hrt htn; go_enter Tryz.func98, Tryz.ntmps98
 (go_wp2_with fail); rw [← HW1.out]; refine wp_region_noPanic ?_; refine wp_region_held_drew (S := (fun u => Below w1.heap.size w1 u)) (by kernel_rfl) (by first | exact (bR _ _).drew | assumption | exact HB2.out) (fun hHeld => ?_); refine tz 0 8 hHeld ?_; simp only [pS]; refine tz 1 9 hHeld ?_; simp only [pS]; refine tz 2 10 hHeld ?_; simp only [pS]; refine tk 3 11 (v := .int .u64 (t.ep : Int)) ?_ hHeld ?_
 · (intro w hSw; have hc9 := hsh _ hSw; go_simp; try with_reducible rfl)
 simp only [pS]; refine tz 4 12 hHeld ?_; simp only [pS]; refine tk 5 13 (v := .int .u64 (y.x.n : Int)) ?_ hHeld ?_
 · (intro w hSw; have hc9 := hsh _ hSw; go_simp; try with_reducible rfl)
 simp only [pS]; refine tz 6 14 hHeld ?_; simp only [pS]; refine tk 7 15 (v := .slice (some ⟨g, 0, none⟩) N c) ?_ hHeld ?_
 · (intro w hSw; have hc9 := hsh _ hSw; go_simp; try with_reducible rfl)
 simp only [pS]; refine run_at (i := 8) rfl (by kernel_rfl) (by rfl) (fun K hK => ?_); simp only [gE]; go_simp
 (go_at_call 93; refine Calls.mono (HUN.out _ (by assumption)) ?_; rintro e9 w2 ⟨v2, rfl, hown2, hb2'⟩; have HB2 : Hid (Below w1.heap.size w1 w2) := below_next (by assumption) hb2'; obtain ⟨a2, c2, hv2, hc2, hc2m, -, hrd2⟩ := OwnG.val hown2; rw [unF_len, HEL.out] at hv2 hc2; subst hv2; have HO2 : Hid _ := hown2; have HSZ2 : Hid (w1.heap.size ≤ w2.heap.size) := HB2.out.size; have HR2 : Hid (RdG KBf w2 a2 (unF t.ep y.x.n N y.E)) := hrd2; clear hown2 hb2' hrd2)
 (go_wp2_with fail); refine hK.out _ _ (by first | exact (bR _ _).drew | assumption | exact HB2.out) ?_; clear hK K; clear hHeld; intro hHeld; (try simp only [pS]); refine tz 9 5 hHeld ?_; simp only [pS]; refine wpAnyH_done (by kernel_rfl) ?_ _; refine NoPanic.normal ?_; clear hHeld
 obtain ⟨g2, hg2⟩ : ∃ g2, a2 = some ⟨g2, 0, none⟩ ∧ w1.heap.size ≤ g2 := by
  obtain ⟨g9, c9, e9, -, -, h8, -⟩ := OwnG.one HO2.out (by rw [unF_len, HEL.out]; omega); rw [unF_len, HEL.out] at e9; cases e9; exact ⟨g9, rfl, h8⟩
 obtain ⟨rfl, hg2l⟩ := hg2; have HC2 : Hid (c2 ≤ maxLen) := hc2m; clear hc2m; go_wp2; go_loopw [6, 7] (fun u j wr => ∃ k : Nat, k ≤ N ∧ j = .int .i64 (k : Int) ∧ OwnG KBf wr w2.heap.size u (filB t.ep y k) ∧ Below w2.heap.size w2 wr) (fun _ j _ => N - (intOf j).toNat)
 case atStart => exact ⟨0, Nat.zero_le _, rfl, World.ownsRow_nil _ _ _ _, bR _ _⟩
 case round =>
  obtain ⟨k, hkn, rfl, hown, hbw⟩ := hrel; have hkw : IntKind.i64.wrap ((k : Int) + 1) = ((k + 1 : Nat) : Int) := by rw [IntKind.wrap_i64]; omega
  have hbr : Below w1.heap.size w1 wr := below_next HB2.out hbw; have hshr := hsh wr hbr; obtain ⟨a6, c6, hv6, -⟩ := OwnG.val hown; obtain ⟨n6, hn6⟩ : ∃ n6, n6 = (filB t.ep y k).length := ⟨_, rfl⟩; have hn6k : n6 ≤ 64 := by rw [hn6]; have := filB_len t.ep y k; omega
  rw [← hn6] at hv6; subst hv6; have HN6 : Hid _ := hn6; have HBW : Hid _ := hbw; have HSZR : Hid (w2.heap.size ≤ wr.heap.size) := hbw.size
  by_cases hlt : k < N
  · have hlti : (k : Int) < (N : Int) := by omega
    have hk0 : (0 : Int) ≤ (k : Int) := by omega
    have HHA : Hid _ := rhas_t ta tn tc y.x.told (k : Int) wr HTN.out (HRT.out wr hbr) (by omega); rw [hasBN] at HHA; have hkE : k < y.E.length := by rw [HEL.out]; exact hlt
    obtain ⟨d, hd⟩ : ∃ d : Bf, d = ⟨t.ep, y.x.n, k, N, y.E.getD k Dc.z⟩ := ⟨_, rfl⟩; have hgd : (unF t.ep y.x.n N y.E)[k]'(by rw [unF_len]; exact hkE) = d := by rw [unF_get _ _ _ _ k hkE, hd, List.getD_eq_getElem?_getD, List.getElem?_eq_getElem hkE]; rfl
    obtain ⟨b', o', e', r1, -⟩ := RdG.below HR2.out hbw k (by rw [unF_len]; exact hkE); cases e'; rw [hgd] at r1; obtain ⟨dd, hdd⟩ : ∃ dd, dd = y.E.getD k Dc.z := ⟨_, rfl⟩; rw [← hdd] at hd; subst hd; have q0 := r1 0 (.int .i64 1) rfl; have q1 := r1 1 (.int .u64 (t.ep : Int)) rfl; have q2 := r1 2 (.int .u64 (y.x.n : Int)) rfl; have q3 := r1 3 (.int .i64 2) rfl; have q4 := r1 4 (.int .i64 (k : Int)) rfl; have q5 := r1 5 (.int .i64 (N : Int)) rfl; have q6 := r1 6 (.slice dd.a dd.n dd.c) rfl; have q7 := r1 7 (.int .i64 0) rfl; have q8 := r1 8 (.slice none 0 0) rfl; rw [Nat.add_zero] at q0; rw [Nat.zero_add] at q0 q1 q2 q3 q4 q5 q6 q7 q8; cases hbn : hasN y.x.told k
    · have HFB : Hid (filB t.ep y k ++ [⟨t.ep, y.x.n, k, N, dd⟩] = filB t.ep y (k + 1)) := by unfold Hid; rw [filB_succ, hbn, hdd, HN.out]; rfl
      have HO : Hid (OwnG KBf (wr.alloc (.cells (bfv ⟨t.ep, y.x.n, k, N, dd⟩).toArray tUf)) w2.heap.size (.slice a6 n6 c6) (filB t.ep y k)) := hown.below (alw (bR _ _) _); have HL3 : Hid (∀ b, (Value.slice a6 n6 c6).ownBlock = some b → w2.heap.size ≤ b) := fun b hb => (hown.lt' hb).1
      rw [hbn] at HHA; clear r1 hgd hdd hkE hown hbw hbr hn6; go_wp2_with (first | (go_at_call 120; refine Calls.mono HHA.out ?_; rintro e9 u9 ⟨rfl, hq9⟩; have hq9 := hq9.symm; subst hq9) | (at_builtin; refine wp_appG1 (K := KBf) rfl _ _ rfl w2.heap.size (.slice a6 n6 c6) (filB t.ep y k) ⟨t.ep, y.x.n, k, N, dd⟩ n6 HN6.out ⟨wr.heap.size, 0, none⟩ 1 rfl HO.out rfl (rdUf_new _ _ _ rfl) (by show (n6 + 1) * 104 ≤ _; omega) (by simp only [maxLen]; omega) (by have := HSZR.out; simp; omega) ?_; intro g7 c7 w7 hown7 hg7 hlie7; rw [HFB.out] at hown7; have HO7 : Hid _ := hown7; have HG7 : Hid _ := hg7; clear hown7 hg7 hlie7))
      go_roundw
      case rel => exact ⟨k + 1, hlt, by go_num, HO7.out, (alw HBW.out _).grown HG7.out (by have := HSZR.out; simp; omega) (fun j hj => HL3.out j hj)⟩
      case measure => simp [intOf]; omega
    · have HFB : Hid (filB t.ep y k = filB t.ep y (k + 1)) := by unfold Hid; rw [filB_succ, hbn]; simp
      have HO : Hid _ := hown; rw [hbn] at HHA; clear r1 hgd hdd hkE hown hbw hbr hn6 q0 q1 q2 q3 q4 q5 q6 q7 q8; go_wp2_with (go_at_call 120; refine Calls.mono HHA.out ?_; rintro e9 u9 ⟨rfl, hq9⟩; have hq9 := hq9.symm; subst hq9)
      go_roundw
      case rel => exact ⟨k + 1, hlt, by go_num, by rw [← HFB.out]; exact HO.out, HBW.out⟩
      case measure => simp [intOf]; omega
  · have hlti : ¬ (k : Int) < (N : Int) := by omega
    obtain rfl : k = N := by omega
    have hbr2 := hbr
    by_cases hem : filB t.ep y k = []
    · obtain rfl : n6 = 0 := by rw [hn6, hem]; rfl
      obtain ⟨M, hM⟩ : ∃ M, M = k - 1 := ⟨_, rfl⟩; have hMw : IntKind.i64.wrap ((k : Int) - 1) = (M : Int) := by rw [IntKind.wrap_i64]; omega
      have hM0 : (0 : Int) ≤ (M : Int) := by omega
      have hMk : (M : Int) ≤ (k : Int) := by omega
      have hMkn : M ≤ k := by omega
      have hMc : (M : Int) ≤ (c2 : Int) := by omega
      have hMcn : M ≤ c2 := by omega
      have hMne : ¬ c2 = M := by omega
      have HM : Hid (M = k - 1) := hM
      have HLA : Hid (misB t.ep y = [⟨t.ep, y.x.n, M, k, y.E.getD M Dc.z⟩]) := by
       unfold Hid; rw [misB_last (by rw [← HN.out]; exact hem), ← HN.out, hM]
      have HDR : Hid (RdG KBf wr (some ⟨g2, 0 + M * 9, none⟩) [⟨t.ep, y.x.n, M, k, y.E.getD M Dc.z⟩]) := by
       have h9 := RdG.drop (RdG.below HR2.out hbw) M; have hME : M < y.E.length := by rw [HEL.out]; omega
       have e9 : (unF t.ep y.x.n k y.E).drop M = [⟨t.ep, y.x.n, M, k, y.E.getD M Dc.z⟩] := by
        rw [List.drop_eq_getElem_cons (by rw [unF_len]; exact hME), unF_get _ _ _ _ M hME, List.drop_eq_nil_of_le (by rw [unF_len, HEL.out]; omega), List.getD_eq_getElem?_getD, List.getElem?_eq_getElem hME]
        rfl
       rw [e9] at h9; exact h9
      clear hem hn6 hM hown hbw hbr hbr2 hshr hlt; go_wp2; go_ret; refine ⟨_, rfl, ⟨g2, M * 9, c2 - M, ?_, ?_, Nat.le_trans HB1.out.size hg2l⟩, below_next HB1.out (below_next HB2.out HBW.out)⟩
      · rw [HLA.out]; show Value.slice _ (k - M) _ = Value.slice _ 1 _; rw [show k - M = 1 by have := HM.out; omega]
      · rw [HLA.out]; have h9 := HDR.out; rw [Nat.zero_add] at h9; exact h9
    · have hn60 : ¬ n6 = 0 := fun e => hem (List.eq_nil_of_length_eq_zero (by omega))
      have hn6b : ((n6 : Int) == 0) = false := by simp; omega
      have HMF : Hid (misB t.ep y = filB t.ep y k) := by
       unfold Hid; rw [misB_fil (by rw [← HN.out]; exact hem), ← HN.out]
      obtain ⟨g6, c6', e6, -, -, hg6, -⟩ := OwnG.one hown (by omega); rw [← hn6] at e6; cases e6; have HO : Hid _ := hown; clear hem hn6 hown hbw hbr hbr2 hshr hlt; go_wp2; go_ret; refine ⟨_, rfl, ⟨g6, 0, c6, ?_, ?_, ?_⟩, below_next HB1.out (below_next HB2.out HBW.out)⟩
      · rw [HMF.out, ← HN6.out]; rfl
      · rw [HMF.out]; have h9 := HO.out; rw [HN6.out] at h9; exact OwnG.rd h9
      · exact Nat.le_trans (below_next HB1.out HB2.out).size hg6
end
open Go.RowKit Go.Maps
def agJ (t : Dd) (y : Fq) : Fq := { y with x := { y.x with ag := y.x.ag + 1, due := min (t.clk + t.rt) mxX } }
def tkU (t : Dd) (y : Fq) : List Bf := if y.x.due ≤ t.clk then (if y.x.ag = t.rs then [] else misB t.ep y) else []
def tkK (t : Dd) (y : Fq) : List Fk := if y.x.due ≤ t.clk then (if y.x.ag = t.rs then [y.x.k] else []) else []
def tkL (t : Dd) (y : Fq) : List Fq := if y.x.due ≤ t.clk then (if y.x.ag = t.rs then [] else [agJ t y]) else [y]
def unJ (t : Dd) (Q : List Fq) : List Bf := Q.flatMap (tkU t)
def loJ (t : Dd) (Q : List Fq) : List Fk := Q.flatMap (tkK t)
def leJ (t : Dd) (Q : List Fq) : List Fq := Q.flatMap (tkL t)
theorem flat_snoc {α β : Type} (f : α → List β) (l : List α) (i : Nat) (x : α) (h : l[i]? = some x) : (l.take (i + 1)).flatMap f = (l.take i).flatMap f ++ f x := by
 obtain ⟨hl, e⟩ := List.getElem?_eq_some_iff.1 h; rw [List.take_succ_eq_append_getElem hl, List.flatMap_append, e]; simp
theorem flat_len {α β : Type} (f : α → List β) (b : Nat) : ∀ (l : List α), (∀ x, x ∈ l → (f x).length ≤ b) → (l.flatMap f).length ≤ l.length * b
 | [], _ => by simp
 | x :: r, h => by
  rw [List.flatMap_cons, List.length_append, List.length_cons, Nat.succ_mul]; have h1 := h x (by simp); have h2 := flat_len f b r (fun y hy => h y (List.mem_cons_of_mem _ hy)); omega
theorem misB_len (ep : Nat) (y : Fq) : (misB ep y).length ≤ y.x.T.length + 1 := by
 unfold misB; rw [List.length_map]; exact (missI_len _ _).1
section
variable {α : Type} {K : Kd α}
theorem OwnG.keptT {w w' : World} {B : Nat} {v : Value} {xs : List α} {row : Option Nat} {ty : TypeId} (h : OwnG K w B v xs) (hg : w.grownBy w' row) (hr : ∀ b, row = some b → ∃ cur, w.heap[b]? = some (.cells cur ty (0, 0))) (ht : ty ≠ K.t) : OwnG K w' B v xs := h.kept (fun b hb => hg.block b (h.lt' hb).2 (fun e => by
 obtain ⟨cur, h1⟩ := hr b e.symm; obtain ⟨cur2, h2⟩ := h.at_ hb; rw [h1] at h2
 injection h2 with h2
 injection h2 with h2 h3
 exact ht h3))
end
structure TickJ (w w' : World) (P : Jp) (X : Value × Value) (t : Dd) (v4 v5 v8 : Value) : Prop where
 us : OwnG KBf w' w.heap.size v4 (unJ t P.Q)
 ks : OwnG KKy w' w.heap.size v5 (loJ t P.Q)
 st : JS w' { P with lv := v8, Q := leJ t P.Q } X { t with L := (leJ t P.Q).map Fq.x }
 stp : JStp w w' P { P with lv := v8, Q := leJ t P.Q }
 far : ∀ b, v4.ownBlock = some b ∨ v5.ownBlock = some b → ¬ footJ { P with lv := v8, Q := leJ t P.Q } b
structure TkJ (w1 wr : World) (t : Dd) (Q : List Fq) (u6 u7 u8 : Value) : Prop where
 us : OwnG KBf wr w1.heap.size u6 (unJ t Q)
 ks : OwnG KKy wr w1.heap.size u7 (loJ t Q)
 ls : OwnG KJe wr w1.heap.size u8 (leJ t Q)
 bl : Below w1.heap.size w1 wr
section
variable {w w' : World} {P P' : Jp} {X : Value × Value} {t : Dd} {Z : Nat → Prop}
theorem TkJ.below {w1 wr u : World} {Q : List Fq} {u6 u7 u8 : Value} (h : TkJ w1 wr t Q u6 u7 u8) (hb : Below wr.heap.size wr u) : TkJ w1 u t Q u6 u7 u8 := ⟨h.us.below hb, h.ks.below hb, h.ls.below hb, below_next h.bl hb⟩
theorem leJ_mem {Q : List Fq} {z : Fq} (h : z ∈ leJ t Q) : ∃ y, y ∈ Q ∧ z.sg = y.sg ∧ z.tl = y.tl ∧ z.E = y.E ∧ z.x.T = y.x.T ∧ z.x.told = y.x.told := by
 obtain ⟨y, hy, hz⟩ := List.mem_flatMap.1 h; refine ⟨y, hy, ?_⟩; unfold tkL at hz; split at hz
 · split at hz
   · cases hz
   · rw [List.mem_singleton.1 hz]; exact ⟨rfl, rfl, rfl, rfl, rfl⟩
 · rw [List.mem_singleton.1 hz]; exact ⟨rfl, rfl, rfl, rfl, rfl⟩
theorem tick_end {w1 wr : World} {u6 u7 u8 : Value} (h : JS w1 P X t) (hs : JStp w w1 P P) (hT : TkJ w1 wr t P.Q u6 u7 u8) : TickJ w (wr.setCell ⟨P.q, 9, none⟩ u8) P X t u6 u7 u8 := by
 have hz : ∀ b, P.Z b → wr.heap[b]? = w1.heap[b]? := fun b hz => hT.bl.block b (h.zt.lt hz)
 obtain ⟨h8, h9⟩ := h.setL (Chg.of_below hT.bl) (hT.ls.base (Nat.zero_le _)) (fun b e => .inr (hT.ls.lt' e).1) (Z' := P.Z) (fun _ h => h) (h.zt.kept hz) (fun _ h => .inl h) (fun z hz' => by
   obtain ⟨y, hy, e1, -, e3, e4, -⟩ := leJ_mem hz'
   rw [e1, e3, e4]; exact (h.ls y hy).kept hz) (fun z hz' => by
   obtain ⟨y, hy, -, e2, -, -, e5⟩ := leJ_mem hz'
   rw [e2, e5]; exact (h.lq y hy).kept hz)
 have hst : ∀ b, b ≠ P.q → (wr.setCell ⟨P.q, 9, none⟩ u8).heap[b]? = wr.heap[b]? := fun b hb => heap_setCell_other wr ⟨P.q, 9, none⟩ b _ hb
 have hql := h.ql; refine ⟨?_, ?_, h8, hs.trans h9, ?_⟩
 · exact (hT.us.kept (fun b hb => hst b (fun e => by have := (hT.us.lt' hb).1; omega))).base hs.chg.size
 · exact (hT.ks.kept (fun b hb => hst b (fun e => by have := (hT.ks.lt' hb).1; omega))).base hs.chg.size
 · intro b hb hf
   have hbl : w1.heap.size ≤ b := by
    rcases hb with hb | hb
    · exact (hT.us.lt' hb).1
    · exact (hT.ks.lt' hb).1
   rcases hf with hf | hf | hf | hf
   · have hf : b = P.q := hf; omega
   · have := h.row.lt hf; omega
   · have hf : u8.ownBlock = some b := hf; obtain ⟨c8, e8⟩ := hT.ls.at_ hf; rcases hb with hb | hb
     · obtain ⟨c6, e6⟩ := hT.us.at_ hb; rw [e8] at e6
       injection e6 with e6
       injection e6 with e6 e7
       exact absurd e7 (by decide)
     · obtain ⟨c6, e6⟩ := hT.ks.at_ hb; rw [e8] at e6
       injection e6 with e6
       injection e6 with e6 e7
       exact absurd e7 (by decide)
   · have := h.zt.lt hf; omega
set_option maxRecDepth 20000
set_option maxHeartbeats 6400000
theorem jtick_t (h : JS w P X t) (hi : DInv t) (now : Nat) : Calls Tryz.prog 56 #[.pointer (some ⟨P.q, 0, none⟩), .int .u64 (now : Int)] w fun e w' => ∃ v4 v5 v8, e = .returned (.tuple #[v4, v5]) ∧ TickJ w w' P X { t with clk := max t.clk (min now mxX) } v4 v5 v8 := by
 have HON : Hid _ := jon_t h now; obtain ⟨C, hC⟩ : ∃ C, C = max t.clk (min now mxX) := ⟨_, rfl⟩; have hCm : C ≤ mxX := by rw [hC]; have := hi.c; omega
 rw [← hC] at HON ⊢; obtain ⟨t1, ht1⟩ : ∃ t1 : Dd, t1 = { t with clk := C } := ⟨_, rfl⟩; rw [← ht1] at HON ⊢; have hi1 : DInv t1 := by rw [ht1]; exact ⟨hi.mt, hi.rt, hi.rs, hi.wn, hCm, hi.len, hi.num, hi.nn, hi.nk, hi.blk, hi.seg, hi.td, hi.ag⟩
 obtain ⟨m, hm⟩ : ∃ m, m = P.Q.length := ⟨_, rfl⟩; have hm64 : m ≤ 64 := by rw [hm, h.llen]; have := hi.len; omega
 have HM : Hid (m = P.Q.length) := hm; have HSZ : Hid (∀ b, footJ P b → b < w.heap.size) := fun b hb => h.lt hb
 have HI : Hid _ := hi1; clear h hi hC hCm ht1 hi1 hm; go_enter Tryz.func56, Tryz.ntmps56
 go_wp2_with (go_at_call 91; refine Calls.mono HON.out ?_; rintro e9 w1 ⟨rfl, hJ1, hS1⟩; have HJ1 : Hid _ := hJ1; have HS1 : Hid _ := hS1; clear hJ1 hS1)
 obtain ⟨la, lc, hlv, -, -, -, hrdQ⟩ := OwnG.val HJ1.out.l; rw [← HM.out] at hlv
 have hcl : ∀ u, Below w1.heap.size w1 u → u.cell? ⟨P.q, 9, none⟩ = some (.slice la m lc) ∧ u.cell? ⟨P.q, 7, none⟩ = some (.int .u64 (t1.clk : Int)) ∧ u.cell? ⟨P.q, 3, none⟩ = some (.int .i64 (t1.rs : Int)) ∧ u.cell? ⟨P.q, 2, none⟩ = some (.int .u64 (t1.rt : Int)) := fun u hu => by
  have h9 := HJ1.out.below hu; exact ⟨by rw [← hlv]; exact h9.cell 9, h9.cell 7, h9.cell 3, h9.cell 2⟩
 have HRQ : Hid (RdG KJe w1 la P.Q) := hrdQ; have HLV : Hid (P.lv = _) := hlv; clear hrdQ hlv; go_loopw [6, 7, 8, 9] (fun u6 u7 u8 j wr => ∃ i : Nat, i ≤ m ∧ j = .int .i64 (i : Int) ∧ TkJ w1 wr t1 (P.Q.take i) u6 u7 u8) (fun _ _ _ j _ => m - (intOf j).toNat)
 case atStart => exact ⟨0, Nat.zero_le _, rfl, World.ownsRow_nil _ _ _ _, World.ownsRow_nil _ _ _ _, World.ownsRow_nil _ _ _ _, bR _ _⟩
 case round =>
  obtain ⟨i, him, rfl, hT⟩ := hrel; have hkw : IntKind.i64.wrap ((i : Int) + 1) = ((i + 1 : Nat) : Int) := by rw [IntKind.wrap_i64]; omega
  have hclr := hcl wr hT.bl; obtain ⟨a6, c6, hv6, -⟩ := OwnG.val hT.us; obtain ⟨a7, c7, hv7, -⟩ := OwnG.val hT.ks; obtain ⟨a8, c8, hv8, -⟩ := OwnG.val hT.ls; obtain ⟨n6, hn6⟩ : ∃ n6, n6 = (unJ t1 (P.Q.take i)).length := ⟨_, rfl⟩; obtain ⟨n7, hn7⟩ : ∃ n7, n7 = (loJ t1 (P.Q.take i)).length := ⟨_, rfl⟩; obtain ⟨n8, hn8⟩ : ∃ n8, n8 = (leJ t1 (P.Q.take i)).length := ⟨_, rfl⟩; rw [← hn6] at hv6; rw [← hn7] at hv7; rw [← hn8] at hv8; subst hv6; subst hv7; subst hv8; have hmq : ∀ y, y ∈ P.Q → y.x ∈ t1.L := fun y hy => by rw [← HJ1.out.lx]; exact List.mem_map.2 ⟨y, hy, rfl⟩
  have htl : (P.Q.take i).length ≤ 64 := by rw [List.length_take]; omega
  have hn6l : n6 ≤ 4160 := by
   have h9 := flat_len (tkU t1) 65 (P.Q.take i) (fun y hy => by
     have h8 := (HI.out.seg _ (hmq y (List.mem_of_mem_take hy))).2; have h7 := misB_len t1.ep y; unfold tkU; split
     · split
       · simp
       · omega
     · simp)
   rw [hn6]; show ((P.Q.take i).flatMap (tkU t1)).length ≤ _; omega
  have hn7l : n7 ≤ 64 := by
   have h9 := flat_len (tkK t1) 1 (P.Q.take i) (fun y hy => by unfold tkK; split; (split <;> simp); simp); rw [hn7]; show ((P.Q.take i).flatMap (tkK t1)).length ≤ _; omega
  have hn8l : n8 ≤ 64 := by
   have h9 := flat_len (tkL t1) 1 (P.Q.take i) (fun y hy => by unfold tkL; split; (split <;> simp); simp); rw [hn8]; show ((P.Q.take i).flatMap (tkL t1)).length ≤ _; omega
  have HT : Hid _ := hT; have HN6 : Hid _ := hn6; have HN7 : Hid _ := hn7; have HN8 : Hid _ := hn8; have HTB : Hid (Below w1.heap.size w1 wr) := hT.bl
  by_cases hlt : i < m
  · have hlti : (i : Int) < (m : Int) := by omega
    have hi0 : (0 : Int) ≤ (i : Int) := by omega
    have hi1 : i < P.Q.length := by rw [← HM.out]; exact hlt
    obtain ⟨b, off, e1, r1, -⟩ := RdG.below HRQ.out hT.bl i hi1; subst e1; obtain ⟨y, hy⟩ : ∃ y : Fq, y = P.Q[i] := ⟨_, rfl⟩; rw [← hy] at r1; have hyQ : y ∈ P.Q := by rw [hy]; exact List.getElem_mem _
    have HYQ : Hid (y ∈ P.Q) := hyQ; have HY : Hid (P.Q[i]? = some y) := by unfold Hid; rw [hy]; exact List.getElem?_eq_getElem hi1
    have HYX : Hid (y.x ∈ t1.L) := hmq y hyQ; have q0 := r1 0 (.int .u64 (y.x.n : Int)) rfl; have q1 := r1 1 (.int .i64 y.x.k.1) rfl; have q2 := r1 2 (.int .u64 (y.x.k.2 : Int)) rfl; have q3 := r1 3 (.slice y.sg.a y.sg.n y.sg.c) rfl; have q4 := r1 4 (.slice y.tl.a y.tl.n y.tl.c) rfl; have q5 := r1 5 (.int .i64 (y.x.ag : Int)) rfl; have q6 := r1 6 (.int .u64 (y.x.due : Int)) rfl; rw [Nat.add_zero] at q0; have hxL := HI.out.seg y.x (hmq y hyQ); have hag := HI.out.ag y.x (hmq y hyQ); obtain ⟨wb, hwb⟩ : ∃ wb, wb = wr.alloc (.cells (fqv y).toArray tJe) := ⟨_, rfl⟩; have hbb : Below wr.heap.size wr wb := by rw [hwb]; exact alw (bR _ _) _
    have hbx : wb.heap[wr.heap.size]? = some (.cells (fqv y).toArray tJe (0, 0)) := by rw [hwb]; exact heap_alloc_new wr _
    have HBB : Hid _ := hbb; have HBX : Hid _ := hbx; have HBT : Hid (Below w1.heap.size w1 wb) := below_next HTB.out hbb
    have hsh : ∀ u, Below wb.heap.size wb u → u.cell? ⟨wr.heap.size, 6, none⟩ = some (.int .u64 (y.x.due : Int)) ∧ u.cell? ⟨wr.heap.size, 5, none⟩ = some (.int .i64 (y.x.ag : Int)) ∧ u.cell? ⟨P.q, 7, none⟩ = some (.int .u64 (t1.clk : Int)) ∧ u.cell? ⟨P.q, 3, none⟩ = some (.int .i64 (t1.rs : Int)) := fun u hu => by
     have h9 := (hu.block _ (sI hbx).1).trans hbx; have h8 := hcl u (below_next HBT.out hu); refine ⟨?_, ?_, h8.2.1, h8.2.2.1⟩
     · rw [cR h9]; rfl
     · rw [cR h9]; rfl
    have HWB : Hid (wb = _) := hwb; clear hT r1 hy hyQ hi1 hmq htl hn6 hn7 hn8 hwb hbb hbx; have b0 : wb.cell? ⟨wr.heap.size, 0, none⟩ = some (.int .u64 (y.x.n : Int)) := by rw [cR HBX.out]; rfl
    have b1 : wb.cell? ⟨wr.heap.size, 1, none⟩ = some (.int .i64 y.x.k.1) := by rw [cR HBX.out]; rfl
    have b2 : wb.cell? ⟨wr.heap.size, 2, none⟩ = some (.int .u64 (y.x.k.2 : Int)) := by rw [cR HBX.out]; rfl
    have b3 : wb.cell? ⟨wr.heap.size, 3, none⟩ = some (.slice y.sg.a y.sg.n y.sg.c) := by rw [cR HBX.out]; rfl
    have b4 : wb.cell? ⟨wr.heap.size, 4, none⟩ = some (.slice y.tl.a y.tl.n y.tl.c) := by rw [cR HBX.out]; rfl
    have b5 : wb.cell? ⟨wr.heap.size, 5, none⟩ = some (.int .i64 (y.x.ag : Int)) := by rw [cR HBX.out]; rfl
    have b6 : wb.cell? ⟨wr.heap.size, 6, none⟩ = some (.int .u64 (y.x.due : Int)) := by rw [cR HBX.out]; rfl
    have HTW : Hid (TkJ w1 wb t1 (P.Q.take i) (.slice a6 n6 c6) (.slice a7 n7 c7) (.slice a8 n8 c8)) := HT.out.below HBB.out; have HZW : Hid (wb.heap.size = wr.heap.size + 1) := by unfold Hid; rw [HWB.out]; simp
    have HZ1 : Hid (w1.heap.size ≤ wb.heap.size) := HBT.out.size
    have HBK : Hid (∀ v B, (OwnG KBf wr B v (unJ t1 (P.Q.take i)) ∨ OwnG KKy wr B v (loJ t1 (P.Q.take i)) ∨ OwnG KJe wr B v (leJ t1 (P.Q.take i))) → ∀ b, v.ownBlock = some b → b < wr.heap.size) := fun v B hv b hb => by
     rcases hv with hv | hv | hv
     · exact (hv.lt' hb).2
     · exact (hv.lt' hb).2
     · exact (hv.lt' hb).2
    by_cases hdu : y.x.due ≤ t1.clk
    · have hdi : (y.x.due : Int) ≤ (t1.clk : Int) := by omega
      by_cases hag2 : y.x.ag = t1.rs
      · have hai : ((y.x.ag : Int) == (t1.rs : Int)) = true := by rw [hag2]; simp
        have hai2 : (y.x.ag : Int) = (t1.rs : Int) := by rw [hag2]
        have HU : Hid (unJ t1 (P.Q.take (i + 1)) = unJ t1 (P.Q.take i)) := by unfold Hid unJ; rw [flat_snoc _ _ _ _ HY.out]; simp [tkU, hdu, hag2]
        have HK : Hid (loJ t1 (P.Q.take i) ++ [y.x.k] = loJ t1 (P.Q.take (i + 1))) := by unfold Hid loJ; rw [flat_snoc _ _ _ _ HY.out]; simp [tkK, hdu, hag2]
        have HL : Hid (leJ t1 (P.Q.take (i + 1)) = leJ t1 (P.Q.take i)) := by unfold Hid leJ; rw [flat_snoc _ _ _ _ HY.out]; simp [tkL, hdu, hag2]
        clear hdu hag2 hag hxL hai2; (go_wp2_with fail); rw [← HWB.out]; refine wp_region_noPanic ?_; refine wp_region_held_drew (S := (fun u => Below wb.heap.size wb u)) (by kernel_rfl) (by first | exact (bR _ _).drew | assumption) (fun hHeld => ?_); refine tz 0 30 hHeld ?_; simp only [pS]; refine tk 1 31 (v := .int .u64 (y.x.due : Int)) ?_ hHeld ?_
        · (intro w hSw; have hc9 := hsh _ hSw; go_simp; try with_reducible rfl)
        simp only [pS]; refine tz 2 32 hHeld ?_; simp only [pS]; refine tz 3 33 hHeld ?_; simp only [pS]; refine tz 4 34 hHeld ?_; simp only [pS]; refine tk 5 35 (v := .int .u64 (t1.clk : Int)) ?_ hHeld ?_
        · (intro w hSw; have hc9 := hsh _ hSw; go_simp; try with_reducible rfl)
        simp only [pS]; refine tk 6 36 (v := .bool true) ?_ hHeld ?_
        · (intro w hSw; go_simp; try with_reducible rfl)
        simp only [pS]; refine tz 7 37 hHeld ?_; simp only [pS]; refine tz 8 38 hHeld ?_; simp only [pS]; refine tk 9 39 (v := .int .i64 (y.x.ag : Int)) ?_ hHeld ?_
        · (intro w hSw; have hc9 := hsh _ hSw; go_simp; try with_reducible rfl)
        simp only [pS]; refine tz 10 40 hHeld ?_; simp only [pS]; refine tz 11 41 hHeld ?_; simp only [pS]; refine tz 12 42 hHeld ?_; simp only [pS]; refine tz 13 43 hHeld ?_; simp only [pS]; refine tk 14 44 (v := .int .i64 (t1.rs : Int)) ?_ hHeld ?_
        · (intro w hSw; have hc9 := hsh _ hSw; go_simp; try with_reducible rfl)
        simp only [pS]; refine tk 15 45 (v := .bool true) ?_ hHeld ?_
        · (intro w hSw; go_simp; try with_reducible rfl)
        simp only [pS]; refine tz 16 46 hHeld ?_; simp only [pS]; refine wpAnyH_done (by kernel_rfl) ?_ _; refine NoPanic.normal ?_; clear hHeld hclr; obtain ⟨w2, hw2⟩ : ∃ w2, w2 = wb.drew := ⟨_, rfl⟩; have hT2 : TkJ w1 w2 t1 (P.Q.take i) (.slice a6 n6 c6) (.slice a7 n7 c7) (.slice a8 n8 c8) := by rw [hw2]; exact HTW.out.below (bR _ _).drew
        have k1 : w2.cell? ⟨wr.heap.size, 1, none⟩ = some (.int .i64 y.x.k.1) := by rw [hw2]; simpa using b1
        have k2 : w2.cell? ⟨wr.heap.size, 1 + 1, none⟩ = some (.int .u64 (y.x.k.2 : Int)) := by rw [hw2]; simpa using b2
        rw [← hw2]; have hT3 := hT2.below (alw (Below.refl w2.heap.size w2) (.cells #[.int .i64 y.x.k.1, .int .u64 (y.x.k.2 : Int)] tFk)); have HT3 : Hid _ := hT3; have HZ2 : Hid (w1.heap.size ≤ (w2.alloc (.cells #[.int .i64 y.x.k.1, .int .u64 (y.x.k.2 : Int)] tFk)).heap.size) := hT3.bl.size; clear hw2 hT2 hT3 b0 b1 b2 b3 b4 b5 b6 hsh; go_wp2_with (at_builtin; refine wp_appG1 (K := KKy) rfl _ _ rfl w1.heap.size (.slice a7 n7 c7) (loJ t1 (P.Q.take i)) y.x.k n7 HN7.out ⟨w2.heap.size, 0, none⟩ 1 rfl HT3.out.ks rfl (rdF_new _ y.x.k _ rfl) (by show (n7 + 1) * 16 ≤ _; omega) (by simp only [maxLen]; omega) HZ2.out ?_; intro g9 c9 w9 hown9 hg9 hlie9; rw [HK.out] at hown9; have HO9 : Hid _ := hown9; have HG9 : Hid _ := hg9; clear hown9 hg9 hlie9)
        go_roundw
        case rel =>
         have hr9 : ∀ b, (Value.slice a7 n7 c7).ownBlock = some b → ∃ cur, (w2.alloc (.cells #[.int .i64 y.x.k.1, .int .u64 (y.x.k.2 : Int)] tFk)).heap[b]? = some (.cells cur KKy.t (0, 0)) := fun b hb => HT3.out.ks.at_ hb
         exact ⟨i + 1, hlt, by go_num, by rw [HU.out]; exact HT3.out.us.keptT HG9.out hr9 (by decide), HO9.out, by rw [HL.out]; exact HT3.out.ls.keptT HG9.out hr9 (by decide), HT3.out.bl.grown HG9.out HZ2.out (fun j hj => (HT3.out.ks.lt' hj).1)⟩
        case measure => simp [intOf]; omega
      · have hai : ((y.x.ag : Int) == (t1.rs : Int)) = false := by simp; omega
        have hai2 : ¬ (y.x.ag : Int) = (t1.rs : Int) := by omega
        have HU : Hid (unJ t1 (P.Q.take i) ++ misB t1.ep y = unJ t1 (P.Q.take (i + 1))) := by unfold Hid unJ; rw [flat_snoc _ _ _ _ HY.out]; simp [tkU, hdu, hag2]
        have HK : Hid (loJ t1 (P.Q.take (i + 1)) = loJ t1 (P.Q.take i)) := by unfold Hid loJ; rw [flat_snoc _ _ _ _ HY.out]; simp [tkK, hdu, hag2]
        have HL : Hid (leJ t1 (P.Q.take i) ++ [agJ t1 y] = leJ t1 (P.Q.take (i + 1))) := by unfold Hid leJ; rw [flat_snoc _ _ _ _ HY.out]; simp [tkL, hdu, hag2]
        have HMS : Hid (∀ u, Below wb.heap.size wb u → Calls Tryz.prog 98 #[.pointer (some ⟨P.q, 0, none⟩), .agg (fqv y).toArray] u fun e w' => ∃ v, e = .returned v ∧ MisO u w' t1.ep y v) := fun u hu => by
         have h9 := HJ1.out.below (below_next HBT.out hu); exact jmissing_t h9 y (h9.ls y HYQ.out) (h9.lq y HYQ.out) (HI.out.seg y.x HYX.out).1 (HI.out.seg y.x HYX.out).2 (HI.out.td y.x HYX.out)
        have HML : Hid ((misB t1.ep y).length ≤ 65) := by unfold Hid; have := misB_len t1.ep y; omega
        have HLT : Hid _ := rlaterF_t t1.clk t1.rt HI.out.c HI.out.rt.2; obtain ⟨A, hA⟩ : ∃ A, A = y.x.ag + 1 := ⟨_, rfl⟩; have hAw : IntKind.i64.wrap ((y.x.ag : Int) + 1) = (A : Int) := by rw [IntKind.wrap_i64]; have := HI.out.rs; omega
        have HA : Hid _ := hA; clear hdu hag2 hA; (go_wp2_with fail); rw [← HWB.out]; refine wp_region_noPanic ?_; refine wp_region_held_drew (S := (fun u => Below wb.heap.size wb u)) (by kernel_rfl) (by first | exact (bR _ _).drew | assumption) (fun hHeld => ?_); refine tz 0 30 hHeld ?_; simp only [pS]; refine tk 1 31 (v := .int .u64 (y.x.due : Int)) ?_ hHeld ?_
        · (intro w hSw; have hc9 := hsh _ hSw; go_simp; try with_reducible rfl)
        simp only [pS]; refine tz 2 32 hHeld ?_; simp only [pS]; refine tz 3 33 hHeld ?_; simp only [pS]; refine tz 4 34 hHeld ?_; simp only [pS]; refine tk 5 35 (v := .int .u64 (t1.clk : Int)) ?_ hHeld ?_
        · (intro w hSw; have hc9 := hsh _ hSw; go_simp; try with_reducible rfl)
        simp only [pS]; refine tk 6 36 (v := .bool true) ?_ hHeld ?_
        · (intro w hSw; go_simp; try with_reducible rfl)
        simp only [pS]; refine tz 7 37 hHeld ?_; simp only [pS]; refine tz 8 38 hHeld ?_; simp only [pS]; refine tk 9 39 (v := .int .i64 (y.x.ag : Int)) ?_ hHeld ?_
        · (intro w hSw; have hc9 := hsh _ hSw; go_simp; try with_reducible rfl)
        simp only [pS]; refine tz 10 40 hHeld ?_; simp only [pS]; refine tz 11 41 hHeld ?_; simp only [pS]; refine tz 12 42 hHeld ?_; simp only [pS]; refine tz 13 43 hHeld ?_; simp only [pS]; refine tk 14 44 (v := .int .i64 (t1.rs : Int)) ?_ hHeld ?_
        · (intro w hSw; have hc9 := hsh _ hSw; go_simp; try with_reducible rfl)
        simp only [pS]; refine tk 15 45 (v := .bool false) ?_ hHeld ?_
        · (intro w hSw; go_simp; try with_reducible rfl)
        simp only [pS]; refine tz 16 46 hHeld ?_; simp only [pS]; refine wpAnyH_done (by kernel_rfl) ?_ _; refine NoPanic.normal ?_; clear hHeld hclr; (go_wp2_with fail); refine wp_region_noPanic ?_; refine wp_region_held_drew (S := (fun u => Below wb.heap.size wb u)) (by kernel_rfl) (by first | exact (bR _ _).drew.drew | assumption) (fun hHeld => ?_); refine tz 0 52 hHeld ?_; simp only [pS]; refine tk 1 53 (v := .int .u64 (y.x.due : Int)) ?_ hHeld ?_
        · (intro w hSw; have hc9 := hsh _ hSw; go_simp; try with_reducible rfl)
        simp only [pS]; refine tz 2 54 hHeld ?_; simp only [pS]; refine tz 3 55 hHeld ?_; simp only [pS]; refine tz 4 56 hHeld ?_; simp only [pS]; refine tk 5 57 (v := .int .u64 (t1.clk : Int)) ?_ hHeld ?_
        · (intro w hSw; have hc9 := hsh _ hSw; go_simp; try with_reducible rfl)
        simp only [pS]; refine tk 6 58 (v := .bool true) ?_ hHeld ?_
        · (intro w hSw; go_simp; try with_reducible rfl)
        simp only [pS]; refine wpAnyH_done (by kernel_rfl) ?_ _; refine NoPanic.normal ?_; clear hHeld; obtain ⟨w2, hw2⟩ : ∃ w2, w2 = wb.drew.drew := ⟨_, rfl⟩; have hb2 : Below wb.heap.size wb w2 := by rw [hw2]; exact (bR _ _).drew.drew
        have k0 : w2.cell? ⟨wr.heap.size, 0, none⟩ = some (.int .u64 (y.x.n : Int)) := by rw [hw2]; simpa using b0
        have k1 : w2.cell? ⟨wr.heap.size, 1, none⟩ = some (.int .i64 y.x.k.1) := by rw [hw2]; simpa using b1
        have k2 : w2.cell? ⟨wr.heap.size, 2, none⟩ = some (.int .u64 (y.x.k.2 : Int)) := by rw [hw2]; simpa using b2
        have k3 : w2.cell? ⟨wr.heap.size, 3, none⟩ = some (.slice y.sg.a y.sg.n y.sg.c) := by rw [hw2]; simpa using b3
        have k4 : w2.cell? ⟨wr.heap.size, 4, none⟩ = some (.slice y.tl.a y.tl.n y.tl.c) := by rw [hw2]; simpa using b4
        have k5 : w2.cell? ⟨wr.heap.size, 5, none⟩ = some (.int .i64 (y.x.ag : Int)) := by rw [hw2]; simpa using b5
        have k6 : w2.cell? ⟨wr.heap.size, 6, none⟩ = some (.int .u64 (y.x.due : Int)) := by rw [hw2]; simpa using b6
        rw [← hw2]; have HB2 : Hid _ := hb2; have HMS2 : Hid _ := HMS.out _ hb2; clear hw2 hb2 b0 b1 b2 b3 b4 b5 b6; go_wp2_with (first | (go_at_call 98; refine Calls.mono HMS2.out ?_; rintro e9 w3 ⟨v3, rfl, hms⟩; obtain ⟨g3, o3, c3, hv3, hrd3, hg3⟩ := hms.ex; obtain ⟨n3, hn3⟩ : ∃ n3, n3 = (misB t1.ep y).length := ⟨_, rfl⟩; rw [← hn3] at hv3; subst hv3; have HN3 : Hid _ := hn3; have HR3 : Hid _ := hrd3; have hb3 := below_next HB2.out hms.bl; have HB3 : Hid (Below wb.heap.size wb w3) := hb3; have HT3 : Hid (TkJ w1 w3 t1 (P.Q.take i) (.slice a6 n6 c6) (.slice a7 n7 c7) (.slice a8 n8 c8)) := HTW.out.below hb3; have HZ3 : Hid (w1.heap.size ≤ w3.heap.size) := HT3.out.bl.size; clear hms hrd3 hb3 hn3) | (at_builtin; refine wp_appG (K := KBf) rfl _ _ rfl w1.heap.size (.slice a6 n6 c6) (unJ t1 (P.Q.take i)) (misB t1.ep y) n3 (some ⟨g3, o3, none⟩) c3 HN3.out rfl HT3.out.us rfl HR3.out (fun h => by cases h) (by rw [← HN6.out]; show (_ + _) * 104 ≤ _; have := HN3.out; have := HML.out; omega) (by rw [← HN6.out]; simp only [maxLen]; have := HN3.out; have := HML.out; omega) HZ3.out ?_; intro v4 w4 hown4 hg4; obtain ⟨a4, c4, hv4, -⟩ := OwnG.val hown4; obtain ⟨n4, hn4⟩ : ∃ n4, n4 = (unJ t1 (P.Q.take i) ++ misB t1.ep y).length := ⟨_, rfl⟩; rw [← hn4] at hv4; subst hv4; have HO4 : Hid _ := hown4; have HG4 : Hid _ := hg4; have hbx4 : w4.heap[wr.heap.size]? = some (.cells (fqv y).toArray tJe (0, 0)) := (hg4.block _ (by have := HB3.out.size; have := HZW.out; omega) (fun e => by have := (HT.out.us.lt' e.symm).2; omega)).trans ((HB3.out.block _ (by have := HZW.out; omega)).trans HBX.out); have HBX4 : Hid _ := hbx4; have m5 : w4.cell? ⟨wr.heap.size, 5, none⟩ = some (.int .i64 (y.x.ag : Int)) := (by rw [cR hbx4]; rfl); have mf : w4.frozen? ⟨wr.heap.size, 5, none⟩ = false := (by simp [World.frozen?, hbx4]); clear hown4 hg4 hn4 hbx4))
        obtain ⟨w5, hw5⟩ : ∃ w5, w5 = w4.setCell ⟨wr.heap.size, 5, none⟩ (.int .i64 (A : Int)) := ⟨_, rfl⟩; rw [← hw5]; have hT4 : TkJ w1 w4 t1 (P.Q.take i) (.slice a6 n6 c6) (.slice a7 n7 c7) (.slice a8 n8 c8) → True := fun _ => trivial
        have hr4 : ∀ b, (Value.slice a6 n6 c6).ownBlock = some b → ∃ cur, w3.heap[b]? = some (.cells cur KBf.t (0, 0)) := fun b hb => HT3.out.us.at_ hb
        have hks4 : OwnG KKy w4 w1.heap.size (.slice a7 n7 c7) (loJ t1 (P.Q.take i)) := HT3.out.ks.keptT HG4.out hr4 (by decide); have hls4 : OwnG KJe w4 w1.heap.size (.slice a8 n8 c8) (leJ t1 (P.Q.take i)) := HT3.out.ls.keptT HG4.out hr4 (by decide); have hbl4 : Below w1.heap.size w1 w4 := HT3.out.bl.grown HG4.out HZ3.out (fun j hj => (HT3.out.us.lt' hj).1); have hX : w1.heap.size ≤ wr.heap.size := HTB.out.size; have hst5 : ∀ b, b ≠ wr.heap.size → w5.heap[b]? = w4.heap[b]? := fun b hb => by rw [hw5]; exact heap_setCell_other w4 ⟨wr.heap.size, 5, none⟩ b _ hb
        have hbx5 : w5.heap[wr.heap.size]? = some (.cells (fqv { y with x := { y.x with ag := A } }).toArray tJe (0, 0)) := by rw [hw5, heap_setCell_same w4 wr.heap.size 5 _ tJe _ HBX4.out]; rfl
        have hbl5 : Below w1.heap.size w1 w5 := by rw [hw5]; exact hbl4.setCell (p := ⟨wr.heap.size, 5, none⟩) hX _
        have hne7 : ∀ b, (Value.slice a7 n7 c7).ownBlock = some b → b ≠ wr.heap.size := fun b hb => by have := (HT.out.ks.lt' hb).2; omega
        have hne8 : ∀ b, (Value.slice a8 n8 c8).ownBlock = some b → b ≠ wr.heap.size := fun b hb => by have := (HT.out.ls.lt' hb).2; omega
        have hus5 : OwnG KBf w5 w1.heap.size (.slice a4 n4 c4) (unJ t1 (P.Q.take i) ++ misB t1.ep y) := OwnG.kept HO4.out (fun b hb => hst5 b (fun e => by
          obtain ⟨cur, h9⟩ := OwnG.at_ HO4.out hb; rw [e, HBX4.out] at h9
          injection h9 with h9
          injection h9 with h9 h8
          exact absurd h8 (by decide)))
        have hks5 := hks4.kept (w' := w5) (fun b hb => hst5 b (hne7 b hb)); have hls5 := hls4.kept (w' := w5) (fun b hb => hst5 b (hne8 b hb)); have HUS5 : Hid _ := hus5; have HKS5 : Hid _ := hks5; have HLS5 : Hid _ := hls5; have HBL5 : Hid _ := hbl5; have HBX5 : Hid _ := hbx5; have HX5 : Hid _ := hX; have HNE8 : Hid _ := hne8; have HNE7 : Hid _ := hne7
        have hcl5 : ∀ u, Below w5.heap.size w5 u → u.cell? ⟨P.q, 7, none⟩ = some (.int .u64 (t1.clk : Int)) ∧ u.cell? ⟨P.q, 2, none⟩ = some (.int .u64 (t1.rt : Int)) ∧ u.cell? ⟨wr.heap.size, 6, none⟩ = some (.int .u64 (y.x.due : Int)) ∧ u.frozen? ⟨wr.heap.size, 6, none⟩ = false := fun u hu => by
         have h8 := hcl u (below_next HBL5.out hu); have h9 := (hu.block _ (sI hbx5).1).trans hbx5; exact ⟨h8.2.1, h8.2.2.2, by rw [cR h9]; rfl, by simp [World.frozen?, h9]⟩
        have HC5 : Hid _ := hcl5; clear hw5 hT4 hr4 hks4 hls4 hbl4 hX hst5 hbx5 hbl5 hne7 hne8 hus5 hks5 hls5 m5 mf k0 k1 k2 k3 k4 k5 k6 hsh; (go_wp2_with fail); refine wp_region_noPanic ?_; refine wp_region_late_drew (S := (fun u => Below w5.heap.size w5 u)) (X := [11]) (by kernel_rfl) (by first | exact (bR _ _).drew | assumption) (fun hHeld => ?_); refine qA 0 68 hHeld ?_; simp only [pS]; refine qA 1 69 hHeld ?_; simp only [pS]; refine qA 2 70 hHeld ?_; simp only [pS]; refine qL 3 71 (v := .int .u64 (t1.clk : Int)) ?_ hHeld ?_
        · (intro w hSw; have hc9 := hcl5 _ hSw; go_simp; try with_reducible rfl)
        simp only [pS]; refine qA 4 72 hHeld ?_; simp only [pS]; refine qA 5 73 hHeld ?_; simp only [pS]; refine qA 6 74 hHeld ?_; simp only [pS]; refine qA 7 75 hHeld ?_; simp only [pS]; refine qL 8 76 (v := .int .u64 (t1.rt : Int)) ?_ hHeld ?_
        · (intro w hSw; have hc9 := hcl5 _ hSw; go_simp; try with_reducible rfl)
        simp only [pS]; refine run_atL (i := 9) rfl (by kernel_rfl) (by rfl) (fun K hK => ?_); simp only [gE]; go_simp
        (go_at_call 92; refine Calls.mono (HLT.out _) ?_; rintro e9 u6 ⟨rfl, hq6⟩; have hq6 := hq6.symm; subst hq6; obtain ⟨-, -, s6, sf6⟩ := HC5.out _ (bR _ _).drew)
        (go_wp2_with fail); refine hK.out _ _ (by first | exact (bR _ _).drew | assumption) ?_; clear hK K; clear hHeld; intro hHeld; (try simp only [pS]); refine qA 10 78 hHeld ?_; simp only [pS]; refine run_atLate (i := 11) rfl (by kernel_rfl) (by decide) (by rfl) (fun K hK => ?_); simp only [gE]; go_simp; (go_wp2_with fail); refine hK.out _ _ ?_; clear hK K; (try simp only [pS]); refine doneL (by kernel_rfl) ?_ _; refine NoPanic.normal ?_; obtain ⟨D6, hD6⟩ : ∃ D6, D6 = min (t1.clk + t1.rt) mxX := ⟨_, rfl⟩; rw [← hD6]; obtain ⟨w6, hw6⟩ : ∃ w6, w6 = (w5.setCell ⟨wr.heap.size, 6, none⟩ (.int .u64 (D6 : Int))).drew := ⟨_, rfl⟩; rw [← hw6]; obtain ⟨y2, hy2⟩ : ∃ y2 : Fq, y2 = { y with x := { y.x with ag := A, due := D6 } } := ⟨_, rfl⟩; have HY2 : Hid (agJ t1 y = y2) := by unfold Hid agJ; rw [hy2, HA.out, hD6]
        have hst6 : ∀ b, b ≠ wr.heap.size → w6.heap[b]? = w5.heap[b]? := fun b hb => by rw [hw6, heap_drew]; exact heap_setCell_other w5 ⟨wr.heap.size, 6, none⟩ b _ hb
        have hbx6 : w6.heap[wr.heap.size]? = some (.cells (fqv y2).toArray tJe (0, 0)) := by rw [hw6, heap_drew, heap_setCell_same w5 wr.heap.size 6 _ tJe _ HBX5.out, hy2]; rfl
        have hus6 : OwnG KBf w6 w1.heap.size (.slice a4 n4 c4) (unJ t1 (P.Q.take i) ++ misB t1.ep y) := OwnG.kept HUS5.out (fun b hb => hst6 b (fun e => by
          obtain ⟨cur, h9⟩ := OwnG.at_ HUS5.out hb; rw [e, HBX5.out] at h9
          injection h9 with h9
          injection h9 with h9 h8
          exact absurd h8 (by decide)))
        have hks6 : OwnG KKy w6 w1.heap.size (.slice a7 n7 c7) (loJ t1 (P.Q.take i)) := OwnG.kept HKS5.out (fun b hb => hst6 b (HNE7.out b hb)); have hls6 : OwnG KJe w6 w1.heap.size (.slice a8 n8 c8) (leJ t1 (P.Q.take i)) := OwnG.kept HLS5.out (fun b hb => hst6 b (HNE8.out b hb)); have hbl6 : Below w1.heap.size w1 w6 := by rw [hw6]; exact (HBL5.out.setCell (p := ⟨wr.heap.size, 6, none⟩) HX5.out _).drew
        have j0 : w6.cell? ⟨wr.heap.size, 0, none⟩ = some (.int .u64 (y2.x.n : Int)) := by rw [cR hbx6]; rfl
        have j1 : w6.cell? ⟨wr.heap.size, 1, none⟩ = some (.int .i64 y2.x.k.1) := by rw [cR hbx6]; rfl
        have j2 : w6.cell? ⟨wr.heap.size, 2, none⟩ = some (.int .u64 (y2.x.k.2 : Int)) := by rw [cR hbx6]; rfl
        have j3 : w6.cell? ⟨wr.heap.size, 3, none⟩ = some (.slice y2.sg.a y2.sg.n y2.sg.c) := by rw [cR hbx6]; rfl
        have j4 : w6.cell? ⟨wr.heap.size, 4, none⟩ = some (.slice y2.tl.a y2.tl.n y2.tl.c) := by rw [cR hbx6]; rfl
        have j5 : w6.cell? ⟨wr.heap.size, 5, none⟩ = some (.int .i64 (y2.x.ag : Int)) := by rw [cR hbx6]; rfl
        have j6 : w6.cell? ⟨wr.heap.size, 6, none⟩ = some (.int .u64 (y2.x.due : Int)) := by rw [cR hbx6]; rfl
        have HUA : Hid (OwnG KBf (w6.alloc (.cells (fqv y2).toArray tJe)) w1.heap.size (.slice a4 n4 c4) (unJ t1 (P.Q.take (i + 1)))) := by unfold Hid; rw [← HU.out]; exact hus6.below (alw (bR _ _) _)
        have HKA : Hid (OwnG KKy (w6.alloc (.cells (fqv y2).toArray tJe)) w1.heap.size (.slice a7 n7 c7) (loJ t1 (P.Q.take (i + 1)))) := by unfold Hid; rw [HK.out]; exact hks6.below (alw (bR _ _) _)
        have HLA : Hid (OwnG KJe (w6.alloc (.cells (fqv y2).toArray tJe)) w1.heap.size (.slice a8 n8 c8) (leJ t1 (P.Q.take i))) := hls6.below (alw (bR _ _) _); have HBA : Hid (Below w1.heap.size w1 (w6.alloc (.cells (fqv y2).toArray tJe))) := alw hbl6 _; have HLL : Hid (leJ t1 (P.Q.take i) ++ [y2] = leJ t1 (P.Q.take (i + 1))) := by unfold Hid; rw [← HY2.out]; exact HL.out
        clear hw6 hy2 hD6 hst6 hbx6 hus6 hks6 hls6 hbl6 hHeld hcl5 s6 sf6; go_wp2_with (at_builtin; refine wp_appG1 (K := KJe) rfl _ _ rfl w1.heap.size (.slice a8 n8 c8) (leJ t1 (P.Q.take i)) y2 n8 HN8.out ⟨w6.heap.size, 0, none⟩ 1 rfl HLA.out rfl (rdG_lit (K := KJe) (heap_alloc_new _ _) (by simp [Kd.flat])) (by show (n8 + 1) * 88 ≤ _; omega) (by simp only [maxLen]; omega) HBA.out.size ?_; intro g9 c9 w9 hown9 hg9 hlie9; rw [HLL.out] at hown9; have HO9 : Hid _ := hown9; have HG9 : Hid _ := hg9; clear hown9 hg9 hlie9)
        go_roundw
        case rel =>
         have hr9 : ∀ b, (Value.slice a8 n8 c8).ownBlock = some b → ∃ cur, (w6.alloc (.cells (fqv y2).toArray tJe)).heap[b]? = some (.cells cur KJe.t (0, 0)) := fun b hb => OwnG.at_ HLA.out hb
         exact ⟨i + 1, hlt, by go_num, OwnG.keptT HUA.out HG9.out hr9 (by decide), OwnG.keptT HKA.out HG9.out hr9 (by decide), HO9.out, HBA.out.grown HG9.out HBA.out.size (fun j hj => (OwnG.lt' HLA.out hj).1)⟩
        case measure => simp [intOf]; omega
    · have hdi : ¬ (y.x.due : Int) ≤ (t1.clk : Int) := by omega
      have HU : Hid (unJ t1 (P.Q.take (i + 1)) = unJ t1 (P.Q.take i)) := by unfold Hid unJ; rw [flat_snoc _ _ _ _ HY.out]; simp [tkU, hdu]
      have HK : Hid (loJ t1 (P.Q.take (i + 1)) = loJ t1 (P.Q.take i)) := by unfold Hid loJ; rw [flat_snoc _ _ _ _ HY.out]; simp [tkK, hdu]
      have HL : Hid (leJ t1 (P.Q.take i) ++ [y] = leJ t1 (P.Q.take (i + 1))) := by unfold Hid leJ; rw [flat_snoc _ _ _ _ HY.out]; simp [tkL, hdu]
      clear hdu hag hxL; (go_wp2_with fail); rw [← HWB.out]; refine wp_region_noPanic ?_; refine wp_region_held_drew (S := (fun u => Below wb.heap.size wb u)) (by kernel_rfl) (by first | exact (bR _ _).drew | assumption) (fun hHeld => ?_); refine tz 0 30 hHeld ?_; simp only [pS]; refine tk 1 31 (v := .int .u64 (y.x.due : Int)) ?_ hHeld ?_
      · (intro w hSw; have hc9 := hsh _ hSw; go_simp; try with_reducible rfl)
      simp only [pS]; refine tz 2 32 hHeld ?_; simp only [pS]; refine tz 3 33 hHeld ?_; simp only [pS]; refine tz 4 34 hHeld ?_; simp only [pS]; refine tk 5 35 (v := .int .u64 (t1.clk : Int)) ?_ hHeld ?_
      · (intro w hSw; have hc9 := hsh _ hSw; go_simp; try with_reducible rfl)
      simp only [pS]; refine tk 6 36 (v := .bool false) ?_ hHeld ?_
      · (intro w hSw; go_simp; try omega)
      simp only [pS]; refine tz 7 37 hHeld ?_; simp only [pS]; refine qS 8 38 hHeld ?_; simp only [pS]; refine qS 9 39 hHeld ?_; simp only [pS]; refine qS 10 40 hHeld ?_; simp only [pS]; refine qS 11 41 hHeld ?_; simp only [pS]; refine qS 12 42 hHeld ?_; simp only [pS]; refine qS 13 43 hHeld ?_; simp only [pS]; refine qS 14 44 hHeld ?_; simp only [pS]; refine qS 15 45 hHeld ?_; simp only [pS]; refine tz 16 46 hHeld ?_; simp only [pS]; refine wpAnyH_done (by kernel_rfl) ?_ _; refine NoPanic.normal ?_; clear hHeld hclr; (go_wp2_with fail); refine wp_region_noPanic ?_; refine wp_region_held_drew (S := (fun u => Below wb.heap.size wb u)) (by kernel_rfl) (by first | exact (bR _ _).drew.drew | assumption) (fun hHeld => ?_); refine tz 0 52 hHeld ?_; simp only [pS]; refine tk 1 53 (v := .int .u64 (y.x.due : Int)) ?_ hHeld ?_
      · (intro w hSw; have hc9 := hsh _ hSw; go_simp; try with_reducible rfl)
      simp only [pS]; refine tz 2 54 hHeld ?_; simp only [pS]; refine tz 3 55 hHeld ?_; simp only [pS]; refine tz 4 56 hHeld ?_; simp only [pS]; refine tk 5 57 (v := .int .u64 (t1.clk : Int)) ?_ hHeld ?_
      · (intro w hSw; have hc9 := hsh _ hSw; go_simp; try with_reducible rfl)
      simp only [pS]; refine tk 6 58 (v := .bool false) ?_ hHeld ?_
      · (intro w hSw; go_simp; try omega)
      simp only [pS]; refine wpAnyH_done (by kernel_rfl) ?_ _; refine NoPanic.normal ?_; clear hHeld; obtain ⟨w2, hw2⟩ : ∃ w2, w2 = wb.drew.drew := ⟨_, rfl⟩; have hT2 : TkJ w1 w2 t1 (P.Q.take i) (.slice a6 n6 c6) (.slice a7 n7 c7) (.slice a8 n8 c8) := by rw [hw2]; exact HTW.out.below (bR _ _).drew.drew
      have k0 : w2.cell? ⟨wr.heap.size, 0, none⟩ = some (.int .u64 (y.x.n : Int)) := by rw [hw2]; simpa using b0
      have k1 : w2.cell? ⟨wr.heap.size, 1, none⟩ = some (.int .i64 y.x.k.1) := by rw [hw2]; simpa using b1
      have k2 : w2.cell? ⟨wr.heap.size, 2, none⟩ = some (.int .u64 (y.x.k.2 : Int)) := by rw [hw2]; simpa using b2
      have k3 : w2.cell? ⟨wr.heap.size, 3, none⟩ = some (.slice y.sg.a y.sg.n y.sg.c) := by rw [hw2]; simpa using b3
      have k4 : w2.cell? ⟨wr.heap.size, 4, none⟩ = some (.slice y.tl.a y.tl.n y.tl.c) := by rw [hw2]; simpa using b4
      have k5 : w2.cell? ⟨wr.heap.size, 5, none⟩ = some (.int .i64 (y.x.ag : Int)) := by rw [hw2]; simpa using b5
      have k6 : w2.cell? ⟨wr.heap.size, 6, none⟩ = some (.int .u64 (y.x.due : Int)) := by rw [hw2]; simpa using b6
      rw [← hw2]; have hT3 := hT2.below (alw (Below.refl w2.heap.size w2) (.cells (fqv y).toArray tJe)); have HT3 : Hid _ := hT3; have HZ2 : Hid (w1.heap.size ≤ (w2.alloc (.cells (fqv y).toArray tJe)).heap.size) := hT3.bl.size; clear hw2 hT2 hT3 b0 b1 b2 b3 b4 b5 b6 hsh; go_wp2_with (at_builtin; refine wp_appG1 (K := KJe) rfl _ _ rfl w1.heap.size (.slice a8 n8 c8) (leJ t1 (P.Q.take i)) y n8 HN8.out ⟨w2.heap.size, 0, none⟩ 1 rfl HT3.out.ls rfl (rdG_lit (K := KJe) (heap_alloc_new _ _) (by simp [Kd.flat])) (by show (n8 + 1) * 88 ≤ _; omega) (by simp only [maxLen]; omega) HZ2.out ?_; intro g9 c9 w9 hown9 hg9 hlie9; rw [HL.out] at hown9; have HO9 : Hid _ := hown9; have HG9 : Hid _ := hg9; clear hown9 hg9 hlie9)
      go_roundw
      case rel =>
       have hr9 : ∀ b, (Value.slice a8 n8 c8).ownBlock = some b → ∃ cur, (w2.alloc (.cells (fqv y).toArray tJe)).heap[b]? = some (.cells cur KJe.t (0, 0)) := fun b hb => HT3.out.ls.at_ hb
       exact ⟨i + 1, hlt, by go_num, by rw [HU.out]; exact HT3.out.us.keptT HG9.out hr9 (by decide), by rw [HK.out]; exact HT3.out.ks.keptT HG9.out hr9 (by decide), HO9.out, HT3.out.bl.grown HG9.out HZ2.out (fun j hj => (HT3.out.ls.lt' hj).1)⟩
      case measure => simp [intOf]; omega
  · have hlti : ¬ (i : Int) < (m : Int) := by omega
    have hq9 : wr.cell? ⟨P.q, 9, none⟩ = some (.slice la m lc) := (hcl wr hT.bl).1; have hf9 : wr.frozen? ⟨P.q, 9, none⟩ = false := (HJ1.out.below hT.bl).frz 9
    have HTE : Hid _ := tick_end HJ1.out HS1.out (by
      have h9 := hT; rw [List.take_of_length_le (by rw [← HM.out]; omega)] at h9
      exact h9)
    clear hT hmq htl hn6 hn7 hn8 hclr hcl; go_wp2; go_ret2
    first | exact ⟨_, _, _, rfl, HTE.out⟩ | exact ⟨_, _, rfl, _, HTE.out⟩
end
open Go.RowKit Go.Maps
structure UJw (w : World) (Z : Nat → Prop) (B : Nat) (v : Value) (D : List Dc) (us : List Uu) : Prop where
 row : OwnG KBf w B v (List.zipWith (fun u d => (⟨u.ep, u.n, u.i, u.c, d⟩ : Bf)) us D)
 len : D.length = us.length
 dat : ∀ (i : Nat) d u, D[i]? = some d → us[i]? = some u → Own w 0 d.v u.t ∧ ∀ b, d.v.ownBlock = some b → Z b
theorem missI_nil {N : Nat} (h : 1 ≤ N) : missI [] N = List.range N := by
 have e : (List.range N).filter (fun i => !hasN [] i) = List.range N := by
  rw [List.filter_eq_self]; intro i _
  rfl
 unfold missI; rw [e, if_neg (fun e9 => by have := congrArg List.length e9; simp at this; omega)]
theorem unF_us {ep : Nat} {x : Fe} {E : List Dc} (hE : E.length = x.T.length) (h1 : 1 ≤ x.T.length) (ht : x.told = []) : unF ep x.n x.T.length E = List.zipWith (fun u d => (⟨u.ep, u.n, u.i, u.c, d⟩ : Bf)) (usF ep x) E := by
 apply List.ext_getElem
 · rw [unF_len, List.length_zipWith]; unfold usF; rw [ht, missI_nil h1]; simp [hE]
 · intro i h2 h3; rw [unF_len] at h2; rw [unF_get _ _ _ _ i h2, List.getElem_zipWith]; unfold usF; simp only [List.getElem_map]
   have : (missI x.told x.T.length)[i]'(by rw [ht, missI_nil h1]; simp; omega) = i := by
    simp only [ht, missI_nil h1, List.getElem_range]
   rw [this]
theorem usF_at {ep : Nat} {x : Fe} (h1 : 1 ≤ x.T.length) (ht : x.told = []) {i : Nat} {u : Uu} (hu : (usF ep x)[i]? = some u) : i < x.T.length ∧ u.t = txF x i := by
 unfold usF at hu; rw [ht, missI_nil h1, List.getElem?_map] at hu
 by_cases hi : i < x.T.length
 · rw [List.getElem?_eq_getElem (by simpa using hi), List.getElem_range] at hu; cases hu; exact ⟨hi, rfl⟩
 · rw [List.getElem?_eq_none (by simpa using hi)] at hu; cases hu
theorem usF_len {ep : Nat} {x : Fe} (h1 : 1 ≤ x.T.length) (ht : x.told = []) : (usF ep x).length = x.T.length := by
 unfold usF; rw [ht, missI_nil h1]; simp
section
variable {w w' : World} {P P' : Jp} {X : Value × Value} {Z Z' : Nat → Prop} {B : Nat} {v : Value} {D : List Dc} {us : List Uu}
theorem UJw.kept (h : UJw w Z B v D us) (hk : ∀ b, v.ownBlock = some b ∨ Z b → w'.heap[b]? = w.heap[b]?) : UJw w' Z B v D us :=
 ⟨h.row.kept (fun b hb => hk b (.inl hb)), h.len, fun i d u h1 h2 => ⟨Own.keptb (h.dat i d u h1 h2).1 (fun b hb => hk b (.inr ((h.dat i d u h1 h2).2 b hb))), (h.dat i d u h1 h2).2⟩⟩
theorem UJw.app {D2 : List Dc} {us2 : List Uu} {v3 : Value} (h : UJw w Z B v D us) (hk : ∀ b, Z b → w'.heap[b]? = w.heap[b]?) (hl : D2.length = us2.length) (h2 : ∀ (i : Nat) d u, D2[i]? = some d → us2[i]? = some u → Own w 0 d.v u.t ∧ ∀ b, d.v.ownBlock = some b → Z b)
 (hr : OwnG KBf w' B v3 (List.zipWith (fun u d => (⟨u.ep, u.n, u.i, u.c, d⟩ : Bf)) us D ++ List.zipWith (fun u d => (⟨u.ep, u.n, u.i, u.c, d⟩ : Bf)) us2 D2)) : UJw w' Z B v3 (D ++ D2) (us ++ us2) := by
 refine ⟨?_, by rw [List.length_append, List.length_append, h.len, hl], fun i d u h3 h4 => ?_⟩
 · rw [List.zipWith_append h.len.symm]; exact hr
 · have hf : Own w 0 d.v u.t ∧ ∀ b, d.v.ownBlock = some b → Z b := by
    by_cases hi : i < D.length
    · rw [List.getElem?_append_left hi] at h3; rw [List.getElem?_append_left (by rw [← h.len]; exact hi)] at h4; exact h.dat i d u h3 h4
    · rw [List.getElem?_append_right (by omega)] at h3; rw [List.getElem?_append_right (by rw [← h.len]; omega), ← h.len] at h4; exact h2 _ d u h3 h4
   exact ⟨Own.keptb hf.1 (fun b hb => hk b (hf.2 b hb)), hf.2⟩
structure RunJ (w w' : World) (P : Jp) (X : Value × Value) (s : Fs) (n j : Nat) (v : Value) (P' : Jp) (D : List Dc) : Prop where
 is_ : RunIs s n j
 st : JS w' P' X (runN s n j).d
 us : UJw w' P'.Z w.heap.size v D (runU s n j)
 stp : JStp w w' P P'
 far : ∀ b, v.ownBlock = some b → ¬ footJ P' b
 q : P'.q = P.q
structure RnJ (w1 wr : World) (P : Jp) (X : Value × Value) (s : Fs) (n j : Nat) (v : Value) (P' : Jp) (D : List Dc) : Prop where
 at_ : RunAt s n j
 inv : FInv (runN s n j)
 st : JS wr P' X (runN s n j).d
 us : UJw wr P'.Z w1.heap.size v D (runU s n j)
 stp : JStp w1 wr P P'
 far : ∀ b, v.ownBlock = some b → ¬ footJ P' b
 q : P'.q = P.q
theorem FInv.step {s : Fs} (h : FInv s) {m : Nat} (hm : mayB s m) (hu : ∀ x, x ∈ s.L → x.n < m) {k : Fk} {xs : Seg} (hr : s.row[0]? = some (k, xs)) : FInv (stepF s m) := by
 rw [(stepF_cons (m := m) hr).1]; have h9 := h.begin hr hm.2.2 hu hm.2.1; exact ⟨h9.mt, h9.rt, h9.rs, h9.wn, h9.e, h9.c, h9.nc, h9.len, h9.lw, h9.num, h9.up, h9.good, h9.nk, h9.blk, h9.seg, h9.ag⟩
theorem stepF_d {s : Fs} {m : Nat} {k : Fk} {xs : Seg} (hr : s.row[0]? = some (k, xs)) : (stepF s m).d = { s.d with row := s.row.eraseIdx 0, L := s.d.L ++ [(begF s m k xs).d] } := by
 rw [(stepF_cons (m := m) hr).1]; unfold Fs.d; simp
end
open Go.RowKit Go.Maps
def tkX (s : Fs) (y : Fe) : List Fd := if y.due ≤ s.clk then (if y.ag < s.rs then [⟨y.n, y.k, y.T, y.told, y.ag + 1, min (s.clk + s.rt) mxX⟩] else []) else [y.d]
def tkUs (s : Fs) (y : Fe) : List Uu := if y.due ≤ s.clk then (if y.ag < s.rs then usF s.ep y else []) else []
def tkKs (s : Fs) (y : Fe) : List Fk := if y.due ≤ s.clk then (if y.ag < s.rs then [] else [y.k]) else []
def atOk (x : Fe) : Prop := (x.at_ = x.due ∨ (x.at_ = mxX + 1 ∧ x.due = mxX)) ∧ x.due ≤ mxX
theorem agF_at {s : Fs} (y : Fe) (h1 : 1 ≤ s.rt) (hn : s.N = s.clk) (hc : s.clk ≤ mxX) : atOk (agF s y) := by
 unfold atOk agF; simp only [hn]; unfold mxX at *; refine ⟨?_, by omega⟩
 by_cases h : s.clk + 1 ≤ 281474976710655
 · left; omega
 · right; omega
structure TkDone (t R : TkS) (A B A' : List Fe) : Prop where
 s : R.s = { t.s with L := A', S := R.s.S }
 l : A'.map Fe.d = A.map Fe.d ++ B.flatMap (tkX t.s)
 us : R.us = t.us ++ B.flatMap (tkUs t.s)
 ks : R.ks = t.ks ++ B.flatMap (tkKs t.s)
 pm : R.W.Perm (tmsF A')
 ok : ∀ x, x ∈ A' → atOk x
 tot : ∀ x, x ∈ A' → ∃ y, (y ∈ A ∨ y ∈ B) ∧ x.told = y.told ∧ x.n = y.n
 S : R.s.S ≤ t.s.S + B.length
def nrT (ns : List Nat) (z : Wh.Tm) : Bool := ns.all (fun n => decide (z.id ≠ (n : Int)))
theorem nr_cons (W : List Wh.Tm) (n : Nat) (ns : List Nat) : (W.filter (fun z => decide (z.id ≠ (n : Int)))).filter (nrT ns) = W.filter (nrT (n :: ns)) := by
 rw [List.filter_filter]; apply List.filter_congr; intro z _; show (nrT ns z && decide (z.id ≠ (n : Int))) = (decide (z.id ≠ (n : Int)) && nrT ns z); rw [Bool.and_comm]
theorem nr_out {ns : List Nat} {n : Nat} (h : n ∉ ns) (a b : Nat) : nrT ns ⟨(n : Int), a, b⟩ = true := by
 unfold nrT; rw [List.all_eq_true]; intro m hm; have : n ≠ m := fun e => h (e ▸ hm)
 simp; omega
theorem nr_in {ns : List Nat} {n : Nat} (h : n ∈ ns) (a b : Nat) : nrT ns ⟨(n : Int), a, b⟩ = false := by
 unfold nrT; rw [List.all_eq_false]; exact ⟨n, h, by simp⟩
theorem find_mid {A B : List Fe} {b : Fe} (h : b.n ∉ A.map Fe.n) : (A ++ b :: B).findIdx (fun x => x.n == b.n) = A.length := by
 induction A with
 | nil => simp [List.findIdx_cons]
 | cons a A ih =>
  simp only [List.map_cons, List.mem_cons, not_or] at h; rw [List.cons_append, List.findIdx_cons, ih h.2]; have : (a.n == b.n) = false := by simp; exact fun e => h.1 e.symm
  rw [this]; simp
theorem tk_run : ∀ (B A : List Fe) (t : TkS), t.s.L = A ++ B → ((A ++ B).map Fe.n).Nodup → (t.W.filter (nrT ((B.filter (fun x => decide (x.due ≤ t.s.clk))).map Fe.n))).Perm (tmsF (A ++ B.filter (fun x => !decide (x.due ≤ t.s.clk)))) → (∀ x, x ∈ A ∨ (x ∈ B ∧ ¬ x.due ≤ t.s.clk) → atOk x) → 1 ≤ t.s.rt → t.s.N = t.s.clk → t.s.clk ≤ mxX → ∃ A', TkDone t (tkRun t ((B.filter (fun x => decide (x.due ≤ t.s.clk))).map Fe.n)) A B A'
 | [], A, t, hL, hN, hp, ho, h1, hn, hc => by
  simp only [List.append_nil] at hL; refine ⟨A, ⟨?_, by simp, by simp [tkRun], by simp [tkRun], ?_, fun x hx => ho x (.inl hx), fun x hx => ⟨x, .inl hx, rfl, rfl⟩, by simp [tkRun]⟩⟩
  · simp [tkRun, ← hL]
  · have e : t.W.filter (nrT []) = t.W := by rw [List.filter_eq_self]; intro z _; rfl
    have hp : (t.W.filter (nrT [])).Perm (tmsF (A ++ [])) := hp; rw [e, List.append_nil] at hp
    simpa [tkRun] using hp
 | b :: B, A, t, hL, hN, hp, ho, h1, hn, hc => by
  by_cases hd : b.due ≤ t.s.clk
  · have hbA : b.n ∉ A.map Fe.n := fun h9 => by
     rw [List.map_append, List.map_cons, List.nodup_append] at hN; exact hN.2.2 b.n h9 b.n (by simp) rfl
    have hbB : b.n ∉ B.map Fe.n := fun h9 => by
     rw [List.map_append, List.map_cons, List.nodup_append] at hN; exact (List.nodup_cons.1 hN.2.1).1 h9
    have hf : (b :: B).filter (fun x => decide (x.due ≤ t.s.clk)) = b :: B.filter (fun x => decide (x.due ≤ t.s.clk)) := by rw [List.filter_cons, if_pos (by simpa using hd)]
    have hf2 : (b :: B).filter (fun x => !decide (x.due ≤ t.s.clk)) = B.filter (fun x => !decide (x.due ≤ t.s.clk)) := by rw [List.filter_cons, if_neg (by simpa using hd)]
    rw [hf2] at hp; rw [hf, List.map_cons, ← nr_cons] at hp
    have hbR : b.n ∉ (B.filter (fun x => decide (x.due ≤ t.s.clk))).map Fe.n := fun h9 => by
     obtain ⟨x, hx, e⟩ := List.mem_map.1 h9; exact hbB (List.mem_map.2 ⟨x, (List.mem_filter.1 hx).1, e⟩)
    have hst : tkStep t b.n = tkAt t A.length b := by
     unfold tkStep; rw [hL, find_mid hbA]; simp
    by_cases ha : b.ag < t.s.rs
    · have hat : tkAt t A.length b = ⟨{ t.s with L := (A ++ [agF t.s b]) ++ B, S := t.s.S + 1 }, Wh.setL t.W t.s.N t.s.S (b.n : Int) (t.s.clk + t.s.rt), t.us ++ usF t.s.ep b, t.ks⟩ := by
       unfold tkAt; rw [if_pos ha, hL]; simp
      obtain ⟨A', h9⟩ := tk_run B (A ++ [agF t.s b]) (tkAt t A.length b) (by rw [hat]) (by
          have e : ((A ++ [agF t.s b]) ++ B).map Fe.n = (A ++ b :: B).map Fe.n := by simp [agF]
          rw [e]; exact hN) (by
          rw [hat]; show ((Wh.setL t.W t.s.N t.s.S (b.n : Int) (t.s.clk + t.s.rt)).filter (nrT ((B.filter (fun x => decide (x.due ≤ t.s.clk))).map Fe.n))).Perm (tmsF ((A ++ [agF t.s b]) ++ B.filter (fun x => !decide (x.due ≤ t.s.clk)))); unfold Wh.setL; rw [List.filter_append]
          have e7 : [(⟨(b.n : Int), max (min (t.s.clk + t.s.rt) Wh.mxN) (t.s.N + 1), t.s.S + 1⟩ : Wh.Tm)].filter (nrT ((B.filter (fun x => decide (x.due ≤ t.s.clk))).map Fe.n)) = [⟨(b.n : Int), max (min (t.s.clk + t.s.rt) Wh.mxN) (t.s.N + 1), t.s.S + 1⟩] := by
           rw [List.filter_cons, if_pos (nr_out hbR _ _)]; rfl
          rw [e7]
          have e : tmsF ((A ++ [agF t.s b]) ++ B.filter (fun x => !decide (x.due ≤ t.s.clk))) = tmsF A ++ (⟨(b.n : Int), max (min (t.s.clk + t.s.rt) mxX) (t.s.N + 1), t.s.S + 1⟩ :: tmsF (B.filter (fun x => !decide (x.due ≤ t.s.clk)))) := by
           unfold tmsF agF; simp
          rw [e]; have e2 : tmsF (A ++ B.filter (fun x => !decide (x.due ≤ t.s.clk))) = tmsF A ++ tmsF (B.filter (fun x => !decide (x.due ≤ t.s.clk))) := by unfold tmsF; simp
          rw [e2] at hp; refine (hp.append_right _).trans ?_; rw [List.append_assoc]
          exact (List.perm_append_singleton _ _).append_left _) (by
          intro x hx; rcases hx with hx | hx
          · rcases List.mem_append.1 hx with hx | hx
            · exact ho x (.inl hx)
            · rw [List.mem_singleton.1 hx]; exact agF_at b h1 hn hc
          · rw [hat] at hx
            exact ho x (.inr ⟨List.mem_cons_of_mem _ hx.1, hx.2⟩)) (by rw [hat]; exact h1) (by rw [hat]; exact hn) (by rw [hat]; exact hc)
      refine ⟨A', ?_⟩
      have hrun : tkRun t (((b :: B).filter (fun x => decide (x.due ≤ t.s.clk))).map Fe.n) = tkRun (tkAt t A.length b) ((B.filter (fun x => decide (x.due ≤ (tkAt t A.length b).s.clk))).map Fe.n) := by
       rw [hf, List.map_cons]; show (_ :: _).foldl tkStep t = _; rw [List.foldl_cons, hst]; rw [hat]
       rfl
      rw [hrun]; refine ⟨?_, ?_, ?_, ?_, h9.pm, h9.ok, ?_, ?_⟩
      · rw [h9.s]; rw [hat]
      · rw [h9.l, hat]; have e : (tkX t.s b) = [(agF t.s b).d] := by unfold tkX; rw [if_pos hd, if_pos ha]; rfl
        rw [List.flatMap_cons, e, List.map_append]; simp only [List.map_cons, List.map_nil, List.append_assoc]
        rfl
      · rw [h9.us, hat]; have e : (tkUs t.s b) = usF t.s.ep b := by unfold tkUs; rw [if_pos hd, if_pos ha]
        rw [List.flatMap_cons, e]; simp only [List.append_assoc]
        rfl
      · rw [h9.ks, hat]; have e : (tkKs t.s b) = [] := by unfold tkKs; rw [if_pos hd, if_pos ha]
        rw [List.flatMap_cons, e]
        rfl
      · intro x hx; obtain ⟨y, hy, e1, e2⟩ := h9.tot x hx; rcases hy with hy | hy
        · rcases List.mem_append.1 hy with hy | hy
          · exact ⟨y, .inl hy, e1, e2⟩
          · rw [List.mem_singleton.1 hy] at e1 e2; exact ⟨b, .inr (by simp), e1, e2⟩
        · exact ⟨y, .inr (List.mem_cons_of_mem _ hy), e1, e2⟩
      · have := h9.S; rw [hat] at this ⊢; simp only [List.length_cons]; simp only at this; omega
    · have hat : tkAt t A.length b = ⟨{ t.s with L := A ++ B }, t.W.filter (fun z => decide (z.id ≠ (b.n : Int))), t.us, t.ks ++ [b.k]⟩ := by
       unfold tkAt; rw [if_neg ha, hL, List.eraseIdx_append_of_length_le (Nat.le_refl _)]; simp
      obtain ⟨A', h9⟩ := tk_run B A (tkAt t A.length b) (by rw [hat]) (by
          rw [List.map_append, List.map_cons, List.nodup_append] at hN; rw [List.map_append, List.nodup_append]
          exact ⟨hN.1, (List.nodup_cons.1 hN.2.1).2, fun x hx y hy => hN.2.2 x hx y (List.mem_cons_of_mem _ hy)⟩) (by
          rw [hat]
          exact hp) (by
          intro x hx; rcases hx with hx | hx
          · exact ho x (.inl hx)
          · rw [hat] at hx
            exact ho x (.inr ⟨List.mem_cons_of_mem _ hx.1, hx.2⟩)) (by rw [hat]; exact h1) (by rw [hat]; exact hn) (by rw [hat]; exact hc)
      refine ⟨A', ?_⟩
      have hrun : tkRun t (((b :: B).filter (fun x => decide (x.due ≤ t.s.clk))).map Fe.n) = tkRun (tkAt t A.length b) ((B.filter (fun x => decide (x.due ≤ (tkAt t A.length b).s.clk))).map Fe.n) := by
       rw [hf, List.map_cons]; show (_ :: _).foldl tkStep t = _; rw [List.foldl_cons, hst]; rw [hat]
       rfl
      rw [hrun]; refine ⟨?_, ?_, ?_, ?_, h9.pm, h9.ok, ?_, ?_⟩
      · rw [h9.s]; rw [hat]
      · rw [h9.l, hat]; have e : (tkX t.s b) = [] := by unfold tkX; rw [if_pos hd, if_neg ha]
        rw [List.flatMap_cons, e]
        rfl
      · rw [h9.us, hat]; have e : (tkUs t.s b) = [] := by unfold tkUs; rw [if_pos hd, if_neg ha]
        rw [List.flatMap_cons, e]
        rfl
      · rw [h9.ks, hat]; have e : (tkKs t.s b) = [b.k] := by unfold tkKs; rw [if_pos hd, if_neg ha]
        rw [List.flatMap_cons, e]; simp only [List.append_assoc]
        rfl
      · intro x hx; obtain ⟨y, hy, e1, e2⟩ := h9.tot x hx; rcases hy with hy | hy
        · exact ⟨y, .inl hy, e1, e2⟩
        · exact ⟨y, .inr (List.mem_cons_of_mem _ hy), e1, e2⟩
      · have := h9.S; rw [hat] at this ⊢; simp only [List.length_cons]; simp only at this; omega
  · have hf : (b :: B).filter (fun x => decide (x.due ≤ t.s.clk)) = B.filter (fun x => decide (x.due ≤ t.s.clk)) := by rw [List.filter_cons, if_neg (by simpa using hd)]
    have hf2 : (b :: B).filter (fun x => !decide (x.due ≤ t.s.clk)) = b :: B.filter (fun x => !decide (x.due ≤ t.s.clk)) := by rw [List.filter_cons, if_pos (by simpa using hd)]
    rw [hf2, hf] at hp
    obtain ⟨A', h9⟩ := tk_run B (A ++ [b]) t (by rw [hL]; simp) (by simpa using hN) (by simpa using hp) (by
      intro x hx; rcases hx with hx | hx
      · rcases List.mem_append.1 hx with hx | hx
        · exact ho x (.inl hx)
        · rw [List.mem_singleton.1 hx]; exact ho b (.inr ⟨by simp, hd⟩)
      · exact ho x (.inr ⟨List.mem_cons_of_mem _ hx.1, hx.2⟩)) h1 hn hc
    refine ⟨A', ?_⟩; rw [hf]; refine ⟨h9.s, ?_, ?_, ?_, h9.pm, h9.ok, ?_, ?_⟩
    · rw [h9.l]; have e : (tkX t.s b) = [b.d] := by unfold tkX; rw [if_neg hd]
      rw [List.flatMap_cons, e]; simp
    · rw [h9.us]; have e : (tkUs t.s b) = [] := by unfold tkUs; rw [if_neg hd]
      rw [List.flatMap_cons, e]
      rfl
    · rw [h9.ks]; have e : (tkKs t.s b) = [] := by unfold tkKs; rw [if_neg hd]
      rw [List.flatMap_cons, e]
      rfl
    · intro x hx; obtain ⟨y, hy, e1, e2⟩ := h9.tot x hx; rcases hy with hy | hy
      · rcases List.mem_append.1 hy with hy | hy
        · exact ⟨y, .inl hy, e1, e2⟩
        · exact ⟨y, .inr (by simp [List.mem_singleton.1 hy]), e1, e2⟩
      · exact ⟨y, .inr (List.mem_cons_of_mem _ hy), e1, e2⟩
    · have := h9.S; simp only [List.length_cons]; omega
structure TkAll (s : Fs) (R : TkS) : Prop where
 st : ∃ A', R.s = { s with N := s.clk, L := A', S := R.s.S } ∧ A'.map Fe.d = s.L.flatMap (tkX s)
 us : R.us = s.L.flatMap (tkUs s)
 ks : R.ks = s.L.flatMap (tkKs s)
 ti : FTi R.s R.W
 tot : ∀ x, x ∈ R.s.L → ∃ y, y ∈ s.L ∧ x.told = y.told ∧ x.n = y.n
 S : R.s.S ≤ s.S + s.L.length
theorem FInv.inj {s : Fs} (h : FInv s) {x y : Fe} (hx : x ∈ s.L) (hy : y ∈ s.L) (e : x.n = y.n) : x = y := by
 obtain ⟨i, hi, rfl⟩ := List.mem_iff_getElem.1 hx; obtain ⟨j, hj, rfl⟩ := List.mem_iff_getElem.1 hy; rcases Nat.lt_trichotomy i j with h1 | h1 | h1
 · have := List.pairwise_iff_getElem.1 h.up i j hi hj h1; omega
 · subst h1; rfl
 · have := List.pairwise_iff_getElem.1 h.up j i hj hi h1; omega
theorem tk_all {s : Fs} {W : List Wh.Tm} (hi : FInv s) (h : FTi s W) : TkAll s (tkRun ⟨{ s with N := s.clk }, W.filter (fun t => decide (s.clk < t.at_)), [], []⟩ ((dueF s).map Fe.n)) := by
 have hno : (s.L.map Fe.n).Nodup := by
  rw [List.nodup_iff_pairwise_ne, List.pairwise_map]; exact hi.up.imp (fun {a b} h9 => Nat.ne_of_lt h9)
 have hin : ∀ x, x ∈ s.L → (x.n ∈ (dueF s).map Fe.n ↔ x.due ≤ s.clk) := fun x hx => by
  constructor
  · intro h9; obtain ⟨y, hy, e⟩ := List.mem_map.1 h9; unfold dueF at hy; have h8 := List.mem_filter.1 hy; have : y = x := hi.inj h8.1 hx e; subst this
    simpa using h8.2
  · intro h9; exact List.mem_map.2 ⟨x, List.mem_filter.2 ⟨hx, by simpa using h9⟩, rfl⟩
 obtain ⟨A', h9⟩ := tk_run s.L [] ⟨{ s with N := s.clk }, W.filter (fun t => decide (s.clk < t.at_)), [], []⟩ rfl (by simpa using hno) (by
   simp only [List.nil_append]; have h8 := (h.pm.filter (fun t => decide (s.clk < t.at_))).filter (nrT ((dueF s).map Fe.n)); refine h8.trans ?_; unfold tmsF; rw [List.filter_filter, List.filter_map]
   have e : s.L.filter ((fun t : Wh.Tm => nrT ((dueF s).map Fe.n) t && decide (s.clk < t.at_)) ∘ (fun x : Fe => (⟨(x.n : Int), x.at_, x.sq⟩ : Wh.Tm))) = s.L.filter (fun x => !decide (x.due ≤ s.clk)) := by
    apply List.filter_congr; intro x hx; have h7 := h.at_ x hx; have h6 := h.dm x hx; have h5 := hi.c; simp only [Function.comp]
    by_cases hd : x.due ≤ s.clk
    · rw [nr_in ((hin x hx).2 hd)]; simp [hd]
    · rw [nr_out (fun h4 => hd ((hin x hx).1 h4))]; have : s.clk < x.at_ := by unfold mxX at *; omega
      simp [hd, this]
   rw [e]) (fun x hx => by
    rcases hx with hx | hx
    · cases hx
    · exact ⟨h.at_ x hx.1, h.dm x hx.1⟩) hi.rt.1 rfl hi.c
 have hsL : (tkRun ⟨{ s with N := s.clk }, W.filter (fun t => decide (s.clk < t.at_)), [], []⟩ ((dueF s).map Fe.n)).s.L = A' := by rw [show ((dueF s).map Fe.n) = ((s.L.filter (fun x => decide (x.due ≤ s.clk))).map Fe.n) from rfl, h9.s]
 refine ⟨⟨A', h9.s, h9.l⟩, h9.us, h9.ks, ⟨?_, ?_, ?_⟩, ?_, h9.S⟩
 · rw [hsL]; exact h9.pm
 · rw [hsL]; exact fun x hx => (h9.ok x hx).1
 · rw [hsL]; exact fun x hx => (h9.ok x hx).2
 · rw [hsL]; intro x hx; obtain ⟨y, hy, e⟩ := h9.tot x hx; exact ⟨y, hy.elim (fun h => by cases h) id, e⟩
open Go.RowKit Go.Maps
theorem lst_ins : ∀ (l : List Rg) (x : Rg), Lst l → x.1 < x.2 → ∃ out, Lst out ∧ ∀ j, hasR out j ↔ (x.1 ≤ j ∧ j < x.2) ∨ hasR l j
 | [], x, _, hx => ⟨[x], ⟨by simpa using hx, by simp⟩, fun j => by rw [hasR_one]; simp [hasR]⟩
 | y :: r, x, hl, hx => by
  have hy := hl.pos y (by simp)
  by_cases h1 : y.2 < x.1
  · obtain ⟨out, ho, hj⟩ := lst_ins r x hl.tail hx; refine ⟨y :: out, ⟨?_, ?_⟩, fun j => by rw [hasR_cons, hasR_cons, hj]; constructor <;> (intro h9; rcases h9 with h9 | h9 | h9 <;> simp [h9])⟩
    · intro z hz; rcases List.mem_cons.1 hz with rfl | hz
      · exact hy
      · exact ho.pos z hz
    · refine List.pairwise_cons.2 ⟨fun z hz => ?_, ho.gap⟩; have hzp := ho.pos z hz; rcases (hj z.1).1 ⟨z, hz, Int.le_refl _, hzp⟩ with h9 | h9
      · omega
      · exact hl.after h9
  · by_cases h2 : x.2 < y.1
    · refine ⟨x :: y :: r, ⟨?_, ?_⟩, fun j => hasR_cons _ _ _⟩
      · intro z hz; rcases List.mem_cons.1 hz with rfl | hz
        · exact hx
        · exact hl.pos z hz
      · refine List.pairwise_cons.2 ⟨fun z hz => ?_, hl.gap⟩; rcases List.mem_cons.1 hz with rfl | hz
        · exact h2
        · have := (List.pairwise_cons.1 hl.gap).1 z hz; omega
    · obtain ⟨out, ho, hj⟩ := lst_ins r (min x.1 y.1, max x.2 y.2) hl.tail (by simp only; omega); refine ⟨out, ho, fun j => ?_⟩; rw [hj, hasR_cons, ← or_assoc]; have e : (min x.1 y.1 ≤ j ∧ j < max x.2 y.2) ↔ ((x.1 ≤ j ∧ j < x.2) ∨ (y.1 ≤ j ∧ j < y.2)) := by omega
      simp only [e]
theorem lst_ex : ∀ l : List Rg, ∃ out, Lst out ∧ ∀ j, hasR out j ↔ hasR l j
 | [] => ⟨[], Lst.nil, fun _ => Iff.rfl⟩
 | x :: l => by
  obtain ⟨o, ho, hj⟩ := lst_ex l
  by_cases hx : x.1 < x.2
  · obtain ⟨o2, ho2, hj2⟩ := lst_ins o x ho hx; exact ⟨o2, ho2, fun j => by rw [hj2, hj, hasR_cons]⟩
  · exact ⟨o, ho, fun j => by rw [hj, hasR_cons]; constructor; (exact .inr); (rintro (h9 | h9); (omega); (exact h9))⟩
def TolOk (l : List Rg) : Prop := Lst l ∧ ∀ r, r ∈ l → 0 ≤ r.1 ∧ r.2 ≤ 64
theorem tol_len : ∀ (l : List Rg) (f : Int), Lst l → (∀ r, r ∈ l → f ≤ r.1 ∧ r.2 ≤ 64) → (l.length : Int) ≤ max 0 (64 - f)
 | [], f, _, _ => by simp; omega
 | x :: l, f, hl, h => by
  have h1 := h x (by simp); have h2 := hl.pos x (by simp); have h3 := tol_len l (f + 1) hl.tail (fun r hr => ⟨by have := (List.pairwise_cons.1 hl.gap).1 r hr; omega, (h r (List.mem_cons_of_mem _ hr)).2⟩); simp only [List.length_cons]; omega
theorem TolOk.len {l : List Rg} (h : TolOk l) : l.length ≤ 64 := by have := tol_len l 0 h.1 h.2; omega
theorem TolOk.ri {l : List Rg} (h : TolOk l) : RI l := fun r hr => by
 have h1 := h.2 r hr; have h2 := h.1.pos r hr; unfold I64; omega
theorem gotF_all : ∀ (l : List Rg) (f : Int), gotF f l → ∀ r, r ∈ l → f ≤ r.1 ∧ r.2 ≤ 64 ∧ r.1 < r.2
 | [], _, _, r, hr => by cases hr
 | x :: l, f, h, r, hr => by
  rcases List.mem_cons.1 hr with rfl | hr
  · exact ⟨h.1.1, h.1.2.2, h.1.2.1⟩
  · have h1 := gotF_all l _ h.2 r hr; have h2 := h.1; exact ⟨by omega, h1.2⟩
theorem gotF_lst : ∀ (l : List Rg) (f : Int), gotF f l → Lst l
 | [], _, _ => Lst.nil
 | x :: l, f, h => by
  have h1 := gotF_lst l _ h.2; refine ⟨fun z hz => ?_, List.pairwise_cons.2 ⟨fun z hz => ?_, h1.gap⟩⟩
  · rcases List.mem_cons.1 hz with rfl | hz
    · exact h.1.2.1
    · exact h1.pos z hz
  · have := (gotF_all l _ h.2 z hz).1; omega
theorem gotOk.tol {l : List Rg} (h : gotOk l) : TolOk l := ⟨gotF_lst l 0 h, fun r hr => ⟨(gotF_all l 0 h r hr).1, (gotF_all l 0 h r hr).2.1⟩⟩
theorem TolOk.union {a l out : List Rg} (ha : TolOk a) (hl : TolOk l) (ho : Lst out) (hj : ∀ j, hasR out j ↔ hasR (a ++ l) j) : TolOk out := by
 have hin : ∀ j, hasR (a ++ l) j → 0 ≤ j ∧ j < 64 := fun j h9 => by
  rcases (hasR_app a l j).1 h9 with ⟨r, hr, h8⟩ | ⟨r, hr, h8⟩
  · have := ha.2 r hr; omega
  · have := hl.2 r hr; omega
 refine ⟨ho, fun r hr => ?_⟩; have hp := ho.pos r hr; have h1 := hin r.1 ((hj _).1 ⟨r, hr, Int.le_refl _, hp⟩); have h2 := hin (r.2 - 1) ((hj _).1 ⟨r, hr, by omega, by omega⟩); omega
structure Fok (s : Fs) (W : List Wh.Tm) : Prop where
 ti : FTi s W
 tl : ∀ x, x ∈ s.L → TolOk x.told
section
variable {s : Fs} {W : List Wh.Tm}
theorem Fok.wl (h : Fok s W) (hi : FInv s) : W.length ≤ 64 := by
 rw [h.ti.pm.length_eq]; unfold tmsF; rw [List.length_map]; have := hi.len; omega
theorem Fok.td (h : Fok s W) : ∀ x, x ∈ s.L → x.told.length ≤ 1000000 := fun x hx => by have := (h.tl x hx).len; omega
theorem Fok.clk (h : Fok s W) (c : Nat) : Fok { s with clk := c } W := ⟨⟨h.ti.pm, h.ti.at_, h.ti.dm⟩, h.tl⟩
theorem Fok.row (h : Fok s W) (r : List (Fk × Seg)) : Fok { s with row := r } W := ⟨⟨h.ti.pm, h.ti.at_, h.ti.dm⟩, h.tl⟩
theorem Fok.end (h : Fok s W) (hi : FInv s) {i : Nat} {y : Fe} (hy : s.L[i]? = some y) : Fok { s with L := s.L.eraseIdx i } (W.filter (fun t => decide (t.id ≠ (y.n : Int)))) := ⟨h.ti.end hi hy, fun x hx => h.tl x (List.mem_of_mem_eraseIdx hx)⟩
theorem Fok.told (h : Fok s W) {i : Nat} {y : Fe} (hy : s.L[i]? = some y) {out : List Rg} (ho : TolOk out) : Fok { s with L := s.L.set i { y with told := out } } W := by
 have hm : y ∈ s.L := List.mem_of_getElem? hy
 have hc : ∀ z, z ∈ s.L.set i { y with told := out } → z = { y with told := out } ∨ z ∈ s.L := fun z hz => by
  rcases List.mem_or_eq_of_mem_set hz with h9 | h9
  · exact .inr h9
  · exact .inl h9
 refine ⟨⟨?_, fun x hx => ?_, fun x hx => ?_⟩, fun x hx => ?_⟩
 · have e : tmsF (s.L.set i { y with told := out }) = tmsF s.L := by
    unfold tmsF; rw [List.map_set]; have e9 : (s.L.map (fun x : Fe => (⟨(x.n : Int), x.at_, x.sq⟩ : Wh.Tm)))[i]? = some ⟨(y.n : Int), y.at_, y.sq⟩ := by rw [List.getElem?_map, hy]; rfl
    obtain ⟨hi, e8⟩ := List.getElem?_eq_some_iff.1 e9; apply List.ext_getElem
    · simp
    · intro j h1 h2; rw [List.getElem_set]; split
      · rename_i e; subst e; exact e8.symm
      · rfl
   exact (congrArg (W.Perm ·) e).mpr h.ti.pm
 · rcases hc x hx with rfl | h9
   · exact h.ti.at_ y hm
   · exact h.ti.at_ x h9
 · rcases hc x hx with rfl | h9
   · exact h.ti.dm y hm
   · exact h.ti.dm x h9
 · rcases hc x hx with rfl | h9
   · exact ho
   · exact h.tl x h9
theorem Fok.tick (h : Fok s W) (hi : FInv s) : Fok (tkRun ⟨{ s with N := s.clk }, W.filter (fun t => decide (s.clk < t.at_)), [], []⟩ ((dueF s).map Fe.n)).s (tkRun ⟨{ s with N := s.clk }, W.filter (fun t => decide (s.clk < t.at_)), [], []⟩ ((dueF s).map Fe.n)).W := by
 have h9 := tk_all hi h.ti; refine ⟨h9.ti, fun x hx => ?_⟩; obtain ⟨y, hy, e, -⟩ := h9.tot x hx; rw [e]; exact h.tl y hy
theorem Fok.run (hi : FInv s) (h : Fok s W) {n : Nat} (hnu : ∀ x, x ∈ s.L → x.n < n) : ∀ j, (∀ i, i < j → mayB (runN s n i) (n + i)) → FInv (runN s n j) ∧ Fok (runN s n j) (runW W s n j) ∧ (runN s n j).S = s.S + j ∧ ∀ x, x ∈ (runN s n j).L → x.n < n + j
 | 0, _ => ⟨hi, h, rfl, hnu⟩
 | j + 1, hg => by
  obtain ⟨h1, h2, h3, h4⟩ := Fok.run hi h hnu j (fun i hij => hg i (by omega)); have hm := hg j (by omega)
  obtain ⟨⟨k, xs⟩, r, hrow⟩ : ∃ x r, (runN s n j).row = x :: r := by
   cases e : (runN s n j).row with
   | nil => have := hm.1; rw [e] at this; cases this
   | cons a b => exact ⟨a, b, rfl⟩
  have hr0 : (runN s n j).row[0]? = some (k, xs) := by rw [hrow]; rfl
  have hst := (stepF_cons (m := n + j) hr0).1; have hi9 : FInv (stepF (runN s n j) (n + j)) := h1.step hm h4 hr0; refine ⟨hi9, ⟨?_, ?_⟩, ?_, ?_⟩
  · show FTi (stepF (runN s n j) (n + j)) (Wh.setL (runW W s n j) (runN s n j).N (runN s n j).S ((n + j : Nat) : Int) ((runN s n j).clk + (runN s n j).rt)); rw [hst]; exact FTi.begin h1 h2.ti h4
  · show ∀ x, x ∈ (stepF (runN s n j) (n + j)).L → _; rw [hst]; intro x hx; rcases List.mem_append.1 hx with hx | hx
    · exact h2.tl x hx
    · rw [List.mem_singleton.1 hx]; exact ⟨Lst.nil, fun r hr => by cases hr⟩
  · show (stepF (runN s n j) (n + j)).S = _; rw [hst, h3]
    rfl
  · show ∀ x, x ∈ (stepF (runN s n j) (n + j)).L → _; rw [hst]; intro x hx; rcases List.mem_append.1 hx with hx | hx
    · have := h4 x hx; omega
    · rw [List.mem_singleton.1 hx]; show n + j < n + (j + 1); omega
end
end Go.Proofs.YtpakkpahcpgnnaaGreatDoor
