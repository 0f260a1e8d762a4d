import Derived.Test.YtpakkpahcpgnnaaGreatDoorKGs
set_option linter.unusedVariables false
set_option linter.unusedSimpArgs false
namespace Go.Proofs.YtpakkpahcpgnnaaGreatDoor
open Go.RowKit Go.Maps
section
variable {w w' : World} {H : Nat → Prop} {P P' : Fp} {J J' : Jp} {X : Value × Value} {s s' : Fs} {W W' : List Wh.Tm}
set_option maxRecDepth 20000
set_option maxHeartbeats 6400000
theorem fstep_run (h : Exf w H P J X s W s.d) (hok : Fok s W) (hS : s.S + 64 < 18446744073709551615) (y : Of) (k1 : (y.kd == 1) = false) (k2 : (y.kd == 2) = true) (ok : ∀ u, Chg (fun b => ¬ H b) w u → OfOk u y) :
 Calls Tryz.prog 21 #[.pointer (some ⟨P.p, 0, none⟩), .pointer (some ⟨J.q, 0, none⟩), .agg y.c] w fun e w' => e = .returned (.bool true) ∧ ∃ P' J' s' W', FOut w w' H P P' J J' X s s' W' := by
 obtain ⟨w1, hw1⟩ : ∃ w1, w1 = w.alloc (.cells y.c tOf) := ⟨_, rfl⟩; have h1 := h.box (.cells y.c tOf); rw [← hw1] at h1; have hbx1 : w1.heap[w.heap.size]? = some (.cells y.c tOf (0, 0)) := by rw [hw1]; exact heap_alloc_new w _
 have hoc := fun (u : World) (hu : u.heap[w.heap.size]? = some (.cells y.c tOf (0, 0))) => ofCells hu
 have hc1 : (w.alloc (.cells y.c tOf)).cell? ⟨w.heap.size, 0, none⟩ = some (.int .i64 y.kd) := by rw [← hw1]; exact (hoc w1 hbx1).1
 have HCW : Hid (Chg (fun b => ¬ H b) w w1) := by unfold Hid; rw [hw1]; exact Chg.of_below (alw (bR _ _) _)
 have HW1 : Hid (w1 = _) := hw1; have HH : Hid _ := h1; have HZ0 : Hid (H 0) := h.h0; have HBX : Hid _ := hbx1; have HAV : Hid (∀ u u', Chg (fun b => ¬ (H b ∨ b = w.heap.size)) u u' → w.heap.size < u.heap.size → u'.heap[w.heap.size]? = u.heap[w.heap.size]?) := fun u u' hc hl => hc.block _ hl (fun h9 => h9 (.inr rfl))
 have HLS : Hid (∀ u u', Chg (fun b => ¬ (H b ∨ b = w.heap.size)) u u' → Chg (fun b => ¬ H b) u u') := fun u u' hc => hc.mono (fun b hb hh => hb (.inl hh))
 have HLO : Hid (∀ b, H b → b < w.heap.size) := fun b hb => (h.av b hb).1
 have HSZ : Hid (w.heap.size < w1.heap.size) := (sI hbx1).1; have hcs := hoc w1 hbx1; rw [hw1] at hcs; obtain ⟨j, us, s', W', HP, HD, hok', hS', hul, hut⟩ := run_pair h.a.inv hok y.n y.now hS; have HPS : Hid _ := HP w1 P h1.a; have HHD : Hid _ := HD; have HOK' : Hid _ := hok'; have HS' : Hid (s'.S ≤ s.S + 64) := hS'; have HUL : Hid _ := hul; have HUT : Hid _ := hut; clear h h1 hw1 hbx1 hok hS ok HP HD hok' hS' hul hut; go_enter Tryz.func21, Tryz.ntmps21
 (go_wp2_with fail); rw [← HW1.out]; refine Calls.mono HPS.out ?_; rintro e9 w2 ⟨va, P', D, rfl, hus, hst, hstp, hfar, hpp⟩; have hp2 := HH.out.prog hst hstp; have hbx2 := (HAV.out _ _ hp2.2 (sI HBX.out).1).trans HBX.out; have hc2 := hoc w2 hbx2
 have hP2 : Exf w2 (fun b => (H b ∨ b = w.heap.size) ∨ (va.ownBlock = some b ∨ XV D b)) P' J X s' W' s.d := hp2.1.mores (fun b hb => by
   have h9 := hus.lt hb
   exact ⟨h9.2, hfar b hb, fun hf => by have := HH.out.b.lt hf; omega⟩)
 have HP2 : Hid _ := hP2; have HC2 : Hid (Chg (fun b => ¬ H b) w w2) := HCW.out.trans (HLS.out _ _ hp2.2) (fun b hb => .inl hb); have HR : Hid _ := HHD.out w2 J X hP2.b; have HPP : Hid (P'.p = P.p) := hpp; have HUS : Hid _ := hus; have HFN : Hid (∀ b, (va.ownBlock = some b ∨ XV D b) → ¬ H b) := fun b hb hh => by have := (hus.lt hb).1; have := HLO.out b hh; have := HSZ.out; omega
 clear hst hstp hp2 hbx2 hcs hc1 hoc hpp hus hfar hP2; (go_wp2_with fail); refine Calls.mono HR.out ?_; rintro e9 w3 ⟨vb, J', E, rfl, hub, hJ, hJs, hfarJ, hqq⟩; have hp3 := HP2.out.doc hJ hJs; have HP3 : Hid _ := hp3.1; have HC3 : Hid (Chg (fun b => ¬ H b) w w3) := HC2.out.trans (hp3.2.mono (fun b hb hh => hb (.inl (.inl hh)))) (fun b hb => .inl hb); have HQQ : Hid (J'.q = J.q) := hqq; have husA := HUS.out.kept (w' := w3) (fun b hb => hp3.2.block b (HUS.out.lt hb).2 (fun h9 => h9 (.inr hb))); have HUN : Hid _ := lawUnits_t husA hub HUL.out HUT.out; have HFP : Hid (∀ b, (va.ownBlock = some b ∨ XV D b) → ¬ footF P' b ∧ ¬ footJ J' b) := fun b hb => ⟨(hp3.1.av b (.inr hb)).2.1, (hp3.1.av b (.inr hb)).2.2⟩
 clear hJ hJs hp3 hc2 hqq hub hfarJ husA; go_wp2_with (go_at_call 52; refine Calls.mono HUN.out ?_; rintro e1 w4 ⟨rfl, ho⟩; have HO : Hid _ := ho; clear ho)
 go_ret; have h9 := (HP3.out.less (H' := H) (fun b hb => .inl (.inl hb)) HZ0.out).chg0 HO.out.chg (fun b hb => (HFP.out b hb).1) (fun b hb => (HFP.out b hb).2) HFN.out; exact ⟨rfl, P', J', s', W', ⟨h9, HC3.out.trans (HO.out.chg.mono HFN.out) (fun b hb => .inl hb), HOK'.out, HS'.out, HPP.out, HQQ.out⟩⟩
end
open Go.RowKit Go.Maps
theorem sameKeys_of {u : World} {B1 B2 : Nat} {aa ab : Option Addr} {n ca cb : Nat} {ks : List Fk} (hn : n = ks.length) (h64 : n ≤ 64) (ha : OwnG KKy u B1 (.slice aa n ca) ks) (hb : OwnG KKy u B2 (.slice ab n cb) ks) : Calls Tryz.prog 17 #[.slice aa n ca, .slice ab n cb] u fun e w' => e = .returned (.bool true) ∧ Below u.heap.size u w' := by
 obtain ⟨a1, c1, e1, -, -, -, r1⟩ := ha.val; obtain ⟨a2, c2, e2, -, -, -, r2⟩ := hb.val; simp only [Value.slice.injEq] at e1 e2; rw [e1.1, e2.1]; exact sameKeys_t a1 a2 n ca cb ks hn (by omega) r1 r2
section
variable {w w' : World} {H : Nat → Prop} {P P' : Fp} {J J' : Jp} {X : Value × Value} {s s' : Fs} {W W' : List Wh.Tm}
set_option maxRecDepth 20000
set_option maxHeartbeats 6400000
theorem fstep_tick (h : Exf w H P J X s W s.d) (hok : Fok s W) (hS : s.S + 64 < 18446744073709551615) (y : Of) (k1 : (y.kd == 1) = false) (k2 : (y.kd == 2) = false) (k3 : (y.kd == 3) = false) (k4 : (y.kd == 4) = true) (ok : ∀ u, Chg (fun b => ¬ H b) w u → OfOk u y) :
 Calls Tryz.prog 21 #[.pointer (some ⟨P.p, 0, none⟩), .pointer (some ⟨J.q, 0, none⟩), .agg y.c] w fun e w' => e = .returned (.bool true) ∧ ∃ P' J' s' W', FOut w w' H P P' J J' X s s' W' := by
 obtain ⟨w1, hw1⟩ : ∃ w1, w1 = w.alloc (.cells y.c tOf) := ⟨_, rfl⟩; have h1 := h.box (.cells y.c tOf); rw [← hw1] at h1; have hbx1 : w1.heap[w.heap.size]? = some (.cells y.c tOf (0, 0)) := by rw [hw1]; exact heap_alloc_new w _
 have hoc := fun (u : World) (hu : u.heap[w.heap.size]? = some (.cells y.c tOf (0, 0))) => ofCells hu
 have hc1 : (w.alloc (.cells y.c tOf)).cell? ⟨w.heap.size, 0, none⟩ = some (.int .i64 y.kd) := by rw [← hw1]; exact (hoc w1 hbx1).1
 have HCW : Hid (Chg (fun b => ¬ H b) w w1) := by unfold Hid; rw [hw1]; exact Chg.of_below (alw (bR _ _) _)
 have HW1 : Hid (w1 = _) := hw1; have HH : Hid _ := h1; have HZ0 : Hid (H 0) := h.h0; have HBX : Hid _ := hbx1; have HAV : Hid (∀ u u', Chg (fun b => ¬ (H b ∨ b = w.heap.size)) u u' → w.heap.size < u.heap.size → u'.heap[w.heap.size]? = u.heap[w.heap.size]?) := fun u u' hc hl => hc.block _ hl (fun h9 => h9 (.inr rfl))
 have HLS : Hid (∀ u u', Chg (fun b => ¬ (H b ∨ b = w.heap.size)) u u' → Chg (fun b => ¬ H b) u u') := fun u u' hc => hc.mono (fun b hb hh => hb (.inl hh))
 have HLO : Hid (∀ b, H b → b < w.heap.size) := fun b hb => (h.av b hb).1
 have HSZ : Hid (w.heap.size < w1.heap.size) := (sI hbx1).1; have hcs := hoc w1 hbx1; rw [hw1] at hcs; obtain ⟨us, ks, s', W', HP, HD, hok', hS', hul, hut, hkl⟩ := tick_pair h.a.inv hok y.now hS; have HPS : Hid _ := HP w1 P h1.a h1.tz (h1.av 0 h1.h0).2.1; have HHD : Hid _ := HD; have HOK' : Hid _ := hok'; have HS' : Hid (s'.S ≤ s.S + 64) := hS'; have HUL : Hid _ := hul; have HUT : Hid _ := hut; obtain ⟨nk, hnk⟩ : ∃ nk, nk = ks.length := ⟨_, rfl⟩; have hnk64 : nk ≤ 64 := by rw [hnk]; exact hkl
 have HNK : Hid _ := hnk; clear h h1 hw1 hbx1 hok hS ok HP HD hok' hS' hul hut hkl hnk; go_enter Tryz.func21, Tryz.ntmps21
 (go_wp2_with fail); rw [← HW1.out]; refine Calls.mono HPS.out ?_; rintro e9 w2 ⟨va, va5, P', D, rfl, hus, hks, hst, hstp, hfar, hpp⟩; have hp2 := HH.out.prog hst hstp; have hbx2 := (HAV.out _ _ hp2.2 (sI HBX.out).1).trans HBX.out; have hc2 := hoc w2 hbx2
 have hP2 : Exf w2 (fun b => (H b ∨ b = w.heap.size) ∨ ((va.ownBlock = some b ∨ XV D b) ∨ va5.ownBlock = some b)) P' J X s' W' s.d := hp2.1.mores (fun b hb => by
   have h9 : w1.heap.size ≤ b ∧ b < w2.heap.size := by
    rcases hb with hb | hb
    · exact hus.lt hb
    · exact hks.lt' hb
   exact ⟨h9.2, hfar b hb, fun hf => by have := HH.out.b.lt hf; omega⟩)
 have HP2 : Hid _ := hP2; have HC2 : Hid (Chg (fun b => ¬ H b) w w2) := HCW.out.trans (HLS.out _ _ hp2.2) (fun b hb => .inl hb); have HR : Hid _ := HHD.out w2 J X hP2.b; have HPP : Hid (P'.p = P.p) := hpp; have HUS : Hid _ := hus; have HKS : Hid _ := hks; have HFN : Hid (∀ b, (va.ownBlock = some b ∨ XV D b) → ¬ H b) := fun b hb hh => by have := (hus.lt hb).1; have := HLO.out b hh; have := HSZ.out; omega
 clear hst hstp hp2 hbx2 hcs hc1 hoc hpp hus hfar hP2 hks; (go_wp2_with fail); refine Calls.mono HR.out ?_; rintro e9 w3 ⟨vb, vb5, J', E, rfl, hub, hkb, hJ, hJs, hfarJ, hqq⟩; have hp3 := HP2.out.doc hJ hJs; have HP3 : Hid _ := hp3.1; have HC3 : Hid (Chg (fun b => ¬ H b) w w3) := HC2.out.trans (hp3.2.mono (fun b hb hh => hb (.inl (.inl hh)))) (fun b hb => .inl hb); have HQQ : Hid (J'.q = J.q) := hqq; have husA := HUS.out.kept (w' := w3) (fun b hb => hp3.2.block b (HUS.out.lt hb).2 (fun h9 => h9 (.inr (.inl hb)))); have hksA : OwnG KKy w3 w1.heap.size va5 ks := OwnG.kept HKS.out (fun b hb => hp3.2.block b (OwnG.lt' HKS.out hb).2 (fun h9 => h9 (.inr (.inr hb)))); have HUN : Hid _ := lawUnits_t husA hub HUL.out HUT.out; have HFP : Hid (∀ b, (va.ownBlock = some b ∨ XV D b) → ¬ footF P' b ∧ ¬ footJ J' b) := fun b hb => ⟨(hp3.1.av b (.inr (.inl hb))).2.1, (hp3.1.av b (.inr (.inl hb))).2.2⟩
 have HNX : Hid (∀ b, (va.ownBlock = some b ∨ XV D b) → va5.ownBlock ≠ some b ∧ vb5.ownBlock ≠ some b) := fun b hb => by
  have hbl : b < w2.heap.size := (HUS.out.lt hb).2; refine ⟨fun e => ?_, fun e => ?_⟩
  · obtain ⟨c5, e5⟩ := hksA.at_ e; rcases hb with hb | hb
    · obtain ⟨c6, e6⟩ := husA.row.at_ hb; exact absurd (ty_of e5 e6) (by decide)
    · obtain ⟨c6, e6⟩ := husA.fml.ty hb; exact absurd (ty_of e5 e6) (by decide)
  · have := (hkb.lt' e).1; omega
 obtain ⟨aa, ca, hva5, -, -, -, hra⟩ := hksA.val; obtain ⟨ab, cb, hvb5, -, -, -, hrb⟩ := hkb.val; rw [← HNK.out] at hva5 hvb5; have HKA : Hid (OwnG KKy w3 w1.heap.size (.slice aa nk ca) ks) := by unfold Hid; rw [← hva5]; exact hksA
 have HKB : Hid (OwnG KKy w3 w2.heap.size (.slice ab nk cb) ks) := by unfold Hid; rw [← hvb5]; exact hkb
 have HNY : Hid (∀ b, (va.ownBlock = some b ∨ XV D b) → (Value.slice aa nk ca).ownBlock ≠ some b ∧ (Value.slice ab nk cb).ownBlock ≠ some b) := by unfold Hid; rw [← hva5, ← hvb5]; exact HNX.out
 clear HNX; subst hva5; subst hvb5; clear hJ hJs hp3 hc2 hqq hub hfarJ husA hksA hkb hra hrb
 go_wp2_with (first
   | (go_at_call 52; refine Calls.mono HUN.out ?_; rintro e1 w4 ⟨rfl, ho⟩; have HO : Hid _ := ho; have HSK : Hid (Calls Tryz.prog 17 #[.slice aa nk ca, .slice ab nk cb] w4 fun e w' => e = .returned (.bool true) ∧ Below w4.heap.size w4 w') := sameKeys_of HNK.out hnk64 (OwnG.kept HKA.out (fun b hb => ho.chg.block b (OwnG.lt' HKA.out hb).2 (fun h9 => (HNY.out b h9).1 hb))) (OwnG.kept HKB.out (fun b hb => ho.chg.block b (OwnG.lt' HKB.out hb).2 (fun h9 => (HNY.out b h9).2 hb))); clear ho)
   | (go_at_call 17; refine Calls.mono HSK.out ?_; rintro e1 w5 ⟨rfl, hb5⟩; have HB5 : Hid _ := hb5; clear hb5))
 go_ret; have h9 := (HP3.out.less (H' := H) (fun b hb => .inl (.inl hb)) HZ0.out).chg0 HO.out.chg (fun b hb => (HFP.out b hb).1) (fun b hb => (HFP.out b hb).2) HFN.out; exact ⟨rfl, P', J', s', W', ⟨h9.below HB5.out, (HC3.out.trans (HO.out.chg.mono HFN.out) (fun b hb => .inl hb)).trans (Chg.of_below HB5.out) (fun b hb => .inl hb), HOK'.out, HS'.out, HPP.out, HQQ.out⟩⟩
end
open Go.RowKit Go.Maps
section
variable {w w' : World} {H : Nat → Prop} {P P' : Fp} {J J' : Jp} {X : Value × Value} {s s' : Fs} {W W' : List Wh.Tm}
set_option maxRecDepth 20000
set_option maxHeartbeats 6400000
theorem fstep_queue (h : Exf w H P J X s W s.d) (hok : Fok s W) (hS : s.S + 64 < 18446744073709551615) (y : Of) (k1 : (y.kd == 1) = true) (ok : ∀ u, Chg (fun b => ¬ H b) w u → OfOk u y) :
 Calls Tryz.prog 21 #[.pointer (some ⟨P.p, 0, none⟩), .pointer (some ⟨J.q, 0, none⟩), .agg y.c] w fun e w' => e = .returned (.bool true) ∧ ∃ P' J' s' W', FOut w w' H P P' J J' X s s' W' := by
 obtain ⟨w1, hw1⟩ : ∃ w1, w1 = w.alloc (.cells y.c tOf) := ⟨_, rfl⟩; have h1 := h.box (.cells y.c tOf); rw [← hw1] at h1; have hbx1 : w1.heap[w.heap.size]? = some (.cells y.c tOf (0, 0)) := by rw [hw1]; exact heap_alloc_new w _
 have hoc := fun (u : World) (hu : u.heap[w.heap.size]? = some (.cells y.c tOf (0, 0))) => ofCells hu
 have hc1 : (w.alloc (.cells y.c tOf)).cell? ⟨w.heap.size, 0, none⟩ = some (.int .i64 y.kd) := by rw [← hw1]; exact (hoc w1 hbx1).1
 have HCW : Hid (Chg (fun b => ¬ H b) w w1) := by unfold Hid; rw [hw1]; exact Chg.of_below (alw (bR _ _) _)
 have HW1 : Hid (w1 = _) := hw1; have HH : Hid _ := h1; have HZ0 : Hid (H 0) := h.h0; have HBX : Hid _ := hbx1; have HAV : Hid (∀ u u', Chg (fun b => ¬ (H b ∨ b = w.heap.size)) u u' → w.heap.size < u.heap.size → u'.heap[w.heap.size]? = u.heap[w.heap.size]?) := fun u u' hc hl => hc.block _ hl (fun h9 => h9 (.inr rfl))
 have HLS : Hid (∀ u u', Chg (fun b => ¬ (H b ∨ b = w.heap.size)) u u' → Chg (fun b => ¬ H b) u u') := fun u u' hc => hc.mono (fun b hb hh => hb (.inl hh))
 have HLO : Hid (∀ b, H b → b < w.heap.size) := fun b hb => (h.av b hb).1
 have HSZ : Hid (w.heap.size < w1.heap.size) := (sI hbx1).1; have hcs := hoc w1 hbx1; rw [hw1] at hcs; have ok1 := ok w1 HCW.out; obtain ⟨er, s', HP, HD, hok', hS'⟩ := queue_pair h.a.inv hok y.k y.bn y.xs ok1.bn (by have := ok1.bl; have := ok1.bb; omega); obtain ⟨M4, hM4⟩ : ∃ M4, M4 = y.bn + 4 := ⟨_, rfl⟩; have hBY := bytes_own y.ba y.bc y.xs w1 ok1.br (by have := ok1.bl; have := ok1.bb; have := ok1.bn; omega); rw [← ok1.bn, ← hM4] at hBY; have HBY : Hid _ := hBY; have HHP : Hid _ := HP; have HHD : Hid _ := HD; have HOK' : Hid _ := hok'; have HS' : Hid (s'.S = s.S) := hS'; have HOK : Hid _ := ok; have HM4 : Hid _ := hM4; have hbnb : y.bn ≤ 140737488351232 := by have := ok1.bl; have := ok1.bb; omega
 have HBN : Hid _ := ok1.bn; clear h h1 hw1 hbx1 ok ok1 HP HD hok' hS' hBY hM4 hok hS; go_enter Tryz.func21, Tryz.ntmps21
 (go_wp2_with fail); rw [← HW1.out]; refine Calls.mono HBY.out ?_; rintro e9 w2 ⟨g, rfl, hgw, hown2, hb2⟩
 have hg2 : g < w2.heap.size := by
  rcases hown2.2 with ⟨h1, -⟩ | ⟨g', cap, cur, h1, -, hg, -⟩
  · cases h1
  · cases h1; exact (sI hg).1
 have hP2 := (HH.out.below hb2).more hg2 (HH.out.fresh hgw).1 (HH.out.fresh hgw).2; have hbx2 := (hb2.block _ (sI HBX.out).1).trans HBX.out
 have hrd2 : Rd w2 (some ⟨g, 0, none⟩) (y.xs ++ m4) := by
  obtain ⟨a, c, hv, -, -, -, hrd, -⟩ := hown2.val; simp only [Value.slice.injEq] at hv; rw [hv.1]; exact hrd
 have hrd2' : Rd w2 (some ⟨g, 0, none⟩) y.xs := by
  have h9 := Rd.take hrd2 y.xs.length; rw [List.take_left' rfl] at h9; exact h9
 have hc2 := hoc w2 hbx2; have HPB : Hid _ := HHP.out w2 P hP2.a (some ⟨g, 0, none⟩) M4 hrd2' (by rw [HM4.out]; omega) (fun h9 => by cases h9); have HP2 : Hid _ := hP2; have HBX2 : Hid _ := hbx2; have HR2 : Hid (Rd w2 (some ⟨g, 0, none⟩) (y.xs ++ m4)) := hrd2; have HO2 : Hid _ := hown2; have HG2 : Hid (w1.heap.size ≤ g ∧ g < w2.heap.size) := ⟨hgw, hg2⟩; have HC2 : Hid (Chg (fun b => ¬ H b) w w2) := HCW.out.trans (Chg.of_below hb2) (fun b hb => .inl hb); clear hgw hg2 hown2 hb2 hbx2 hrd2 hrd2' hP2 hcs hc1; (go_wp2_with fail); refine Calls.mono HPB.out ?_; rintro e9 w3 ⟨rfl, P', hst, hstp, hpp⟩; have hp3 := HP2.out.prog hst hstp; have hK3 : ∀ b, ((H b ∨ b = w.heap.size) ∨ b = g) → w3.heap[b]? = w2.heap[b]? := fun b hb => hp3.2.block b (HP2.out.av b hb).1 (fun h9 => h9 hb)
 have hbx3 := (hK3 w.heap.size (.inl (.inr rfl))).trans HBX2.out; have hc3 : Chg (fun b => ¬ H b) w w3 := HC2.out.trans (hp3.2.mono (fun b hb hh => hb (.inl (.inl hh)))) (fun b hb => .inl hb); have hcs3 := hoc w3 hbx3; have HDB : Hid _ := HHD.out w3 J X hp3.1.b y.ba y.bc (HOK.out w3 hc3).br (HOK.out w3 hc3).bl; have HP3 : Hid _ := hp3.1; have HBX3 : Hid _ := hbx3; have HC3 : Hid _ := hc3; have HK3 : Hid _ := hK3; have HPP : Hid (P'.p = P.p) := hpp; clear hst hstp hp3 hK3 hbx3 hc3 hc2 hpp; (go_wp2_with fail); refine Calls.mono HDB.out ?_; rintro e9 w4 ⟨rfl, J', hJ, hJs, hqq⟩; have hp4 := HP3.out.doc hJ hJs; have hK4 : ∀ b, ((H b ∨ b = w.heap.size) ∨ b = g) → w4.heap[b]? = w3.heap[b]? := fun b hb => hp4.2.block b (HP3.out.av b hb).1 (fun h9 => h9 hb)
 have hbx4 := (hK4 w.heap.size (.inl (.inr rfl))).trans HBX3.out; have hc4 : Chg (fun b => ¬ H b) w w4 := HC3.out.trans (hp4.2.mono (fun b hb hh => hb (.inl (.inl hh)))) (fun b hb => .inl hb); have hg4 : w4.heap[g]? = w2.heap[g]? := (hK4 g (.inr rfl)).trans (HK3.out g (.inr rfl)); have ok4 := HOK.out w4 hc4
 have HST : Hid (∀ u, Below w4.heap.size w4 u → Calls Tryz.prog 11 #[.slice (some ⟨g, 0, none⟩) y.bn M4, .slice y.ba y.bn y.bc] u fun e w' => e = .returned (.bool true) ∧ Below u.heap.size u w') := fun u hu => by
  rw [HM4.out, ok4.bn]; exact stays_t g y.ba y.bc y.xs u ((HR2.out.kept (fun ad e => by cases e; exact hg4)).below hu) (ok4.br.below hu) (by have := ok4.bn; omega)
 have hoB : WrB w4 (some ⟨g, 0, none⟩) y.bn := WrB.of_own (Own.keptb HO2.out (fun b e => by cases e; exact hg4)) (by rw [List.length_append, HBN.out]; omega); have HOB : Hid (WrB w4 (some ⟨g, 0, none⟩) y.bn) := hoB; have HC4 : Hid _ := hc4; have HQQ : Hid (J'.q = J.q) := hqq; have HFG : Hid (¬ footF P' g ∧ ¬ footJ J' g ∧ ¬ H g) := ⟨(hp4.1.av g (.inr rfl)).2.1, (hp4.1.av g (.inr rfl)).2.2, fun hh => by have := HLO.out g hh; have := HG2.out.1; have := HSZ.out; omega⟩; have HP4 : Hid (Exf w4 H P' J' X s' W s'.d) := hp4.1.less (fun b hb => .inl (.inl hb)) HZ0.out; have hcs4 := hoc w4 hbx4; have HOC5 : Hid (∀ u, Below w4.heap.size w4 u → _) := fun u hu => ofCells ((hu.block _ (sI hbx4).1).trans hbx4)
 clear hJ hJs hp4 hK4 hbx4 hc4 hg4 ok4 hoB hqq hcs3 hoc HPB HDB HHP HHD; go_wp2_with (go_at_call 11; refine Calls.mono (HST.out _ (bR _ _)) ?_; rintro e1 w6 ⟨rfl, hb6⟩; have HB6 : Hid _ := hb6; clear hb6)
 clear hcs4 HOC5 HST; go_loopw [10] (fun j wr => ∃ k : Nat, k ≤ y.bn ∧ j = .int .i64 (k : Int) ∧ Sty w6 wr ∧ Chg (fun b => b = g) w6 wr) (fun j _ => y.bn - (intOf j).toNat)
 case atStart => exact ⟨0, Nat.zero_le _, rfl, Sty.refl _, Chg.refl _ _⟩
 case round =>
  obtain ⟨k, hkn, rfl, hsty, hchg⟩ := hrel; have hkw : IntKind.i64.wrap ((k : Int) + 1) = ((k + 1 : Nat) : Int) := by rw [IntKind.wrap_i64]; omega
  by_cases hlt : k < y.bn
  · have hlti : (k : Int) < (y.bn : Int) := by omega
    have hk0 : (0 : Int) ≤ (k : Int) := by omega
    obtain ⟨g', e1, h2, h3⟩ := (HOB.out.belowW HB6.out).sty hsty k hlt; cases e1; obtain ⟨u, hu⟩ := Option.isSome_iff_exists.1 h2; have HS : Hid (Sty w6 (wr.setCell ⟨g, k, none⟩ (.int .u8 90))) := hsty.trans (Sty.set1 wr g k _ h2); have HC : Hid (Chg (fun b => b = g) w6 (wr.setCell ⟨g, k, none⟩ (.int .u8 90))) := hchg.trans (Chg.of_grown (F := fun b => b = g) (gset1 wr g k _) (fun b e => (Option.some.inj e).symm)) (fun b hb => .inl hb); clear h2 hsty hchg; go_wp2; go_roundw
    case rel => exact ⟨k + 1, by omega, by go_num, HS.out, HC.out⟩
    case measure => simp [intOf]; omega
  · have hlti : ¬ (k : Int) < (y.bn : Int) := by omega
    have HCE : Hid (Chg (fun b => b = g) w6 wr) := hchg; clear hsty hchg; go_wp2; go_ret; have h9 := (HP4.out.below HB6.out).chg0 HCE.out (fun b e => by rw [e]; exact HFG.out.1) (fun b e => by rw [e]; exact HFG.out.2.1) (fun b e => by rw [e]; exact HFG.out.2.2); exact ⟨rfl, P', J', s', W, ⟨h9, (HC4.out.trans (Chg.of_below HB6.out) (fun b hb => .inl hb)).trans (HCE.out.mono (fun b e => by rw [e]; exact HFG.out.2.2)) (fun b hb => .inl hb), HOK'.out, by have := HS'.out; omega, HPP.out, HQQ.out⟩⟩
end
open Go.RowKit Go.Maps
theorem infoRf2 : (Tryz.prog.info? 108).map (·.size) = some 2 := by kernel_rfl
theorem eql_do (u : World) (a b c : Int) : (binOp .eql tDo (.agg #[.int .i64 a, .int .u64 b, .int .i64 c]) (.agg #[.int .i64 a, .int .u64 b, .int .i64 c])).run Tryz.prog u = .ok (.bool true) u := by
 go_simp
theorem RdR.kept2 {w w' : World} {ao : Option Addr} {xs : List Rg} (h : RdR w ao xs) (hk : ∀ a, ao = some a → w'.heap[a.block]? = w.heap[a.block]?) : RdR w' ao xs := fun j hj => by
 obtain ⟨b, o, h1, h2, h3⟩ := h j hj; have hb := hk _ h1; exact ⟨b, o, h1, (World.cell?_of_block (a := ⟨b, o + j * 2, none⟩) hb).trans h2, (World.cell?_of_block (a := ⟨b, o + j * 2 + 1, none⟩) hb).trans h3⟩
section
variable {w w' : World} {H : Nat → Prop} {P P' : Fp} {J J' : Jp} {X : Value × Value} {s s' : Fs} {W W' : List Wh.Tm}
set_option maxRecDepth 20000
set_option maxHeartbeats 6400000
theorem fstep_hear (h : Exf w H P J X s W s.d) (hok : Fok s W) (hS : s.S + 64 < 18446744073709551615) (y : Of) (k1 : (y.kd == 1) = false) (k2 : (y.kd == 2) = false) (k3 : (y.kd == 3) = true) (ok : ∀ u, Chg (fun b => ¬ H b) w u → OfOk u y) :
 Calls Tryz.prog 21 #[.pointer (some ⟨P.p, 0, none⟩), .pointer (some ⟨J.q, 0, none⟩), .agg y.c] w fun e w' => e = .returned (.bool true) ∧ ∃ P' J' s' W', FOut w w' H P P' J J' X s s' W' := by
 obtain ⟨w1, hw1⟩ : ∃ w1, w1 = w.alloc (.cells y.c tOf) := ⟨_, rfl⟩; have h1 := h.box (.cells y.c tOf); rw [← hw1] at h1; have hbx1 : w1.heap[w.heap.size]? = some (.cells y.c tOf (0, 0)) := by rw [hw1]; exact heap_alloc_new w _
 have hoc := fun (u : World) (hu : u.heap[w.heap.size]? = some (.cells y.c tOf (0, 0))) => ofCells hu
 have hc1 : (w.alloc (.cells y.c tOf)).cell? ⟨w.heap.size, 0, none⟩ = some (.int .i64 y.kd) := by rw [← hw1]; exact (hoc w1 hbx1).1
 have HCW : Hid (Chg (fun b => ¬ H b) w w1) := by unfold Hid; rw [hw1]; exact Chg.of_below (alw (bR _ _) _)
 have HW1 : Hid (w1 = _) := hw1; have HH : Hid _ := h1; have HZ0 : Hid (H 0) := h.h0; have HBX : Hid _ := hbx1; have HAV : Hid (∀ u u', Chg (fun b => ¬ (H b ∨ b = w.heap.size)) u u' → w.heap.size < u.heap.size → u'.heap[w.heap.size]? = u.heap[w.heap.size]?) := fun u u' hc hl => hc.block _ hl (fun h9 => h9 (.inr rfl))
 have HLS : Hid (∀ u u', Chg (fun b => ¬ (H b ∨ b = w.heap.size)) u u' → Chg (fun b => ¬ H b) u u') := fun u u' hc => hc.mono (fun b hb hh => hb (.inl hh))
 have HLO : Hid (∀ b, H b → b < w.heap.size) := fun b hb => (h.av b hb).1
 have HSZ : Hid (w.heap.size < w1.heap.size) := (sI hbx1).1; have hou := fun (u : World) (hu : u.heap[w.heap.size]? = some (.cells y.c tOf (0, 0))) => ofUnit hu
 have hu1 := hou w1 hbx1; rw [hw1] at hu1; obtain ⟨DC, hDC⟩ : ∃ DC, DC = y.dn + 4 := ⟨_, rfl⟩; have ok1 := ok w1 HCW.out; obtain ⟨z, hz, hzl⟩ := ok1.es; have HGV : Hid _ := given2_t (w := w1) y.u.kind y.u.ep y.u.se y.u.path y.u.idx y.u.cnt y.da y.dn y.dc y.u.code y.ga y.gn y.gc y.u.data y.u.got DC ok1.hn ok1.hg hDC ok1.rd ok1.rg ok1.gz (by have h8 := ok1.gl; have h9 := ok1.gb; have h7 := ok1.hg; omega) (by have h8 := ok1.dl; have h9 := ok1.db; have h7 := ok1.hn; omega); obtain ⟨ra, rb, rd, rr, s', W', HP, HD, hok', hS'⟩ := hearF_pair h.a.inv hok y.u.kind y.u.ep z y.u.path y.u.idx y.u.cnt y.dn y.u.code y.gn y.u.got ok1.hg (by have h8 := ok1.gl; have h9 := ok1.gb; have h7 := ok1.hg; omega); rw [← hz] at HP HD; have HGNB : Hid (y.gn ≤ 8796093021952) := by have := ok1.gl; have := ok1.gb; have := ok1.hg; unfold Hid; omega
 have HGN0 : Hid (y.gn = y.u.got.length) := ok1.hg; have HHP : Hid _ := HP; have HHD : Hid _ := HD; have HOK' : Hid _ := hok'; have HS' : Hid (s'.S = s.S) := hS'; have HOK : Hid _ := ok; have HDC : Hid _ := hDC; have hed := eql_do; clear h h1 hw1 hbx1 ok ok1 hz hzl HP HD hok' hS' hDC hok hS; go_enter Tryz.func21, Tryz.ntmps21
 (go_wp2_with fail); rw [← HW1.out]; refine Calls.mono HGV.out ?_; rintro e9 w2 ⟨gd, gg, GC, rfl, ⟨hgd, hgg, hGC⟩, hrd2, hrg2, hb2, hgb2⟩; have HGB2 : Hid _ := hgb2
 have HGGW : Hid (w1.heap.size ≤ gg ∧ gg < w2.heap.size) := by
  obtain ⟨cur, h9⟩ := hgb2; exact ⟨hgg, (sI h9).1⟩
 have HRG2 : Hid (RdR w2 (some ⟨gg, 0, none⟩) (y.u.got ++ [(7, 7)])) := hrg2; have HGN : Hid (y.gn = y.u.got.length) := HGN0.out; have hbx2 := (hb2.block _ (sI HBX.out).1).trans HBX.out; obtain ⟨w3, hw3⟩ : ∃ w3, w3 = w2.alloc (.cells #[.int .i64 y.u.kind, .int .u64 y.u.ep, .int .u64 y.u.se, .int .i64 y.u.path, .int .i64 y.u.idx, .int .i64 y.u.cnt, .slice (some ⟨gd, 0, none⟩) y.dn DC, .int .i64 y.u.code, .slice (some ⟨gg, 0, none⟩) y.gn GC] 49) := ⟨_, rfl⟩; have hg3 : w3.heap[w2.heap.size]? = some (.cells #[.int .i64 y.u.kind, .int .u64 y.u.ep, .int .u64 y.u.se, .int .i64 y.u.path, .int .i64 y.u.idx, .int .i64 y.u.cnt, .slice (some ⟨gd, 0, none⟩) y.dn DC, .int .i64 y.u.code, .slice (some ⟨gg, 0, none⟩) y.gn GC] 49 (0, 0)) := by rw [hw3]; exact heap_alloc_new w2 _
 have hb3 : Below w2.heap.size w2 w3 := by rw [hw3]; exact alw (bR _ _) _
 have hbx3 := (hb3.block _ (sI hbx2).1).trans hbx2
 have hP3 : Exf w3 (fun b => (((H b ∨ b = w.heap.size) ∨ b = gd) ∨ b = gg) ∨ b = w2.heap.size) P J X s W s.d := by
  rw [hw3]; have h2 := HH.out.below hb2; have f1 := HH.out.fresh hgd; have f2 := HH.out.fresh hgg
  have l1 : gd < w2.heap.size := by
   obtain ⟨b, o, e1, e2⟩ := hrd2 (by simp [m4]); cases e1; exact World.block_lt_of_cell? w2 _ (e2 0 (by simp [m4]))
  have l2 : gg < w2.heap.size := by
   obtain ⟨b, o, e1, e2, -⟩ := hrg2 0 (by simp); cases e1; exact World.block_lt_of_cell? w2 _ e2
  exact ((h2.more l1 f1.1 f1.2).more l2 f2.1 f2.2).box _
 have hcg : (w2.alloc (.cells #[.int .i64 y.u.kind, .int .u64 y.u.ep, .int .u64 y.u.se, .int .i64 y.u.path, .int .i64 y.u.idx, .int .i64 y.u.cnt, .slice (some ⟨gd, 0, none⟩) y.dn DC, .int .i64 y.u.code, .slice (some ⟨gg, 0, none⟩) y.gn GC] 49)).heap[w2.heap.size]? = some (.cells #[.int .i64 y.u.kind, .int .u64 y.u.ep, .int .u64 y.u.se, .int .i64 y.u.path, .int .i64 y.u.idx, .int .i64 y.u.cnt, .slice (some ⟨gd, 0, none⟩) y.dn DC, .int .i64 y.u.code, .slice (some ⟨gg, 0, none⟩) y.gn GC] 49 (0, 0)) := heap_alloc_new w2 _; have HP3 : Hid _ := hP3; have HBX3 : Hid _ := hbx3; have HG3 : Hid _ := hg3; have HW3 : Hid (w3 = _) := hw3; have HRD : Hid (Rd w3 (some ⟨gd, 0, none⟩) (y.u.data ++ m4)) := Rd.below hrd2 hb3; have HRG : Hid (RdR w3 (some ⟨gg, 0, none⟩) (y.u.got ++ [(7, 7)])) := hrg2.below hb3; have HGC : Hid _ := hGC; have HC3 : Hid (Chg (fun b => ¬ H b) w w3) := (HCW.out.trans (Chg.of_below hb2) (fun b hb => .inl hb)).trans (Chg.of_below hb3) (fun b hb => .inl hb); have HPH : Hid _ := HHP.out w3 P hP3.a (some ⟨gd, 0, none⟩) DC (some ⟨gg, 0, none⟩) GC (hrg2.below hb3).left' (by omega) (fun h9 => by cases h9); have HKP : Hid (∀ u u', Chg (fun b => ¬ ((((H b ∨ b = w.heap.size) ∨ b = gd) ∨ b = gg) ∨ b = w2.heap.size)) u u' → ∀ b, ((((H b ∨ b = w.heap.size) ∨ b = gd) ∨ b = gg) ∨ b = w2.heap.size) → b < u.heap.size → u'.heap[b]? = u.heap[b]?) := fun u u' hc b hb hl => hc.block b hl (fun h9 => h9 hb)
 have HLT : Hid (∀ b, ((((H b ∨ b = w.heap.size) ∨ b = gd) ∨ b = gg) ∨ b = w2.heap.size) → b < w3.heap.size) := fun b hb => (hP3.av b hb).1
 have HLH : Hid (∀ u u', Chg (fun b => ¬ ((((H b ∨ b = w.heap.size) ∨ b = gd) ∨ b = gg) ∨ b = w2.heap.size)) u u' → Chg (fun b => ¬ H b) u u') := fun u u' hc => hc.mono (fun b hb hh => hb (.inl (.inl (.inl (.inl hh)))))
 clear hgb2 hgd hgg hGC hrd2 hrg2 hb2 hbx2 hw3 hg3 hb3 hbx3 hP3 hu1 hc1
 go_wp2_with (first
   | (refine wpList_load_g (by rfl) 49 _ rfl w2.heap.size 0 (by rfl) [.int .i64 y.u.kind, .int .u64 y.u.ep, .int .u64 y.u.se, .int .i64 y.u.path, .int .i64 y.u.idx, .int .i64 y.u.cnt, .slice (some ⟨gd, 0, none⟩) y.dn DC, .int .i64 y.u.code, .slice (some ⟨gg, 0, none⟩) y.gn GC] _ (box_range hcg) Tryz.underlying49 rfl info_un ?_))
 rw [← HW3.out]; clear hcg; refine Calls.mono HPH.out ?_; rintro e9 w4 ⟨rfl, P', hst, hstp, hpp⟩; have HPP : Hid (P'.p = P.p) := hpp; have hp4 := HP3.out.prog hst hstp; have hbx4 := (HKP.out _ _ hp4.2 w.heap.size (.inl (.inl (.inl (.inr rfl)))) (sI HBX3.out).1).trans HBX3.out; obtain ⟨w5, hw5⟩ : ∃ w5, w5 = w4.alloc (.cells #[.int .i64 ra, .int .u64 rb, .int .i64 rd] tDo) := ⟨_, rfl⟩; have hb5 : Below w4.heap.size w4 w5 := by rw [hw5]; exact alw (bR _ _) _
 have hbx5 := (hb5.block _ (sI hbx4).1).trans hbx4; have hP5 := hp4.1.box (.cells #[.int .i64 ra, .int .u64 rb, .int .i64 rd] tDo); rw [← hw5] at hP5; have hd5 : w5.heap[w4.heap.size]? = some (.cells #[.int .i64 ra, .int .u64 rb, .int .i64 rd] tDo (0, 0)) := by rw [hw5]; exact heap_alloc_new w4 _
 have hu5 := hou w5 hbx5; rw [hw5] at hu5; have hc5 : Chg (fun b => ¬ H b) w w5 := (HC3.out.trans (HLH.out _ _ hp4.2) (fun b hb => .inl hb)).trans (Chg.of_below hb5) (fun b hb => .inl hb); have HDH : Hid _ := HHD.out w5 J X hP5.b y.da y.dc y.ga y.gc (HOK.out w5 hc5).rg (HOK.out w5 hc5).gz; have HP5 : Hid _ := hP5; have HBX5 : Hid _ := hbx5; have HD5 : Hid _ := hd5; have HC5 : Hid _ := hc5; have HW5 : Hid (w5 = _) := hw5; have HK45 : Hid (∀ b, ((((H b ∨ b = w.heap.size) ∨ b = gd) ∨ b = gg) ∨ b = w2.heap.size) → w5.heap[b]? = w3.heap[b]?) := fun b hb => (hb5.block b (Nat.lt_of_lt_of_le (HLT.out b hb) hp4.2.size)).trans (HKP.out _ _ hp4.2 b hb (HLT.out b hb))
 clear hpp hst hstp hp4 hbx4 hw5 hb5 hbx5 hP5 hd5 hc5; (go_wp2_with fail); rw [← HW5.out]; refine Calls.mono HDH.out ?_; rintro e9 w6 ⟨rfl, J', hR, hRs, hqq⟩; have HQQ : Hid (J'.q = J.q) := hqq; have hp6 := HP5.out.doc hR hRs; have hK6 : ∀ b, (((((H b ∨ b = w.heap.size) ∨ b = gd) ∨ b = gg) ∨ b = w2.heap.size) ∨ b = w4.heap.size) → w6.heap[b]? = w5.heap[b]? := fun b hb => hp6.2.block b (HP5.out.av b hb).1 (fun h9 => h9 hb)
 obtain ⟨w7, hw7⟩ : ∃ w7, w7 = w6.alloc (.cells #[.int .i64 ra, .int .u64 rb, .int .i64 rd] tDo) := ⟨_, rfl⟩; have hb7 : Below w6.heap.size w6 w7 := by rw [hw7]; exact alw (bR _ _) _
 have hK7 : ∀ b, (((((H b ∨ b = w.heap.size) ∨ b = gd) ∨ b = gg) ∨ b = w2.heap.size) ∨ b = w4.heap.size) → w7.heap[b]? = w5.heap[b]? := fun b hb => (hb7.block b (Nat.lt_of_lt_of_le (HP5.out.av b hb).1 hp6.2.size)).trans (hK6 b hb)
 have hK73 : ∀ b, ((((H b ∨ b = w.heap.size) ∨ b = gd) ∨ b = gg) ∨ b = w2.heap.size) → w7.heap[b]? = w3.heap[b]? := fun b hb => (hK7 b (.inl hb)).trans (HK45.out b hb)
 have hbx7 := (hK7 w.heap.size (.inl (.inl (.inl (.inl (.inr rfl)))))).trans HBX5.out; have hd7 := (hK7 w4.heap.size (.inr rfl)).trans HD5.out; have hg7 := (hK73 w2.heap.size (.inr rfl)).trans HG3.out; have hf7 : w7.heap[w6.heap.size]? = some (.cells #[.int .i64 ra, .int .u64 rb, .int .i64 rd] tDo (0, 0)) := by rw [hw7]; exact heap_alloc_new w6 _
 have hc7 : Chg (fun b => ¬ H b) w w7 := (HC5.out.trans (hp6.2.mono (fun b hb hh => hb (.inl (.inl (.inl (.inl (.inl hh))))))) (fun b hb => .inl hb)).trans (Chg.of_below hb7) (fun b hb => .inl hb); have ok7 := HOK.out w7 hc7; have HKT : Hid _ := kept_t (w := w7) y.u.kind y.u.ep y.u.se y.u.path y.u.idx y.u.cnt gd y.dn y.u.code gg y.gn DC GC y.da y.dc y.ga y.gc y.u.data y.u.got ok7.hn ok7.hg HDC.out HGC.out (HRD.out.kept (fun ad e => by cases e; exact hK73 gd (.inl (.inl (.inr rfl))))) ok7.rd (RdR.kept2 HRG.out (fun ad e => by cases e; exact hK73 gg (.inl (.inr rfl)))) ok7.rg (by have h8 := ok7.gl; have h9 := ok7.gb; have h7 := ok7.hg; omega) (by have h8 := ok7.dl; have h9 := ok7.db; have h7 := ok7.hn; omega); have a0 : w7.cell? ⟨w4.heap.size, 0, none⟩ = some (.int .i64 ra) := by rw [cR hd7]; rfl
 have a1 : w7.cell? ⟨w4.heap.size, 1, none⟩ = some (.int .u64 rb) := by rw [cR hd7]; rfl
 have a2 : w7.cell? ⟨w4.heap.size, 2, none⟩ = some (.int .i64 rd) := by rw [cR hd7]; rfl
 have c0 : w7.cell? ⟨w6.heap.size, 0, none⟩ = some (.int .i64 ra) := by rw [cR hf7]; rfl
 have c1 : w7.cell? ⟨w6.heap.size, 1, none⟩ = some (.int .u64 rb) := by rw [cR hf7]; rfl
 have c2 : w7.cell? ⟨w6.heap.size, 2, none⟩ = some (.int .i64 rd) := by rw [cR hf7]; rfl
 have hu7 := hou w7 hbx7; have HG7 : Hid _ := hg7; have HGG7 : Hid (w7.heap[gg]? = w2.heap[gg]?) := (hK73 gg (.inl (.inr rfl))).trans (by rw [HW3.out]; exact heap_alloc_old _ _ HGGW.out.2); rw [hw7] at a0 a1 a2 c0 c1 c2 hu7 hg7; have HP7 : Hid _ := hp6.1.below hb7; have HC7 : Hid _ := hc7; have HW7 : Hid (w7 = _) := hw7; clear hqq hR hRs hp6 hK6 hw7 hb7 hK7 hK73 hbx7 hd7 hf7 hc7 ok7 hu5 hou hoc
 go_wp2_with (first
   | (refine wpList_load_g (by rfl) 49 _ rfl w2.heap.size 0 (by rfl) [.int .i64 y.u.kind, .int .u64 y.u.ep, .int .u64 y.u.se, .int .i64 y.u.path, .int .i64 y.u.idx, .int .i64 y.u.cnt, .slice (some ⟨gd, 0, none⟩) y.dn DC, .int .i64 y.u.code, .slice (some ⟨gg, 0, none⟩) y.gn GC] _ (box_range hg7) Tryz.underlying49 rfl info_un ?_))
 rw [← HW7.out]; refine Calls.mono HKT.out ?_; rintro e9 w8 ⟨rfl, hb8⟩; have HB8 : Hid _ := hb8; clear hb8 a0 a1 a2 c0 c1 c2 hu7 hg7; obtain ⟨w9, hw9⟩ : ∃ w9, w9 = w8 := ⟨_, rfl⟩
 have hex : ∀ j, j < y.gn * 2 → (w8.cell? ⟨gg, j, none⟩).isSome = true ∧ w8.frozen? ⟨gg, j, none⟩ = false := fun j hj => by
  obtain ⟨cur, hc⟩ := HGB2.out; have h7 := HGG7.out.trans hc; have h8 := (HB8.out.block gg (sI h7).1).trans h7
  have hsz : j < cur.size := by
   have hj2 : j / 2 < (y.u.got ++ [(7, 7)]).length := by rw [List.length_append, ← HGN.out]; simp; omega
   obtain ⟨b, o, e1, e2, e3⟩ := HRG2.out (j / 2) hj2; cases e1; rcases Nat.mod_two_eq_zero_or_one j with hm | hm
   · have ej : 0 + j / 2 * 2 = j := by omega
     rw [ej, cR hc] at e2; exact (sI e2).1
   · have ej : 0 + j / 2 * 2 + 1 = j := by omega
     rw [ej, cR hc] at e3; exact (sI e3).1
  refine ⟨?_, by simp [World.frozen?, h8]⟩; rw [cR h8, Array.getElem?_eq_getElem hsz]
  rfl
 have HEX : Hid _ := hex; have hb8x := (HB8.out.block _ (sI HG7.out).1).trans HG7.out; have HBX8 : Hid _ := hb8x; have HNE : Hid (w2.heap.size ≠ gg) := by have := HGGW.out.2; unfold Hid; omega
 have hgn : y.gn ≤ 8796093021952 := HGNB.out; have HFG : Hid (¬ footF P' gg ∧ ¬ footJ J' gg ∧ ¬ H gg) := ⟨(HP7.out.av gg (.inl (.inl (.inr rfl)))).2.1, (HP7.out.av gg (.inl (.inl (.inr rfl)))).2.2, fun hh => by have := HLO.out gg hh; have := HGGW.out.1; have := HSZ.out; omega⟩; clear hex hb8x hw9; cases rr
 all_goals
  go_wp2; go_loopw [21] (fun j wr => ∃ k : Nat, k ≤ y.gn ∧ j = .int .i64 (k : Int) ∧ Sty w8 wr ∧ Chg (fun b => b = gg) w8 wr) (fun j _ => y.gn - (intOf j).toNat)
  case atStart => exact ⟨0, Nat.zero_le _, rfl, Sty.refl _, Chg.refl _ _⟩
  case round =>
   obtain ⟨k, hkn, rfl, hsty, hchg⟩ := hrel; have hkw : IntKind.i64.wrap ((k : Int) + 1) = ((k + 1 : Nat) : Int) := by rw [IntKind.wrap_i64]; omega
   have hbr := (hchg.block _ (sI HBX8.out).1 (fun e => HNE.out e)).trans HBX8.out; have hb8c : wr.cell? ⟨w2.heap.size, 8, none⟩ = some (.slice (some ⟨gg, 0, none⟩) y.gn GC) := by rw [cR hbr]; rfl
   clear hbr
   by_cases hlt : k < y.gn
   · have hlti : (k : Int) < (y.gn : Int) := by omega
     have hk0 : (0 : Int) ≤ (k : Int) := by omega
     have HTH : Hid (wr.there gg (k * 2) 2) := fun i hi => ⟨hsty.some _ (HEX.out (k * 2 + i) (by omega)).1, (hsty.frz _).trans (HEX.out (k * 2 + i) (by omega)).2⟩
     have HSN : Hid (Sty w8 (wr.setCells gg (k * 2) [.int .i64 0, .int .i64 64])) := hsty.trans (Sty.setN gg [.int .i64 0, .int .i64 64] (k * 2) wr (fun j hj => hsty.some _ (HEX.out (k * 2 + j) (by simp at hj; omega)).1)); have HCN : Hid (Chg (fun b => b = gg) w8 (wr.setCells gg (k * 2) [.int .i64 0, .int .i64 64])) := hchg.trans (Chg.of_grown (F := fun b => b = gg) (setCellsG gg [.int .i64 0, .int .i64 64] (k * 2) wr) (fun b e => (Option.some.inj e).symm)) (fun b hb => .inl hb); clear hsty hchg; go_wp2_with (refine wpList_store_mid rfl 108 _ _ rfl gg (k * 2) #[.int .i64 0, .int .i64 64] rfl rfl HTH.out infoRf2 (by simp [Value.oneCell']) ?_)
     go_roundw
     case rel => exact ⟨k + 1, by omega, by go_num, HSN.out, HCN.out⟩
     case measure => simp [intOf]; omega
   · have hlti : ¬ (k : Int) < (y.gn : Int) := by omega
     have HCE : Hid (Chg (fun b => b = gg) w8 wr) := hchg; clear hsty hchg; go_wp2; go_ret; have h9 := ((HP7.out.below HB8.out).less (H' := H) (fun b hb => .inl (.inl (.inl (.inl (.inl hb))))) HZ0.out).chg0 HCE.out (fun b e => by rw [e]; exact HFG.out.1) (fun b e => by rw [e]; exact HFG.out.2.1) (fun b e => by rw [e]; exact HFG.out.2.2); exact ⟨rfl, P', J', s', W', ⟨h9, (HC7.out.trans (Chg.of_below HB8.out) (fun b hb => .inl hb)).trans (HCE.out.mono (fun b e => by rw [e]; exact HFG.out.2.2)) (fun b hb => .inl hb), HOK'.out, by have := HS'.out; omega, HPP.out, HQQ.out⟩⟩
end
end Go.Proofs.YtpakkpahcpgnnaaGreatDoor
