import Derived.Test.YtpakkpahcpgnnaaGreatDoorKF
import Derived.Test.YtpakkpahcpgnnaaGreatDoorKD
set_option linter.unusedVariables false
set_option linter.unusedSimpArgs false
namespace Go.Proofs.YtpakkpahcpgnnaaGreatDoor
open Go.RowKit Go.Maps
structure Of where
 kd : Int
 k : Fk
 xs : List UInt8
 ba : Option Addr
 bn : Nat
 bc : Nat
 n : Nat
 now : Nat
 u : Un
 da : Option Addr
 dn : Nat
 dc : Nat
 ga : Option Addr
 gn : Nat
 gc : Nat
abbrev tOf : TypeId := 69
abbrev Of.c (y : Of) : Array Value := #[.int .i64 y.kd, .int .i64 y.k.1, .int .u64 (y.k.2 : Int), .slice y.ba y.bn y.bc, .int .u64 (y.n : Int), .int .u64 (y.now : Int), .int .i64 y.u.kind, .int .u64 y.u.ep, .int .u64 y.u.se, .int .i64 y.u.path, .int .i64 y.u.idx, .int .i64 y.u.cnt, .slice y.da y.dn y.dc, .int .i64 y.u.code, .slice y.ga y.gn y.gc]
structure OfOk (w : World) (y : Of) : Prop where
 kf : inF y.k
 nn : y.n < 18446744073709551616
 bn : y.bn = y.xs.length
 br : Rd w y.ba y.xs
 bl : y.bn ≤ y.bc
 bz : y.ba = none → y.bc = 0
 bb : y.bc ≤ 140737488351232
 hn : y.dn = y.u.data.length
 hg : y.gn = y.u.got.length
 rd : Rd w y.da y.u.data
 dl : y.u.data.length ≤ y.dc
 dz : y.da = none → y.dc = 0
 db : y.dc ≤ 140737488351232
 rg : RdR w y.ga y.u.got
 gl : y.u.got.length ≤ y.gc
 gz : y.ga = none → y.gc = 0
 gb : y.gc ≤ 8796093021952
 ee : ∃ n : Nat, y.u.ep = (n : Int) ∧ n < 18446744073709551616
 es : ∃ n : Nat, y.u.se = (n : Int) ∧ n < 18446744073709551616
theorem OfOk.below {w w' : World} {x : Of} (h : OfOk w x) (hb : Below w.heap.size w w') : OfOk w' x := ⟨h.kf, h.nn, h.bn, Rd.below h.br hb, h.bl, h.bz, h.bb, h.hn, h.hg, Rd.below h.rd hb, h.dl, h.dz, h.db, h.rg.below hb, h.gl, h.gz, h.gb, h.ee, h.es⟩
theorem ofCells {u : World} {B : Nat} {y : Of} (h : u.heap[B]? = some (.cells y.c tOf (0, 0))) : u.cell? ⟨B, 0, none⟩ = some (.int .i64 y.kd) ∧ u.cell? ⟨B, 1, none⟩ = some (.int .i64 y.k.1) ∧ u.cell? ⟨B, 2, none⟩ = some (.int .u64 (y.k.2 : Int)) ∧ u.cell? ⟨B, 3, none⟩ = some (.slice y.ba y.bn y.bc) ∧ u.cell? ⟨B, 4, none⟩ = some (.int .u64 (y.n : Int)) ∧ u.cell? ⟨B, 5, none⟩ = some (.int .u64 (y.now : Int)) := by
 refine ⟨?_, ?_, ?_, ?_, ?_, ?_⟩
 all_goals (rw [cR h]; rfl)
theorem ofUnit {u : World} {B : Nat} {y : Of} (h : u.heap[B]? = some (.cells y.c tOf (0, 0))) : u.cell? ⟨B, 6, none⟩ = some (.int .i64 y.u.kind) ∧ u.cell? ⟨B, 7, none⟩ = some (.int .u64 y.u.ep) ∧ u.cell? ⟨B, 8, none⟩ = some (.int .u64 y.u.se) ∧ u.cell? ⟨B, 9, none⟩ = some (.int .i64 y.u.path) ∧ u.cell? ⟨B, 10, none⟩ = some (.int .i64 y.u.idx) ∧ u.cell? ⟨B, 11, none⟩ = some (.int .i64 y.u.cnt) ∧ u.cell? ⟨B, 12, none⟩ = some (.slice y.da y.dn y.dc) ∧ u.cell? ⟨B, 13, none⟩ = some (.int .i64 y.u.code) ∧ u.cell? ⟨B, 14, none⟩ = some (.slice y.ga y.gn y.gc) := by
 refine ⟨?_, ?_, ?_, ?_, ?_, ?_, ?_, ?_, ?_⟩
 all_goals (rw [cR h]; rfl)
open Go.RowKit Go.Maps
section
variable {w w' : World} {H : Nat → Prop} {P P' : Fp} {J J' : Jp} {X : Value × Value} {s s' : Fs} {W W' : List Wh.Tm}
set_option maxRecDepth 20000
set_option maxHeartbeats 6400000
theorem fstep_stop (h : Exf w H P J X s W s.d) (hok : Fok s W) (hS : s.S + 64 < 18446744073709551615) (y : Of) (k1 : (y.kd == 1) = false) (k2 : (y.kd == 2) = false) (k3 : (y.kd == 3) = false) (k4 : (y.kd == 4) = false) (k5 : (y.kd == 5) = true) (ok : ∀ u, Chg (fun b => ¬ H b) w u → OfOk u y) :
 Calls Tryz.prog 21 #[.pointer (some ⟨P.p, 0, none⟩), .pointer (some ⟨J.q, 0, none⟩), .agg y.c] w fun e w' => e = .returned (.bool true) ∧ ∃ P' J' s' W', FOut w w' H P P' J J' X s s' W' := by
 obtain ⟨w1, hw1⟩ : ∃ w1, w1 = w.alloc (.cells y.c tOf) := ⟨_, rfl⟩; have h1 := h.box (.cells y.c tOf); rw [← hw1] at h1; have hbx1 : w1.heap[w.heap.size]? = some (.cells y.c tOf (0, 0)) := by rw [hw1]; exact heap_alloc_new w _
 have hoc := fun (u : World) (hu : u.heap[w.heap.size]? = some (.cells y.c tOf (0, 0))) => ofCells hu
 have hc1 : (w.alloc (.cells y.c tOf)).cell? ⟨w.heap.size, 0, none⟩ = some (.int .i64 y.kd) := by rw [← hw1]; exact (hoc w1 hbx1).1
 have HCW : Hid (Chg (fun b => ¬ H b) w w1) := by unfold Hid; rw [hw1]; exact Chg.of_below (alw (bR _ _) _)
 have HW1 : Hid (w1 = _) := hw1; have HH : Hid _ := h1; have HZ0 : Hid (H 0) := h.h0; have HBX : Hid _ := hbx1; have HAV : Hid (∀ u u', Chg (fun b => ¬ (H b ∨ b = w.heap.size)) u u' → w.heap.size < u.heap.size → u'.heap[w.heap.size]? = u.heap[w.heap.size]?) := fun u u' hc hl => hc.block _ hl (fun h9 => h9 (.inr rfl))
 have HLS : Hid (∀ u u', Chg (fun b => ¬ (H b ∨ b = w.heap.size)) u u' → Chg (fun b => ¬ H b) u u') := fun u u' hc => hc.mono (fun b hb hh => hb (.inl hh))
 have HLO : Hid (∀ b, H b → b < w.heap.size) := fun b hb => (h.av b hb).1
 have HSZ : Hid (w.heap.size < w1.heap.size) := (sI hbx1).1; have hcs := hoc w1 hbx1; rw [hw1] at hcs; obtain ⟨ra, rb, s', W', HP, HD, hok', hS'⟩ := stop_pair h.a.inv hok y.k; have HPS : Hid _ := HP w1 P h1.a; have HHD : Hid _ := HD; have HOK' : Hid _ := hok'; have HS' : Hid (s'.S = s.S) := hS'; clear h h1 hw1 hbx1 hok hS ok HP HD hok' hS'; go_enter Tryz.func21, Tryz.ntmps21
 (go_wp2_with fail); rw [← HW1.out]; refine Calls.mono HPS.out ?_; rintro e9 w2 ⟨rfl, P', hst, hstp, hpp⟩; have hp2 := HH.out.prog hst hstp; have hbx2 := (HAV.out _ _ hp2.2 (sI HBX.out).1).trans HBX.out; have hc2 := hoc w2 hbx2; have HP2 : Hid _ := hp2.1; have HC2 : Hid (Chg (fun b => ¬ H b) w w2) := HCW.out.trans (HLS.out _ _ hp2.2) (fun b hb => .inl hb); have HR : Hid _ := HHD.out w2 J X hp2.1.b; have HPP : Hid (P'.p = P.p) := hpp; clear hst hstp hp2 hbx2 hcs hc1 hoc hpp; (go_wp2_with fail); refine Calls.mono HR.out ?_; rintro e9 w3 ⟨rfl, J', hR, hRs, hqq⟩; have hp3 := HP2.out.doc hR hRs; have HP3 : Hid _ := hp3.1; have HC3 : Hid (Chg (fun b => ¬ H b) w w3) := HC2.out.trans (HLS.out _ _ hp3.2) (fun b hb => .inl hb); have HQQ : Hid (J'.q = J.q) := hqq; clear hR hRs hp3 hc2 hqq; cases rb
 all_goals
  go_wp2; go_ret; exact ⟨rfl, P', J', s', W', ⟨HP3.out.less (fun b hb => .inl hb) HZ0.out, HC3.out, HOK'.out, by have := HS'.out; omega, HPP.out, HQQ.out⟩⟩
theorem fstep_no (h : Exf w H P J X s W s.d) (hok : Fok s W) (hS : s.S + 64 < 18446744073709551615) (y : Of) (k1 : (y.kd == 1) = false) (k2 : (y.kd == 2) = false) (k3 : (y.kd == 3) = false) (k4 : (y.kd == 4) = false) (k5 : (y.kd == 5) = false) (ok : ∀ u, Chg (fun b => ¬ H b) w u → OfOk u y) :
 Calls Tryz.prog 21 #[.pointer (some ⟨P.p, 0, none⟩), .pointer (some ⟨J.q, 0, none⟩), .agg y.c] w fun e w' => e = .returned (.bool true) ∧ ∃ P' J' s' W', FOut w w' H P P' J J' X s s' W' := by
 obtain ⟨w1, hw1⟩ : ∃ w1, w1 = w.alloc (.cells y.c tOf) := ⟨_, rfl⟩; have h1 := h.box (.cells y.c tOf); rw [← hw1] at h1; have hbx1 : w1.heap[w.heap.size]? = some (.cells y.c tOf (0, 0)) := by rw [hw1]; exact heap_alloc_new w _
 have hoc := fun (u : World) (hu : u.heap[w.heap.size]? = some (.cells y.c tOf (0, 0))) => ofCells hu
 have hc1 : (w.alloc (.cells y.c tOf)).cell? ⟨w.heap.size, 0, none⟩ = some (.int .i64 y.kd) := by rw [← hw1]; exact (hoc w1 hbx1).1
 have HCW : Hid (Chg (fun b => ¬ H b) w w1) := by unfold Hid; rw [hw1]; exact Chg.of_below (alw (bR _ _) _)
 have HW1 : Hid (w1 = _) := hw1; have HH : Hid _ := h1; have HZ0 : Hid (H 0) := h.h0; have HBX : Hid _ := hbx1; have HAV : Hid (∀ u u', Chg (fun b => ¬ (H b ∨ b = w.heap.size)) u u' → w.heap.size < u.heap.size → u'.heap[w.heap.size]? = u.heap[w.heap.size]?) := fun u u' hc hl => hc.block _ hl (fun h9 => h9 (.inr rfl))
 have HLS : Hid (∀ u u', Chg (fun b => ¬ (H b ∨ b = w.heap.size)) u u' → Chg (fun b => ¬ H b) u u') := fun u u' hc => hc.mono (fun b hb hh => hb (.inl hh))
 have HLO : Hid (∀ b, H b → b < w.heap.size) := fun b hb => (h.av b hb).1
 have HSZ : Hid (w.heap.size < w1.heap.size) := (sI hbx1).1; have hcs := hoc w1 hbx1; rw [hw1] at hcs; have HOK' : Hid _ := hok; clear h h1 hw1 hbx1 hok hS ok; go_enter Tryz.func21, Tryz.ntmps21
 go_wp2; rw [← HW1.out]; go_ret; exact ⟨rfl, P, J, s, W, ⟨HH.out.less (fun b hb => .inl hb) HZ0.out, HCW.out, HOK'.out, by omega, rfl, rfl⟩⟩
end
end Go.Proofs.YtpakkpahcpgnnaaGreatDoor
