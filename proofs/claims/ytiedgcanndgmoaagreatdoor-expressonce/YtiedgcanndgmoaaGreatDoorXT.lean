import Derived.Test.YtiedgcanndgmoaaGreatDoorXL
import Derived.Test.YtiedgcanndgmoaaGreatDoorCH
namespace Go.Proofs.YtiedgcanndgmoaaGreatDoor
set_option linter.unusedVariables false
set_option linter.unusedSimpArgs false
open Go.RowKit Go.Maps
/-- a unit of data, by the express path -/
structure Bu where
  ep : Nat
  n : Nat
  i : Nat
  c : Nat
  d : Dc
abbrev tUni : TypeId := 41
abbrev buv (u : Bu) : List Value := [.int .i64 1, .int .u64 (u.ep : Int), .int .u64 (u.n : Int), .int .i64 1, .int .i64 (u.i : Int), .int .i64 (u.c : Int), u.d.v, .int .i64 0, .slice none 0 0]
abbrev KBu : Kd Bu := { t := tUni, ts := 44, k := 9, by_ := 104, f := buv, z := .agg #[.int .i64 0, .int .u64 0, .int .u64 0, .int .i64 0, .int .i64 0, .int .i64 0, .slice none 0 0, .int .i64 0, .slice none 0 0], hk := fun _ => rfl, h1 := (fun d u hu => by simp at hu; rcases hu with rfl | rfl | rfl | rfl | rfl | rfl | rfl | rfl | rfl <;> rfl), hpos := by decide, ht := Tryz.underlying44, hi := by kernel_rfl, hz := rfl }
theorem infoU9 : (Tryz.prog.info? tUni).map (·.size) = some 9 := by kernel_rfl
theorem buv_one (u : Bu) : (buv u).toArray.all (·.oneCell') = true := by simp [buv, Value.oneCell']
theorem rdU_new (w : World) (u : Bu) (n : Nat) (hn : n = w.heap.size) : RdG KBu (w.alloc (.cells (buv u).toArray tUni)) (some ⟨n, 0, none⟩) [u] := by
  subst hn
  have h9 := heap_alloc_new w (.cells (buv u).toArray tUni)
  intro j hj
  have hj0 : j = 0 := by simp at hj; omega
  subst hj0
  refine ⟨_, _, rfl, fun q v hq => ?_, _, _, h9⟩
  rw [cell_of_row _ _ _ _ _ _ h9]
  simpa using hq
section
variable {w w' : World} {p ms mn pw mw : Nat} {V : Nat → Nat → Value} {s : Xs}
set_option maxRecDepth 20000 in
set_option maxHeartbeats 1600000 in
theorem uclo_t (b1 b2 b3 g c k m ep nm : Nat) (d : Dc) (h1 : w.cell? ⟨b1, 0, none⟩ = some (.pointer (some ⟨p, 0, none⟩))) (h2 : w.cell? ⟨b2, 0, none⟩ = some (.int .u64 (nm : Int))) (h3 : w.cell? ⟨b3, 0, none⟩ = some (.slice (some ⟨g, 0, none⟩) m c)) (h4 : w.cell? ⟨p, 2, none⟩ = some (.int .u64 (ep : Int))) (hk : k < m) (h5 : w.cell? ⟨g, k, none⟩ = some d.v) :
    Calls Tryz.prog 50 #[.int .i64 (k : Int), .pointer (some ⟨b1, 0, none⟩), .pointer (some ⟨b2, 0, none⟩), .pointer (some ⟨b3, 0, none⟩)] w fun e w' => e = .returned (.agg (buv ⟨ep, nm, k, m, d⟩).toArray) ∧ Below w.heap.size w w' := by
  obtain ⟨w1, hw1⟩ : ∃ w1, w1 = w.alloc (.cells #[.int .i64 0, .int .u64 0, .int .u64 0, .int .i64 0, .int .i64 0, .int .i64 0, .slice none 0 0, .int .i64 0, .slice none 0 0] tUni) := ⟨_, rfl⟩
  have hb1 : Below w.heap.size w w1 := by rw [hw1]; exact alw (Below.refl _ _) _
  have hbox : w1.heap[w.heap.size]? = some (.cells #[.int .i64 0, .int .u64 0, .int .u64 0, .int .i64 0, .int .i64 0, .int .i64 0, .slice none 0 0, .int .i64 0, .slice none 0 0] tUni (0, 0)) := by rw [hw1]; exact heap_alloc_new w _
  have hS : ∀ u, Below w.heap.size w u → u.cell? ⟨b1, 0, none⟩ = some (.pointer (some ⟨p, 0, none⟩)) ∧ u.cell? ⟨b2, 0, none⟩ = some (.int .u64 (nm : Int)) ∧ u.cell? ⟨b3, 0, none⟩ = some (.slice (some ⟨g, 0, none⟩) m c) ∧ u.cell? ⟨p, 2, none⟩ = some (.int .u64 (ep : Int)) ∧ u.cell? ⟨g, k, none⟩ = some (.slice d.a d.n d.c) := fun u hb =>
    ⟨(hb.cell (World.block_lt_of_cell? w _ h1)).trans h1, (hb.cell (World.block_lt_of_cell? w _ h2)).trans h2, (hb.cell (World.block_lt_of_cell? w _ h3)).trans h3, (hb.cell (World.block_lt_of_cell? w _ h4)).trans h4, (hb.cell (World.block_lt_of_cell? w _ h5)).trans h5⟩
  have hki : (k : Int) < (m : Int) := by omega
  have hk0 : (0 : Int) ≤ (k : Int) := by omega
  have HB1 : Hid _ := hb1
  have HBOX : Hid _ := hbox
  have HW1 : Hid (w1 = _) := hw1
  clear h1 h2 h3 h4 h5 hw1 hb1 hbox hk
  go_enter Tryz.func50, Tryz.ntmps50
  go_wp2
  rw [← HW1.out]
  have HBD : Hid (w1.drew.heap[w.heap.size]? = _) := HBOX.out
  refine wp_region_noPanic ?_
  refine wp_region_held_drew (S := (fun u => Below w.heap.size w u)) (by kernel_rfl) (by first | exact HB1.out.drew | assumption | exact HBF.out) (fun hHeld => ?_)
  refine tz (i := 0) 6 rfl rfl hHeld ?_
  simp only [pS]
  refine tz (i := 1) 7 rfl rfl hHeld ?_
  simp only [pS]
  refine tz (i := 2) 8 rfl rfl hHeld ?_
  simp only [pS]
  refine tz (i := 3) 9 rfl rfl hHeld ?_
  simp only [pS]
  refine tz (i := 4) 10 rfl rfl hHeld ?_
  simp only [pS]
  refine tz (i := 5) 11 rfl rfl hHeld ?_
  simp only [pS]
  refine tz (i := 6) 12 rfl rfl hHeld ?_
  simp only [pS]
  refine tz (i := 7) 13 rfl rfl hHeld ?_
  simp only [pS]
  refine tz (i := 8) 14 rfl rfl hHeld ?_
  simp only [pS]
  refine tz (i := 9) 15 rfl rfl hHeld ?_
  simp only [pS]
  refine tz (i := 10) 16 rfl rfl hHeld ?_
  simp only [pS]
  refine tz (i := 11) 17 rfl rfl hHeld ?_
  simp only [pS]
  refine tz (i := 12) 18 rfl rfl hHeld ?_
  simp only [pS]
  refine run_at (i := 13) rfl (by kernel_rfl) (by rfl) (fun K hK => ?_)
  simp only [List.getElem_toArray, List.getElem_cons_zero, List.getElem_cons_succ]
  (refine wp_store_row tUni _ _ rfl w.heap.size (buv ⟨ep, nm, k, m, d⟩).toArray (by rfl) (by rfl) tUni _ HBD.out infoU9 rfl (buv_one _) ?_; have HBF : Hid _ := below_setRow HB1.out.drew (Nat.le_refl _) (buv ⟨ep, nm, k, m, d⟩).toArray; have HHF : Hid _ := setRow_heap w1.drew w.heap.size _ (buv ⟨ep, nm, k, m, d⟩).toArray tUni _ HBD.out)
  refine hK.out _ _ (by first | exact HB1.out.drew | assumption | exact HBF.out) ?_
  clear hK K
  intro hHeld2
  clear hHeld
  have hHeld := hHeld2
  clear hHeld2
  try simp only [pS]
  refine wpAnyH_done (by kernel_rfl) ?_ _
  refine NoPanic.normal ?_
  go_wp2
  refine bodyPost_ret (v := .agg (buv ⟨ep, nm, k, m, d⟩).toArray) (results_cell_row rfl _ _ w.heap.size tUni _ (0, 0) _ rfl HHF.out Tryz.underlying41 rfl (by kernel_rfl)) rfl ?_
  exact ⟨rfl, HBF.out⟩
end
end Go.Proofs.YtiedgcanndgmoaaGreatDoor
namespace Go.Proofs.YtiedgcanndgmoaaGreatDoor
set_option linter.unusedVariables false
set_option linter.unusedSimpArgs false
open Go.RowKit Go.Maps
/-- the units of a session -/
def uns (ep nm m : Nat) (E : List Dc) : List Bu := E.mapIdx (fun i d => ⟨ep, nm, i, m, d⟩)
theorem uns_len (ep nm m : Nat) (E : List Dc) : (uns ep nm m E).length = E.length := by simp [uns]
theorem uns_get (ep nm m : Nat) (E : List Dc) (k : Nat) (h : k < E.length) : (uns ep nm m E)[k]'(by rw [uns_len]; exact h) = ⟨ep, nm, k, m, E[k]⟩ := by simp [uns]
section
variable {w w' : World} {p : Nat}
set_option maxRecDepth 20000 in
set_option maxHeartbeats 1600000 in
theorem units_t (ep nm g m c B : Nat) (E : List Dc) (hm : m = E.length) (hm64 : m ≤ 64) (h4 : w.cell? ⟨p, 2, none⟩ = some (.int .u64 (ep : Int))) (hE : OwnG KL w B (.slice (some ⟨g, 0, none⟩) m c) E) :
    Calls Tryz.prog 32 #[.pointer (some ⟨p, 0, none⟩), .int .u64 (nm : Int), .slice (some ⟨g, 0, none⟩) m c] w fun e w' => ∃ v, e = .returned v ∧ OwnG KBu w' w.heap.size v (uns ep nm m E) ∧ Below w.heap.size w w' := by
  obtain ⟨wa, hwa⟩ : ∃ wa, wa = w.alloc (.cells #[.pointer (some ⟨p, 0, none⟩)] 27) := ⟨_, rfl⟩
  obtain ⟨wb, hwb⟩ : ∃ wb, wb = wa.alloc (.cells #[.int .u64 (nm : Int)] 22) := ⟨_, rfl⟩
  obtain ⟨w1, hw1⟩ : ∃ w1, w1 = wb.alloc (.cells #[.slice (some ⟨g, 0, none⟩) m c] 81) := ⟨_, rfl⟩
  have za : wa.heap.size = w.heap.size + 1 := by rw [hwa]; simp
  have zb : wb.heap.size = w.heap.size + 2 := by rw [hwb]; simp [za]
  have z1 : w1.heap.size = w.heap.size + 3 := by rw [hw1]; simp [zb]
  have hb1 : Below w.heap.size w w1 := by rw [hw1, hwb, hwa]; exact alw (alw (alw (Below.refl _ _) _) _) _
  have ea : w1.heap[w.heap.size]? = some (.cells #[.pointer (some ⟨p, 0, none⟩)] 27 (0, 0)) := by
    rw [hw1, Below.heap_alloc _ _ _ (by omega), hwb, Below.heap_alloc _ _ _ (by omega), hwa]; exact heap_alloc_new w _
  have eb : w1.heap[w.heap.size + 1]? = some (.cells #[.int .u64 (nm : Int)] 22 (0, 0)) := by
    rw [hw1, Below.heap_alloc _ _ _ (by omega), hwb, ← za]; exact heap_alloc_new wa _
  have ec : w1.heap[w.heap.size + 2]? = some (.cells #[.slice (some ⟨g, 0, none⟩) m c] 81 (0, 0)) := by rw [hw1, ← zb]; exact heap_alloc_new wb _
  have HCLO : Hid (∀ u, Below w1.heap.size w1 u → ∀ (k : Nat) (hk : k < E.length), Calls Tryz.prog 50 #[.int .i64 (k : Int), .pointer (some ⟨w.heap.size, 0, none⟩), .pointer (some ⟨w.heap.size + 1, 0, none⟩), .pointer (some ⟨w.heap.size + 2, 0, none⟩)] u fun e w' => e = .returned (.agg (buv ⟨ep, nm, k, m, E[k]⟩).toArray) ∧ Below u.heap.size u w') := fun u hu k hk => by
    have hbu := hb1.trans (hu.mono (by omega))
    have c1 := (hu.block _ (by omega)).trans ea
    have c2 := (hu.block _ (by omega)).trans eb
    have c3 := (hu.block _ (by omega)).trans ec
    have hrow := (hE.below hbu).cell hm k 0 hk (by decide)
    refine uclo_t _ _ _ g c k m ep nm E[k] (by rw [cell_of_row _ _ _ _ _ _ c1]; rfl) (by rw [cell_of_row _ _ _ _ _ _ c2]; rfl) (by rw [cell_of_row _ _ _ _ _ _ c3]; rfl) ((hbu.cell (World.block_lt_of_cell? w _ h4)).trans h4) (by omega) ?_
    simpa using hrow
  have hc5 : w1.cell? ⟨w.heap.size + 2, 0, none⟩ = some (.slice (some ⟨g, 0, none⟩) m c) := by rw [cell_of_row _ _ _ _ _ _ ec]; rfl
  have HB1 : Hid _ := hb1
  have HW1 : Hid (w1 = ((w.alloc (.cells #[.pointer (some ⟨p, 0, none⟩)] 27)).alloc (.cells #[.int .u64 (nm : Int)] 22)).alloc (.cells #[.slice (some ⟨g, 0, none⟩) m c] 81)) := by unfold Hid; rw [hw1, hwb, hwa]
  have HM : Hid _ := hm
  have hmi : (m : Int) ≤ 64 := by omega
  clear hwa hwb hw1 za zb hb1 ea eb ec hE h4 hm
  go_enter Tryz.func32, Tryz.ntmps32
  rw [HW1.out] at hc5
  go_wp2
  rw [← HW1.out]
  clear hc5
  go_loopw [8, 13] (fun u j wr => ∃ k : Nat, k ≤ m ∧ j = .int .i64 (k : Int) ∧ OwnG KBu wr w1.heap.size u ((uns ep nm m E).take k) ∧ Below w1.heap.size w1 wr) (fun _ j _ => m - (intOf j).toNat)
  case atStart => exact ⟨0, Nat.zero_le _, rfl, World.ownsRow_nil _ _ _ _, Below.refl _ _⟩
  case round =>
    obtain ⟨k, hk, rfl, hown, hbw⟩ := hrel
    by_cases hlt : k < m
    · have hltI : (k : Int) < (m : Int) := by omega
      have hk0 : (0 : Int) ≤ (k : Int) := by omega
      have hkL : k < E.length := by rw [← HM.out]; exact hlt
      have HC : Hid _ := HCLO.out wr hbw k hkL
      obtain ⟨d, hd⟩ : ∃ d, d = E[k] := ⟨_, rfl⟩
      rw [← hd] at HC
      have HTK : Hid ((uns ep nm m E).take k ++ [⟨ep, nm, k, m, d⟩] = (uns ep nm m E).take (k + 1)) := by
        unfold Hid
        rw [List.take_succ_eq_append_getElem (by rw [uns_len]; exact hkL), uns_get ep nm m E k hkL, ← hd]
      have HLK : Hid (k = ((uns ep nm m E).take k).length) := by unfold Hid; rw [List.length_take, uns_len]; omega
      have HOWN : Hid _ := hown
      have HBW : Hid _ := hbw
      have HLT3 : Hid (∀ b, u8.ownBlock = some b → w1.heap.size ≤ b) := fun b hb => (hown.lt' hb).1
      clear hown hbw hkL hd
      go_wp2_with fail
      refine Calls.mono HC.out ?_
      rintro e w3 ⟨rfl, hb3⟩
      have HO : Hid (OwnG KBu (w3.alloc (.cells (buv ⟨ep, nm, k, m, d⟩).toArray tUni)) w1.heap.size u8 ((uns ep nm m E).take k)) := (OwnG.below (K := KBu) HOWN.out hb3).below (alw (Below.refl _ _) _)
      have HB3 : Hid (Below w1.heap.size w1 w3) := below_next HBW.out hb3
      have HSZ : Hid (w1.heap.size ≤ w3.heap.size) := (below_next HBW.out hb3).size
      clear hb3
      go_wp2_with (at_builtin; refine wp_appG1 (K := KBu) rfl _ _ rfl w1.heap.size u8 ((uns ep nm m E).take k) ⟨ep, nm, k, m, d⟩ k HLK.out ⟨w3.heap.size, 0, none⟩ 1 rfl HO.out rfl (rdU_new _ _ _ rfl) (by show (k + 1) * 104 ≤ _; omega) (by simp only [maxLen]; omega) (by have := HSZ.out; simp; omega) ?_; intro g7 c7 w7 hown7 hg7 hlie7; rw [HTK.out] at hown7; have HO7 : Hid _ := hown7; have HG7 : Hid _ := hg7; clear hown7 hg7 hlie7)
      go_roundw
      case rel =>
        refine ⟨k + 1, hlt, by go_num, HO7.out, (alw HB3.out _).grown HG7.out (by have := HSZ.out; simp; omega) (fun j hj => HLT3.out j hj)⟩
      case measure => simp [intOf]; omega
    · have hltI : ¬ (k : Int) < (m : Int) := by omega
      have hkn : k = m := by omega
      have HO : Hid (OwnG KBu wr w1.heap.size u8 (uns ep nm m E)) := by
        unfold Hid
        have h9 := hown
        rw [hkn, HM.out, List.take_of_length_le (by rw [uns_len]; exact Nat.le_refl _)] at h9
        rw [HM.out]
        exact h9
      have HBW : Hid _ := hbw
      clear hown hbw
      go_wp2
      go_ret
      exact ⟨_, rfl, OwnG.base HO.out HB1.out.size, HB1.out.trans (HBW.out.mono HB1.out.size)⟩
end
end Go.Proofs.YtiedgcanndgmoaaGreatDoor
namespace Go.Proofs.YtiedgcanndgmoaaGreatDoor
set_option linter.unusedVariables false
set_option linter.unusedSimpArgs false
open Go.RowKit Go.Maps
section
variable {w w' : World} {p ms mn pw mw : Nat} {V : Nat → Nat → Value} {s : Xs}
set_option maxRecDepth 20000 in
set_option maxHeartbeats 1600000 in
theorem xbegin_num (h : XSt w p ms mn pw mw V s) (n : Nat) (k : Fk) (ao : Option Addr) (l c now : Nat) (hn : ¬ (1 ≤ n ∧ n ≤ mxX)) :
    Calls Tryz.prog 8 #[.pointer (some ⟨p, 0, none⟩), .int .u64 (n : Int), fv k, .slice ao l c, .int .u64 (now : Int)] w fun e w' => e = .returned (.tuple #[.slice none 0 0, .int .i64 1]) ∧ Below w.heap.size w w' := by
  obtain ⟨w1, hw1⟩ : ∃ w1, w1 = w.alloc (.cells #[.int .i64 k.1, .int .u64 (k.2 : Int)] tFk) := ⟨_, rfl⟩
  have hb1 : Below w.heap.size w w1 := by rw [hw1]; exact alw (Below.refl _ _) _
  have HM : Hid _ := xmade_t (h.below hb1)
  have HX : Hid _ := h
  have hkb : ∀ u, Below w1.heap.size w1 u → u.cell? ⟨w.heap.size, 0, none⟩ = some (.int .i64 k.1) ∧ u.cell? ⟨w.heap.size, 1, none⟩ = some (.int .u64 (k.2 : Int)) := fun u hu => by
    have h9 := keyBoxF w k u (by rw [← hw1]; have z : w1.heap.size = w.heap.size + 1 := (by rw [hw1]; simp); rw [← z]; exact hu)
    exact ⟨h9.1, h9.2.1⟩
  have HB1 : Hid _ := hb1
  have HW1 : Hid (w1 = _) := hw1
  have HN : Hid (∀ u, Calls Tryz.prog 23 #[.int .u64 (n : Int)] u fun e w' => e = .returned (.bool false) ∧ w' = u) := fun u => by
    have h9 := isNumber_t n u
    rw [decide_eq_false hn] at h9
    exact h9
  clear h hw1 hb1 hn hkb
  go_enter Tryz.func8, Tryz.ntmps8
  go_wp2_with fail
  rw [← HW1.out]
  refine Calls.mono HM.out ?_
  rintro e w2 ⟨rfl, hq⟩
  have hq := hq.symm
  subst hq
  go_wp2_with (go_at_call 23; refine Calls.mono (HN.out _) ?_; rintro e u2 ⟨rfl, hq⟩; have hq := hq.symm; subst hq)
  go_ret2
  exact ⟨rfl, HB1.out⟩
set_option maxRecDepth 20000 in
set_option maxHeartbeats 1600000 in
theorem xbegin_key (h : XSt w p ms mn pw mw V s) (n : Nat) (k : Fk) (ao : Option Addr) (l c now : Nat) (hn : 1 ≤ n ∧ n ≤ mxX) (hk : ¬ goodK k) :
    Calls Tryz.prog 8 #[.pointer (some ⟨p, 0, none⟩), .int .u64 (n : Int), fv k, .slice ao l c, .int .u64 (now : Int)] w fun e w' => e = .returned (.tuple #[.slice none 0 0, .int .i64 1]) ∧ Below w.heap.size w w' := by
  obtain ⟨w1, hw1⟩ : ∃ w1, w1 = w.alloc (.cells #[.int .i64 k.1, .int .u64 (k.2 : Int)] tFk) := ⟨_, rfl⟩
  have hb1 : Below w.heap.size w w1 := by rw [hw1]; exact alw (Below.refl _ _) _
  have HM : Hid _ := xmade_t (h.below hb1)
  have HX : Hid _ := h
  have hkb : ∀ u, Below w1.heap.size w1 u → u.cell? ⟨w.heap.size, 0, none⟩ = some (.int .i64 k.1) ∧ u.cell? ⟨w.heap.size, 1, none⟩ = some (.int .u64 (k.2 : Int)) := fun u hu => by
    have h9 := keyBoxF w k u (by rw [← hw1]; have z : w1.heap.size = w.heap.size + 1 := (by rw [hw1]; simp); rw [← z]; exact hu)
    exact ⟨h9.1, h9.2.1⟩
  have HB1 : Hid _ := hb1
  have HW1 : Hid (w1 = _) := hw1
  have HN : Hid (∀ u, Calls Tryz.prog 23 #[.int .u64 (n : Int)] u fun e w' => e = .returned (.bool true) ∧ w' = u) := fun u => by
    have h9 := isNumber_t n u
    rw [decide_eq_true hn] at h9
    exact h9
  have HG : Hid (∀ u, Calls Tryz.prog 27 #[.agg #[.int .i64 k.1, .int .u64 (k.2 : Int)]] u fun e w' => e = .returned (.bool false) ∧ Below u.heap.size u w') := fun u => by
    have h9 := isGood_t k u
    rw [decide_eq_false (show ¬ (0 ≤ k.1 ∧ k.1 < 8 ∧ k.2 ≤ mxX) from hk)] at h9
    exact h9
  have hkb1 := hkb w1 (Below.refl _ _)
  clear h hw1 hb1 hn hk hkb
  go_enter Tryz.func8, Tryz.ntmps8
  go_wp2_with fail
  rw [← HW1.out]
  refine Calls.mono HM.out ?_
  rintro e w2 ⟨rfl, hq⟩
  have hq := hq.symm
  subst hq
  go_wp2_with (first | (go_at_call 23; refine Calls.mono (HN.out _) ?_; rintro e u2 ⟨rfl, hq⟩; have hq := hq.symm; subst hq) | (go_at_call 27; refine Calls.mono (HG.out _) ?_; rintro e w2 ⟨rfl, hb2⟩; have HB2 : Hid _ := hb2; clear hb2))
  go_ret2
  exact ⟨rfl, HB1.out.trans (HB2.out.mono HB1.out.size)⟩
set_option maxRecDepth 20000 in
set_option maxHeartbeats 1600000 in
theorem xbegin_nil (h : XSt w p ms mn pw mw V s) (n : Nat) (k : Fk) (ao : Option Addr) (l c now : Nat) (hn : 1 ≤ n ∧ n ≤ mxX) (hk : goodK k) (hl : l = 0) :
    Calls Tryz.prog 8 #[.pointer (some ⟨p, 0, none⟩), .int .u64 (n : Int), fv k, .slice ao l c, .int .u64 (now : Int)] w fun e w' => e = .returned (.tuple #[.slice none 0 0, .int .i64 1]) ∧ Below w.heap.size w w' := by
  subst hl
  obtain ⟨w1, hw1⟩ : ∃ w1, w1 = w.alloc (.cells #[.int .i64 k.1, .int .u64 (k.2 : Int)] tFk) := ⟨_, rfl⟩
  have hb1 : Below w.heap.size w w1 := by rw [hw1]; exact alw (Below.refl _ _) _
  have HM : Hid _ := xmade_t (h.below hb1)
  have HX : Hid _ := h
  have hkb : ∀ u, Below w1.heap.size w1 u → u.cell? ⟨w.heap.size, 0, none⟩ = some (.int .i64 k.1) ∧ u.cell? ⟨w.heap.size, 1, none⟩ = some (.int .u64 (k.2 : Int)) := fun u hu => by
    have h9 := keyBoxF w k u (by rw [← hw1]; have z : w1.heap.size = w.heap.size + 1 := (by rw [hw1]; simp); rw [← z]; exact hu)
    exact ⟨h9.1, h9.2.1⟩
  have HB1 : Hid _ := hb1
  have HW1 : Hid (w1 = _) := hw1
  have HN : Hid (∀ u, Calls Tryz.prog 23 #[.int .u64 (n : Int)] u fun e w' => e = .returned (.bool true) ∧ w' = u) := fun u => by
    have h9 := isNumber_t n u
    rw [decide_eq_true hn] at h9
    exact h9
  have HG : Hid (∀ u, Calls Tryz.prog 27 #[.agg #[.int .i64 k.1, .int .u64 (k.2 : Int)]] u fun e w' => e = .returned (.bool true) ∧ Below u.heap.size u w') := fun u => by
    have h9 := isGood_t k u
    rw [decide_eq_true (show 0 ≤ k.1 ∧ k.1 < 8 ∧ k.2 ≤ mxX from hk)] at h9
    exact h9
  have hkb1 := hkb w1 (Below.refl _ _)
  clear h hw1 hb1 hn hk hkb
  go_enter Tryz.func8, Tryz.ntmps8
  go_wp2_with fail
  rw [← HW1.out]
  refine Calls.mono HM.out ?_
  rintro e w2 ⟨rfl, hq⟩
  have hq := hq.symm
  subst hq
  go_wp2_with (first | (go_at_call 23; refine Calls.mono (HN.out _) ?_; rintro e u2 ⟨rfl, hq⟩; have hq := hq.symm; subst hq) | (go_at_call 27; refine Calls.mono (HG.out _) ?_; rintro e w2 ⟨rfl, hb2⟩; have HB2 : Hid _ := hb2; clear hb2))
  go_ret2
  exact ⟨rfl, HB1.out.trans (HB2.out.mono HB1.out.size)⟩
set_option maxRecDepth 20000 in
set_option maxHeartbeats 1600000 in
theorem xbegin_big (h : XSt w p ms mn pw mw V s) (n : Nat) (k : Fk) (ao : Option Addr) (l c now : Nat) (hn : 1 ≤ n ∧ n ≤ mxX) (hk : goodK k) (hl : 1024 < l) :
    Calls Tryz.prog 8 #[.pointer (some ⟨p, 0, none⟩), .int .u64 (n : Int), fv k, .slice ao l c, .int .u64 (now : Int)] w fun e w' => e = .returned (.tuple #[.slice none 0 0, .int .i64 1]) ∧ Below w.heap.size w w' := by
  obtain ⟨w1, hw1⟩ : ∃ w1, w1 = w.alloc (.cells #[.int .i64 k.1, .int .u64 (k.2 : Int)] tFk) := ⟨_, rfl⟩
  have hb1 : Below w.heap.size w w1 := by rw [hw1]; exact alw (Below.refl _ _) _
  have HM : Hid _ := xmade_t (h.below hb1)
  have HX : Hid _ := h
  have hkb : ∀ u, Below w1.heap.size w1 u → u.cell? ⟨w.heap.size, 0, none⟩ = some (.int .i64 k.1) ∧ u.cell? ⟨w.heap.size, 1, none⟩ = some (.int .u64 (k.2 : Int)) := fun u hu => by
    have h9 := keyBoxF w k u (by rw [← hw1]; have z : w1.heap.size = w.heap.size + 1 := (by rw [hw1]; simp); rw [← z]; exact hu)
    exact ⟨h9.1, h9.2.1⟩
  have HB1 : Hid _ := hb1
  have HW1 : Hid (w1 = _) := hw1
  have HN : Hid (∀ u, Calls Tryz.prog 23 #[.int .u64 (n : Int)] u fun e w' => e = .returned (.bool true) ∧ w' = u) := fun u => by
    have h9 := isNumber_t n u
    rw [decide_eq_true hn] at h9
    exact h9
  have HG : Hid (∀ u, Calls Tryz.prog 27 #[.agg #[.int .i64 k.1, .int .u64 (k.2 : Int)]] u fun e w' => e = .returned (.bool true) ∧ Below u.heap.size u w') := fun u => by
    have h9 := isGood_t k u
    rw [decide_eq_true (show 0 ≤ k.1 ∧ k.1 < 8 ∧ k.2 ≤ mxX from hk)] at h9
    exact h9
  have hkb1 := hkb w1 (Below.refl _ _)
  have hl0 : ((l : Int) == 0) = false := by simp; omega
  have hl1 : (1024 : Int) < (l : Int) := by omega
  clear h hw1 hb1 hn hk hkb hl
  go_enter Tryz.func8, Tryz.ntmps8
  go_wp2_with fail
  rw [← HW1.out]
  refine Calls.mono HM.out ?_
  rintro e w2 ⟨rfl, hq⟩
  have hq := hq.symm
  subst hq
  go_wp2_with (first | (go_at_call 23; refine Calls.mono (HN.out _) ?_; rintro e u2 ⟨rfl, hq⟩; have hq := hq.symm; subst hq) | (go_at_call 27; refine Calls.mono (HG.out _) ?_; rintro e w2 ⟨rfl, hb2⟩; have HB2 : Hid _ := hb2; clear hb2))
  go_ret2
  exact ⟨rfl, HB1.out.trans (HB2.out.mono HB1.out.size)⟩
set_option maxRecDepth 20000 in
set_option maxHeartbeats 1600000 in
theorem xbegin_twice (h : XSt w p ms mn pw mw V s) (n : Nat) (k : Fk) (ao : Option Addr) (l c now : Nat) (hn : 1 ≤ n ∧ n ≤ mxX) (hk : goodK k) (hl : 1 ≤ l ∧ l ≤ 1024) (ht : n ∈ s.L.map Xe.n ∨ k ∈ s.L.map Xe.k) :
    Calls Tryz.prog 8 #[.pointer (some ⟨p, 0, none⟩), .int .u64 (n : Int), fv k, .slice ao l c, .int .u64 (now : Int)] w fun e w' => e = .returned (.tuple #[.slice none 0 0, .int .i64 3]) ∧ Below w.heap.size w w' := by
  obtain ⟨w1, hw1⟩ : ∃ w1, w1 = w.alloc (.cells #[.int .i64 k.1, .int .u64 (k.2 : Int)] tFk) := ⟨_, rfl⟩
  have hb1 : Below w.heap.size w w1 := by rw [hw1]; exact alw (Below.refl _ _) _
  have HM : Hid _ := xmade_t (h.below hb1)
  have HX : Hid _ := h
  have hkb : ∀ u, Below w1.heap.size w1 u → u.cell? ⟨w.heap.size, 0, none⟩ = some (.int .i64 k.1) ∧ u.cell? ⟨w.heap.size, 1, none⟩ = some (.int .u64 (k.2 : Int)) := fun u hu => by
    have h9 := keyBoxF w k u (by rw [← hw1]; have z : w1.heap.size = w.heap.size + 1 := (by rw [hw1]; simp); rw [← z]; exact hu)
    exact ⟨h9.1, h9.2.1⟩
  have HB1 : Hid _ := hb1
  have HW1 : Hid (w1 = _) := hw1
  have HN : Hid (∀ u, Calls Tryz.prog 23 #[.int .u64 (n : Int)] u fun e w' => e = .returned (.bool true) ∧ w' = u) := fun u => by
    have h9 := isNumber_t n u
    rw [decide_eq_true hn] at h9
    exact h9
  have HG : Hid (∀ u, Calls Tryz.prog 27 #[.agg #[.int .i64 k.1, .int .u64 (k.2 : Int)]] u fun e w' => e = .returned (.bool true) ∧ Below u.heap.size u w') := fun u => by
    have h9 := isGood_t k u
    rw [decide_eq_true (show 0 ≤ k.1 ∧ k.1 < 8 ∧ k.2 ≤ mxX from hk)] at h9
    exact h9
  have hkb1 := hkb w1 (Below.refl _ _)
  have hl0 : ((l : Int) == 0) = false := by simp; omega
  have hl1 : ¬ (1024 : Int) < (l : Int) := by omega
  have HNU : Hid (n < 18446744073709551616) := by unfold Hid; have := hn.2; unfold mxX at this; omega
  have HKF : Hid _ := hk.inF
  have HBL : Hid ((decide (n ∈ s.L.map Xe.n) || decide (k ∈ s.L.map Xe.k)) = true) := by unfold Hid; simpa using ht
  clear h hw1 hb1 hn hk hl ht
  go_enter Tryz.func8, Tryz.ntmps8
  go_wp2_with fail
  rw [← HW1.out]
  refine Calls.mono HM.out ?_
  rintro e w2 ⟨rfl, hq⟩
  have hq := hq.symm
  subst hq
  go_wp2_with (first | (go_at_call 23; refine Calls.mono (HN.out _) ?_; rintro e u2 ⟨rfl, hq⟩; have hq := hq.symm; subst hq) | (go_at_call 27; refine Calls.mono (HG.out _) ?_; rintro e w2 ⟨rfl, hb2⟩; have hkb2 := hkb w2 hb2; have HB2 : Hid (Below w.heap.size w w2) := HB1.out.trans (hb2.mono HB1.out.size); have HB2' : Hid _ := hb2; have HKN : Hid _ := knows_t (HX.out.below (HB1.out.trans (hb2.mono HB1.out.size))) n HNU.out k HKF.out; rw [HBL.out] at HKN; clear hb2) | (go_at_call 28; refine Calls.mono HKN.out ?_; rintro e w3 ⟨rfl, hb3⟩; have HB3 : Hid _ := hb3; clear hb3))
  go_ret2
  exact ⟨rfl, HB2.out.trans (HB3.out.mono HB2.out.size)⟩
end
end Go.Proofs.YtiedgcanndgmoaaGreatDoor
namespace Go.Proofs.YtiedgcanndgmoaaGreatDoor
set_option linter.unusedVariables false
set_option linter.unusedSimpArgs false
open Go.RowKit Go.Maps
section
variable {w w' : World} {p ms mn pw mw : Nat} {V : Nat → Nat → Value} {s : Xs}
set_option maxRecDepth 20000 in
set_option maxHeartbeats 1600000 in
theorem xbegin_full (h : XSt w p ms mn pw mw V s) (n : Nat) (k : Fk) (ao : Option Addr) (l c now : Nat) (hn : 1 ≤ n ∧ n ≤ mxX) (hk : goodK k) (hl : 1 ≤ l ∧ l ≤ 1024) (ht : n ∉ s.L.map Xe.n ∧ k ∉ s.L.map Xe.k) (hf : 64 ≤ s.L.length) :
    Calls Tryz.prog 8 #[.pointer (some ⟨p, 0, none⟩), .int .u64 (n : Int), fv k, .slice ao l c, .int .u64 (now : Int)] w fun e w' => e = .returned (.tuple #[.slice none 0 0, .int .i64 2]) ∧ Below w.heap.size w w' := by
  obtain ⟨w1, hw1⟩ : ∃ w1, w1 = w.alloc (.cells #[.int .i64 k.1, .int .u64 (k.2 : Int)] tFk) := ⟨_, rfl⟩
  have hb1 : Below w.heap.size w w1 := by rw [hw1]; exact alw (Below.refl _ _) _
  have HM : Hid _ := xmade_t (h.below hb1)
  have HX : Hid _ := h
  have hkb : ∀ u, Below w1.heap.size w1 u → u.cell? ⟨w.heap.size, 0, none⟩ = some (.int .i64 k.1) ∧ u.cell? ⟨w.heap.size, 1, none⟩ = some (.int .u64 (k.2 : Int)) := fun u hu => by
    have h9 := keyBoxF w k u (by rw [← hw1]; have z : w1.heap.size = w.heap.size + 1 := (by rw [hw1]; simp); rw [← z]; exact hu)
    exact ⟨h9.1, h9.2.1⟩
  have HB1 : Hid _ := hb1
  have HW1 : Hid (w1 = _) := hw1
  have HN : Hid (∀ u, Calls Tryz.prog 23 #[.int .u64 (n : Int)] u fun e w' => e = .returned (.bool true) ∧ w' = u) := fun u => by
    have h9 := isNumber_t n u
    rw [decide_eq_true hn] at h9
    exact h9
  have HG : Hid (∀ u, Calls Tryz.prog 27 #[.agg #[.int .i64 k.1, .int .u64 (k.2 : Int)]] u fun e w' => e = .returned (.bool true) ∧ Below u.heap.size u w') := fun u => by
    have h9 := isGood_t k u
    rw [decide_eq_true (show 0 ≤ k.1 ∧ k.1 < 8 ∧ k.2 ≤ mxX from hk)] at h9
    exact h9
  have hkb1 := hkb w1 (Below.refl _ _)
  have hl0 : ((l : Int) == 0) = false := by simp; omega
  have hl1 : ¬ (1024 : Int) < (l : Int) := by omega
  have HNU : Hid (n < 18446744073709551616) := by unfold Hid; have := hn.2; unfold mxX at this; omega
  have HKF : Hid _ := hk.inF
  have HBL : Hid ((decide (n ∈ s.L.map Xe.n) || decide (k ∈ s.L.map Xe.k)) = false) := by unfold Hid; simp only [Bool.or_eq_false_iff, decide_eq_false_iff_not]; exact ht
  obtain ⟨ln, hln⟩ : ∃ ln, ln = s.L.length := ⟨_, rfl⟩
  have HLN : Hid _ := hln
  have hfi : (64 : Int) ≤ (ln : Int) := by omega
  clear h hw1 hb1 hn hk hl ht hf hln
  go_enter Tryz.func8, Tryz.ntmps8
  go_wp2_with fail
  rw [← HW1.out]
  refine Calls.mono HM.out ?_
  rintro e w2 ⟨rfl, hq⟩
  have hq := hq.symm
  subst hq
  go_wp2_with (first | (go_at_call 23; refine Calls.mono (HN.out _) ?_; rintro e u2 ⟨rfl, hq⟩; have hq := hq.symm; subst hq) | (go_at_call 27; refine Calls.mono (HG.out _) ?_; rintro e w2 ⟨rfl, hb2⟩; have hkb2 := hkb w2 hb2; have HB2 : Hid (Below w.heap.size w w2) := HB1.out.trans (hb2.mono HB1.out.size); have HB2' : Hid _ := hb2; have HKN : Hid _ := knows_t (HX.out.below (HB1.out.trans (hb2.mono HB1.out.size))) n HNU.out k HKF.out; rw [HBL.out] at HKN; clear hb2) | (go_at_call 28; refine Calls.mono HKN.out ?_; rintro e w3 ⟨rfl, hb3⟩; have HB3 : Hid _ := hb3; have hX3 := HX.out.below (HB2.out.trans (hb3.mono HB2.out.size)); have hc5 : w3.cell? ⟨p, 5, none⟩ = some (.map (some ms)) := hX3.cell 5; have hc0 : w3.cell? ⟨p, 0, none⟩ = some (.int .i64 (s.mtu : Int)) := hX3.cell 0; have hlen : ∀ ty, (Builtin.len_ #[tMs] ty #[.map (some ms)]).run Tryz.prog w3 = .ok (.int .i64 (ln : Int)) w3 := (fun ty => by have h9 := MapG.len uMs hX3.se ty; rw [len_ses, ← HLN.out] at h9; exact h9); clear hX3; clear hb3))
  go_ret2
  exact ⟨rfl, HB2.out.trans (HB3.out.mono HB2.out.size)⟩
end
end Go.Proofs.YtiedgcanndgmoaaGreatDoor
namespace Go.Proofs.YtiedgcanndgmoaaGreatDoor
set_option linter.unusedVariables false
set_option linter.unusedSimpArgs false
open Go.RowKit Go.Maps
section
variable {w w' : World} {p ms mn pw mw : Nat} {V : Nat → Nat → Value} {s : Xs}
/-- what a Begin that is not refused leaves -/
structure BegOut (w w' : World) (p ms mn pw mw : Nat) (V V' : Nat → Nat → Value) (s : Xs) (n : Nat) (k : Fk) (now : Nat) (xs : Seg) (v : Value) (E : List Dc) : Prop where
  row : OwnG KBu w' w.heap.size v (uns s.ep n E.length E)
  txt : Fml w' w.heap.size E (segN xs s.mtu (cutN xs.length s.mtu))
  st : XSt w' p ms mn pw mw V' { s with clk := max s.clk (min now mxX), beg := s.beg + 1, L := s.L ++ [begX { s with clk := max s.clk (min now mxX) } n k] }
  stp : XStp w w' p ms mn pw mw V V'
  farU : ∀ b, v.ownBlock = some b → ¬ footX p ms mn pw mw V' b
  farT : ∀ b, Go.Proofs.YtiedgcanndgmoaaGreatDoor.XV E b → ¬ footX p ms mn pw mw V' b
set_option maxRecDepth 20000 in
set_option maxHeartbeats 3200000 in
theorem xbegin_t (h : XSt w p ms mn pw mw V s) (n : Nat) (k : Fk) (ao : Option Addr) (l c now : Nat) (xs : Seg) (hlx : l = xs.length) (hrd : Rd w ao xs) (hlc : l ≤ c) (hn : 1 ≤ n ∧ n ≤ mxX) (hk : goodK k) (hl : 1 ≤ l ∧ l ≤ 1024) (ht : n ∉ s.L.map Xe.n ∧ k ∉ s.L.map Xe.k) (hf : s.L.length < 64) (hbg : s.beg < 9223372036854775807) :
    Calls Tryz.prog 8 #[.pointer (some ⟨p, 0, none⟩), .int .u64 (n : Int), fv k, .slice ao l c, .int .u64 (now : Int)] w fun e w' => ∃ v V' E, e = .returned (.tuple #[v, .int .i64 0]) ∧ BegOut w w' p ms mn pw mw V V' s n k now xs v E := by
  obtain ⟨w1, hw1⟩ : ∃ w1, w1 = w.alloc (.cells #[.int .i64 k.1, .int .u64 (k.2 : Int)] tFk) := ⟨_, rfl⟩
  have hb1 : Below w.heap.size w w1 := by rw [hw1]; exact alw (Below.refl _ _) _
  have HM : Hid _ := xmade_t (h.below hb1)
  have HX : Hid _ := h
  have hkb : ∀ u, Below w1.heap.size w1 u → u.cell? ⟨w.heap.size, 0, none⟩ = some (.int .i64 k.1) ∧ u.cell? ⟨w.heap.size, 1, none⟩ = some (.int .u64 (k.2 : Int)) := fun u hu => by
    have h9 := keyBoxF w k u (by rw [← hw1]; have z : w1.heap.size = w.heap.size + 1 := (by rw [hw1]; simp); rw [← z]; exact hu)
    exact ⟨h9.1, h9.2.1⟩
  have HB1 : Hid _ := hb1
  have HW1 : Hid (w1 = _) := hw1
  have HN : Hid (∀ u, Calls Tryz.prog 23 #[.int .u64 (n : Int)] u fun e w' => e = .returned (.bool true) ∧ w' = u) := fun u => by
    have h9 := isNumber_t n u
    rw [decide_eq_true hn] at h9
    exact h9
  have HG : Hid (∀ u, Calls Tryz.prog 27 #[.agg #[.int .i64 k.1, .int .u64 (k.2 : Int)]] u fun e w' => e = .returned (.bool true) ∧ Below u.heap.size u w') := fun u => by
    have h9 := isGood_t k u
    rw [decide_eq_true (show 0 ≤ k.1 ∧ k.1 < 8 ∧ k.2 ≤ mxX from hk)] at h9
    exact h9
  have hkb1 := hkb w1 (Below.refl _ _)
  have hl0 : ((l : Int) == 0) = false := by simp; omega
  have hl1 : ¬ (1024 : Int) < (l : Int) := by omega
  have HNU : Hid (n < 18446744073709551616) := by unfold Hid; have := hn.2; unfold mxX at this; omega
  have HKF : Hid _ := hk.inF
  have HBL : Hid ((decide (n ∈ s.L.map Xe.n) || decide (k ∈ s.L.map Xe.k)) = false) := by unfold Hid; simp only [Bool.or_eq_false_iff, decide_eq_false_iff_not]; exact ht
  obtain ⟨ln, hln⟩ : ∃ ln, ln = s.L.length := ⟨_, rfl⟩
  have HLN : Hid _ := hln
  have hfi : ¬ (64 : Int) ≤ (ln : Int) := by omega
  have HMT : Hid _ := h.inv.mt
  have HRD : Hid _ := hrd
  have HLX : Hid _ := hlx
  have HLC : Hid _ := hlc
  have HL : Hid _ := hl
  have HK : Hid _ := hk
  have HNN : Hid _ := hn
  have HT : Hid _ := ht
  have HF : Hid _ := hf
  have HBG : Hid _ := hbg
  clear h hw1 hb1 hn hk hl ht hf hln hrd hlx hlc hbg
  go_enter Tryz.func8, Tryz.ntmps8
  go_wp2_with fail
  rw [← HW1.out]
  refine Calls.mono HM.out ?_
  rintro e w2 ⟨rfl, hq⟩
  have hq := hq.symm
  subst hq
  go_wp2_with (first | (go_at_call 23; refine Calls.mono (HN.out _) ?_; rintro e u2 ⟨rfl, hq⟩; have hq := hq.symm; subst hq) | (go_at_call 27; refine Calls.mono (HG.out _) ?_; rintro e w2 ⟨rfl, hb2⟩; have hkb2 := hkb w2 hb2; have HB2 : Hid (Below w.heap.size w w2) := HB1.out.trans (hb2.mono HB1.out.size); have HB2' : Hid _ := hb2; have HKN : Hid _ := knows_t (HX.out.below (HB1.out.trans (hb2.mono HB1.out.size))) n HNU.out k HKF.out; rw [HBL.out] at HKN; clear hb2) | (go_at_call 28; refine Calls.mono HKN.out ?_; rintro e w3 ⟨rfl, hb3⟩; have HB3 : Hid _ := hb3; have hX3 := HX.out.below (HB2.out.trans (hb3.mono HB2.out.size)); have hc5 : w3.cell? ⟨p, 5, none⟩ = some (.map (some ms)) := hX3.cell 5; have hc0 : w3.cell? ⟨p, 0, none⟩ = some (.int .i64 (s.mtu : Int)) := hX3.cell 0; have hlen : ∀ ty, (Builtin.len_ #[tMs] ty #[.map (some ms)]).run Tryz.prog w3 = .ok (.int .i64 (ln : Int)) w3 := (fun ty => by have h9 := MapG.len uMs hX3.se ty; rw [len_ses, ← HLN.out] at h9; exact h9); clear hX3; clear hb3) | (go_at_call 29; refine Calls.mono (cut_t ao l c xs s.mtu HLX.out (Rd.below HRD.out (HB2.out.trans (HB3.out.mono HB2.out.size))) HLC.out (by have := HMT.out.1; omega) HMT.out.2 HL.out.1 HL.out.2 (by have := HMT.out.1; have := HL.out.2; omega)) ?_; rintro e w4 ⟨vs, E, rfl, hls, hb4⟩; have HLS : Hid _ := hls; have HB4 : Hid (Below w.heap.size w w4) := (HB2.out.trans (HB3.out.mono HB2.out.size)).trans (hb4.mono (HB2.out.trans (HB3.out.mono HB2.out.size)).size); have hkb4 := hkb w4 (below_next (below_next HB2'.out HB3.out) hb4); have HGO : Hid _ := goOn_t (HX.out.below HB4.out) now; clear hls hb4) | (go_at_call 30; refine Calls.mono HGO.out ?_; rintro e w5 ⟨rfl, hx5, hst5⟩; have hkb5 : w5.cell? ⟨w.heap.size, 0, none⟩ = some (.int .i64 k.1) ∧ w5.cell? ⟨w.heap.size, 1, none⟩ = some (.int .u64 (k.2 : Int)) := ⟨(World.cell?_of_block (hst5.chg.block w.heap.size (World.block_lt_of_cell? w4 _ hkb4.1) (fun e => Nat.lt_irrefl _ (HX.out.lt e)))).trans hkb4.1, (World.cell?_of_block (hst5.chg.block w.heap.size (World.block_lt_of_cell? w4 _ hkb4.1) (fun e => Nat.lt_irrefl _ (HX.out.lt e)))).trans hkb4.2⟩; have HX5 : Hid _ := hx5; have HST5 : Hid _ := hst5; have HSTA : Hid _ := start_t hx5 n HNN.out k HK.out HT.out.1 HT.out.2 HF.out HBG.out; clear hx5 hst5 hkb4) | (go_at_call 31; refine Calls.mono HSTA.out ?_; rintro e w6 ⟨rfl, V', hx6, hst6⟩; have HX6 : Hid _ := hx6; have HST6 : Hid _ := hst6; clear hx6 hst6 hkb5))
  have hEl : E.length = cutN l s.mtu := by have h9 := HLS.out.len; rw [segN_len] at h9; exact h9
  have hm0 : 0 < s.mtu := by have := HMT.out.1; omega
  have hE1 : 0 < E.length := by
    rw [hEl]
    unfold cutN
    have := HL.out.1
    exact Nat.div_pos (by omega) hm0
  have hE64 : E.length ≤ 64 := by
    rw [hEl]
    unfold cutN
    have h1 := HMT.out.1
    have h2 := HL.out.2
    refine Nat.le_of_lt_succ ((Nat.div_lt_iff_lt_mul hm0).2 ?_)
    omega
  obtain ⟨g, cs, hvs, -, -, hBg, -⟩ := HLS.out.row.one hE1
  obtain ⟨m, hm⟩ : ∃ m, m = E.length := ⟨_, rfl⟩
  rw [← hm] at hvs
  subst hvs
  have hsz3 : w.heap.size ≤ w3.heap.size := (HB2.out.trans (HB3.out.mono HB2.out.size)).size
  have hfoot : ∀ b, w3.heap.size ≤ b → ¬ footX p ms mn pw mw V b := fun b hb hf => by have := HX.out.lt hf; omega
  have hst46 := HST5.out.trans HST6.out
  have hls6 := HLS.out.kept (w' := w6) (fun b hb => hst46.chg.block b (HLS.out.lt hb).2 (hfoot b (HLS.out.lt hb).1))
  have hfar6 : ∀ b, b < w4.heap.size → w3.heap.size ≤ b → ¬ footX p ms mn pw mw V' b := fun b h1 h2 h3 => by
    rcases hst46.new b h3 with h4 | h4
    · exact hfoot b h2 h4
    · omega
  have hep : w6.cell? ⟨p, 2, none⟩ = some (.int .u64 (s.ep : Int)) := HX6.out.cell 2
  have HUN : Hid _ := units_t s.ep n g m cs w3.heap.size E hm (by omega) hep hls6.row
  have HLS6 : Hid _ := hls6
  have HFAR : Hid _ := hfar6
  have HST46 : Hid _ := hst46
  have HSZ3 : Hid _ := hsz3
  have HME : Hid _ := hm
  have HLT4 : Hid (∀ b, Go.Proofs.YtiedgcanndgmoaaGreatDoor.XV E b → w3.heap.size ≤ b ∧ b < w4.heap.size) := fun b hb => HLS.out.lt (.inr hb)
  clear hEl hm0 hE1 hE64 hBg hsz3 hfoot hst46 hls6 hfar6 hep hm
  refine Calls.mono HUN.out ?_
  rintro e w7 ⟨v, rfl, hown7, hb7⟩
  have HO7 : Hid _ := hown7
  have HB7 : Hid _ := hb7
  clear hown7 hb7
  go_wp2
  go_ret2
  have hstp : XStp w w7 p ms mn pw mw V V' := ((XStp.below HB4.out p ms mn pw mw V).trans HST46.out).trans (XStp.below HB7.out p ms mn pw mw V')
  have hsz6 : w.heap.size ≤ w6.heap.size := ((XStp.below HB4.out p ms mn pw mw V).trans HST46.out).chg.size
  refine ⟨v, V', E, rfl, ⟨?_, ?_, HX6.out.below HB7.out, hstp, fun b hb hf => ?_, fun b hb => HFAR.out b (HLT4.out b hb).2 (HLT4.out b hb).1⟩⟩
  · rw [← HME.out]
    exact OwnG.base HO7.out hsz6
  · rw [← HLX.out]
    exact ((HLS6.out.below HB7.out).base HSZ3.out).fml
  · have h1 := (OwnG.lt' (K := KBu) HO7.out hb).1
    have h2 := HX6.out.lt hf
    omega
end
end Go.Proofs.YtiedgcanndgmoaaGreatDoor
