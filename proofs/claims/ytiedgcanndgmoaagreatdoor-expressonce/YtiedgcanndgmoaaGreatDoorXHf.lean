import Derived.Test.YtiedgcanndgmoaaGreatDoorXD
import Derived.Test.YtiedgcanndgmoaaGreatDoorUE
namespace Go.Proofs.YtiedgcanndgmoaaGreatDoor
set_option linter.unusedVariables false
set_option linter.unusedSimpArgs false
open Go.RowKit Go.Maps
abbrev ucl (k e sn pt ix c : Int) (da : Option Addr) (dn dc : Nat) (cd : Int) (ga : Option Addr) (gn gc : Nat) : Array Value := #[.int .i64 k, .int .u64 e, .int .u64 sn, .int .i64 pt, .int .i64 ix, .int .i64 c, .slice da dn dc, .int .i64 cd, .slice ga gn gc]
abbrev tDo : TypeId := 55
abbrev tUn : TypeId := 41
abbrev tSn : TypeId := 88
abbrev doneV (a b c : Int) : Value := .agg #[.int .i64 a, .int .u64 b, .int .i64 c]
/-- Hear's two boxes -/
theorem hboxes (w : World) (U : Array Value) (w1 : World) (hw1 : w1 = (w.alloc (.cells U tUn)).alloc (.cells #[.int .i64 0, .int .u64 0, .int .i64 0] tDo)) : Below w.heap.size w w1 ∧ w1.heap.size = w.heap.size + 2 ∧ w1.heap[w.heap.size]? = some (.cells U tUn (0, 0)) ∧ w1.heap[w.heap.size + 1]? = some (.cells #[.int .i64 0, .int .u64 0, .int .i64 0] tDo (0, 0)) := by
  subst hw1
  refine ⟨alx (alx (Below.refl _ _) (Nat.le_refl _) _) (by simp) _, by simp, ?_, ?_⟩
  · have h8 := (alx (Below.refl (w.alloc (.cells U tUn)).heap.size (w.alloc (.cells U tUn))) (Nat.le_refl _) (.cells #[.int .i64 0, .int .u64 0, .int .i64 0] tDo)).block w.heap.size (by simp)
    exact h8.trans (heap_alloc_new w _)
  · have h9 := heap_alloc_new (w.alloc (.cells U tUn)) (.cells #[.int .i64 0, .int .u64 0, .int .i64 0] tDo)
    rw [World.size_alloc] at h9
    exact h9
theorem lookS_in {w : World} {ms : Nat} {L : List Xe} (h : MapG KSe w ms (ses L)) (hn : (L.map Xe.n).Nodup) {x : Xe} (hx : x ∈ L) (hk : x.n < 18446744073709551616) : ∀ u : World, u.heap[ms]? = w.heap[ms]? → (Instr.lookup tMs (.map (some ms)) (.int .u64 (x.n : Int)) true).run Tryz.prog u = .ok (.tuple #[.agg #[.int .i64 x.k.1, .int .u64 (x.k.2 : Int), .int .u64 (x.o : Int)], .bool true]) u := fun u hu => (h.kept hu).look_in uMs zMs (s := x.n) hk (gl_ses_in hn hx)
theorem lookS_no {w : World} {ms : Nat} {L : List Xe} (h : MapG KSe w ms (ses L)) {n : Nat} (hx : n ∉ L.map Xe.n) (hk : n < 18446744073709551616) : ∀ u : World, u.heap[ms]? = w.heap[ms]? → (Instr.lookup tMs (.map (some ms)) (.int .u64 (n : Int)) true).run Tryz.prog u = .ok (.tuple #[.agg #[.int .i64 0, .int .u64 0, .int .u64 0], .bool false]) u := fun u hu => (h.kept hu).look_no uMs zMs (s := n) hk (gl_ses_no hx)
section
variable {w w' : World} {p ms mn pw mw : Nat} {V : Nat → Nat → Value} {s : Xs}
set_option maxRecDepth 20000 in
set_option maxHeartbeats 1600000 in
theorem xhear_bad (h : XSt w p ms mn pw mw V s) (e sn cd : Int) (pt ix c : Int) (da : Option Addr) (dn dc : Nat) (ga : Option Addr) (gn gc : Nat) (l : List Rg) (hn : gn = l.length) (hx : RdR w ga l) (hl : gn ≤ 8796093022208) (hc : gn ≤ gc) (hv : ¬ validR 2 e sn pt ix c dn cd gn l) :
    Calls Tryz.prog 13 #[.pointer (some ⟨p, 0, none⟩), .agg (ucl 2 e sn pt ix c da dn dc cd ga gn gc)] w fun e9 w' => e9 = .returned (.tuple #[doneV 0 0 0, .bool false]) ∧ Below w.heap.size w w' := by
  obtain ⟨w1, hw1⟩ : ∃ w1, w1 = (w.alloc (.cells (ucl 2 e sn pt ix c da dn dc cd ga gn gc) tUn)).alloc (.cells #[.int .i64 0, .int .u64 0, .int .i64 0] tDo) := ⟨_, rfl⟩
  obtain ⟨hb1, hsz1, hu1, hd1⟩ := hboxes w _ w1 hw1
  have HM : Hid (∀ u, Below w1.heap.size w1 u → Calls _ _ _ u _) := fun u hu => xmade_t ((h.below hb1).below hu)
  have hsh : ∀ u, Below w1.heap.size w1 u → u.cell? ⟨w.heap.size, 0, none⟩ = some (.int .i64 2) ∧ u.cell? ⟨w.heap.size, 1, none⟩ = some (.int .u64 e) ∧ u.cell? ⟨w.heap.size, 2, none⟩ = some (.int .u64 sn) ∧ u.cell? ⟨w.heap.size, 3, none⟩ = some (.int .i64 pt) ∧ u.cell? ⟨w.heap.size, 4, none⟩ = some (.int .i64 ix) ∧ u.cell? ⟨w.heap.size, 5, none⟩ = some (.int .i64 c) ∧ u.cell? ⟨w.heap.size, 6, none⟩ = some (.slice da dn dc) ∧ u.cell? ⟨w.heap.size, 7, none⟩ = some (.int .i64 cd) ∧ u.cell? ⟨w.heap.size, 8, none⟩ = some (.slice ga gn gc) ∧ u.cell? ⟨p, 2, none⟩ = some (.int .u64 (s.ep : Int)) ∧ u.cell? ⟨p, 5, none⟩ = some (.map (some ms)) := fun u hu => by
    have h9 := (hu.block _ (Array.getElem?_eq_some_iff.1 hu1).1).trans hu1
    have h8 := (h.below hb1).below hu
    refine ⟨?_, ?_, ?_, ?_, ?_, ?_, ?_, ?_, ?_, ?_, ?_⟩
    all_goals first | (rw [cell_of_row _ _ _ _ _ _ h9]; rfl) | exact h8.cell 2 | exact h8.cell 5
  have HV : Hid (∀ u, Below w1.heap.size w1 u → Calls Tryz.prog 33 #[.agg (ucl 2 e sn pt ix c da dn dc cd ga gn gc)] u fun e w' => e = .returned (.int .i64 30) ∧ Below u.heap.size u w') := fun u hu => by
    have h9 := valid_t 2 e sn pt ix c da dn dc cd ga gn gc l false (by simp; exact hv) u hn (hx.below (hb1.trans (hu.mono hb1.size))) hl hc
    simpa using h9
  have HB1 : Hid _ := hb1
  have HD1 : Hid _ := hd1
  have HX0 : Hid _ := h
  have HW1 : Hid (w1 = _) := hw1
  have HX : Hid (∀ u, Below w1.heap.size w1 u → Below w.heap.size w u) := fun u hu => hb1.trans (hu.mono hb1.size)
  clear h hb1 hw1 hd1 hu1 hsz1 hn hx hl hc hv
  go_enter Tryz.func13, Tryz.ntmps13
  go_wp2_with fail
  rw [← HW1.out]
  refine wp_region_noPanic ?_
  refine wp_region_held_drew (S := (fun u => Below w1.heap.size w1 u)) (by kernel_rfl) (by first | exact (Below.refl _ _).drew | assumption | exact below_next (by assumption) (by assumption)) (fun hHeld => ?_)
  refine tz (i := 0) 8 rfl rfl hHeld ?_
  simp only [pS]
  refine run_at (i := 1) rfl (by kernel_rfl) (by rfl) (fun K hK => ?_)
  simp only [List.getElem_toArray, List.getElem_cons_zero, List.getElem_cons_succ]
  go_simp
  (first | (go_at_call 26; refine Calls.mono (HM.out _ (by assumption)) ?_; rintro e9 u4 ⟨rfl, hu4⟩; subst hu4) | (go_at_call 33; refine Calls.mono (HV.out _ (by assumption)) ?_; rintro e9 u5 ⟨rfl, hu5⟩))
  go_wp2_with fail
  refine hK.out _ _ (by first | exact (Below.refl _ _).drew | assumption | exact below_next (by assumption) (by assumption)) ?_
  clear hK K
  intro hHeld2
  clear hHeld
  have hHeld := hHeld2
  clear hHeld2
  try simp only [pS]
  refine tz (i := 2) 10 rfl rfl hHeld ?_
  simp only [pS]
  refine tz (i := 3) 11 rfl rfl hHeld ?_
  simp only [pS]
  refine tz (i := 4) 12 rfl rfl hHeld ?_
  simp only [pS]
  refine tz (i := 5) 13 rfl rfl hHeld ?_
  simp only [pS]
  refine tz (i := 6) 14 rfl rfl hHeld ?_
  simp only [pS]
  refine tz (i := 7) 15 rfl rfl hHeld ?_
  simp only [pS]
  refine tz (i := 8) 16 rfl rfl hHeld ?_
  simp only [pS]
  refine tz (i := 9) 17 rfl rfl hHeld ?_
  simp only [pS]
  refine run_at (i := 10) rfl (by kernel_rfl) (by rfl) (fun K hK => ?_)
  simp only [List.getElem_toArray, List.getElem_cons_zero, List.getElem_cons_succ]
  go_simp
  (first | (go_at_call 26; refine Calls.mono (HM.out _ (by assumption)) ?_; rintro e9 u4 ⟨rfl, hu4⟩; subst hu4) | (go_at_call 33; refine Calls.mono (HV.out _ (by assumption)) ?_; rintro e9 u5 ⟨rfl, hu5⟩))
  go_wp2_with fail
  refine hK.out _ _ (by first | exact (Below.refl _ _).drew | assumption | exact below_next (by assumption) (by assumption)) ?_
  clear hK K
  intro hHeld2
  clear hHeld
  have hHeld := hHeld2
  clear hHeld2
  try simp only [pS]
  refine tz (i := 11) 19 rfl rfl hHeld ?_
  simp only [pS]
  refine tz (i := 12) 20 rfl rfl hHeld ?_
  simp only [pS]
  refine tz (i := 13) 21 rfl rfl hHeld ?_
  simp only [pS]
  refine skip_at (i := 14) 22 rfl rfl (by kernel_rfl) (by kernel_rfl) (by kernel_rfl) (fun _ _ _ h => h) (by rfl) hHeld ?_
  simp only [pS]
  refine skip_at (i := 15) 23 rfl rfl (by kernel_rfl) (by kernel_rfl) (by kernel_rfl) (fun _ _ _ h => h) (by rfl) hHeld ?_
  simp only [pS]
  refine skip_at (i := 16) 24 rfl rfl (by kernel_rfl) (by kernel_rfl) (by kernel_rfl) (fun _ _ _ h => h) (by rfl) hHeld ?_
  simp only [pS]
  refine skip_at (i := 17) 25 rfl rfl (by kernel_rfl) (by kernel_rfl) (by kernel_rfl) (fun _ _ _ h => h) (by rfl) hHeld ?_
  simp only [pS]
  refine skip_at (i := 18) 26 rfl rfl (by kernel_rfl) (by kernel_rfl) (by kernel_rfl) (fun _ _ _ h => h) (by rfl) hHeld ?_
  simp only [pS]
  refine skip_at (i := 19) 27 rfl rfl (by kernel_rfl) (by kernel_rfl) (by kernel_rfl) (fun _ _ _ h => h) (by rfl) hHeld ?_
  simp only [pS]
  refine skip_at (i := 20) 28 rfl rfl (by kernel_rfl) (by kernel_rfl) (by kernel_rfl) (fun _ _ _ h => h) (by rfl) hHeld ?_
  simp only [pS]
  refine tz (i := 21) 29 rfl rfl hHeld ?_
  simp only [pS]
  refine tz (i := 22) 30 rfl rfl hHeld ?_
  simp only [pS]
  refine skip_at (i := 23) 31 rfl rfl (by kernel_rfl) (by kernel_rfl) (by kernel_rfl) (fun _ _ _ h => h) (by rfl) hHeld ?_
  simp only [pS]
  refine skip_at (i := 24) 32 rfl rfl (by kernel_rfl) (by kernel_rfl) (by kernel_rfl) (fun _ _ _ h => h) (by rfl) hHeld ?_
  simp only [pS]
  refine skip_at (i := 25) 33 rfl rfl (by kernel_rfl) (by kernel_rfl) (by kernel_rfl) (fun _ _ _ h => h) (by rfl) hHeld ?_
  simp only [pS]
  refine tz (i := 26) 34 rfl rfl hHeld ?_
  simp only [pS]
  refine wpAnyH_done (by kernel_rfl) ?_ _
  refine NoPanic.normal ?_
  have hb2 := hHeld
  clear hu5
  have hd2 := (hb2.block _ (Array.getElem?_eq_some_iff.1 HD1.out).1).trans HD1.out
  have c0 : u5.cell? ⟨w.heap.size + 1, 0, none⟩ = some (.int .i64 0) := by rw [cell_of_row _ _ _ _ _ _ hd2]; rfl
  have c1 : u5.cell? ⟨w.heap.size + 1, 1, none⟩ = some (.int .u64 0) := by rw [cell_of_row _ _ _ _ _ _ hd2]; rfl
  have c2 : u5.cell? ⟨w.heap.size + 1, 2, none⟩ = some (.int .i64 0) := by rw [cell_of_row _ _ _ _ _ _ hd2]; rfl
  have f0 : u5.frozen? ⟨w.heap.size + 1, 0, none⟩ = false := by simp [World.frozen?, hd2]
  have f1 : u5.frozen? ⟨w.heap.size + 1, 1, none⟩ = false := by simp [World.frozen?, hd2]
  have f2 : u5.frozen? ⟨w.heap.size + 1, 2, none⟩ = false := by simp [World.frozen?, hd2]
  have HB2 : Hid (Below w.heap.size w u5) := HX.out _ hb2
  clear hb2 hd2 hHeld
  go_wp2
  exact bodyPost_ret (v := .tuple #[.agg #[.int .i64 0, .int .u64 0, .int .i64 0], .bool false]) (by simp [results, Tryz.results13, go_sem, c0, c1, c2, f0, f1, f2]) rfl ⟨rfl, ((HB2.out.setCell (p := ⟨w.heap.size + 1, 0, none⟩) (Nat.le_succ _) _).setCell (p := ⟨w.heap.size + 1, 1, none⟩) (Nat.le_succ _) _).setCell (p := ⟨w.heap.size + 1, 2, none⟩) (Nat.le_succ _) _⟩
end
end Go.Proofs.YtiedgcanndgmoaaGreatDoor
namespace Go.Proofs.YtiedgcanndgmoaaGreatDoor
set_option linter.unusedVariables false
set_option linter.unusedSimpArgs false
open Go.RowKit Go.Maps
theorem grown_sr (w : World) (g : Nat) (cs : Array Value) : w.grownBy (w.setRow g cs) (some g) := ⟨rfl, rfl, rfl, by simp, fun k _ h => setRow_other w g k cs (fun e => h (by rw [e]))⟩
theorem infoDx : (Tryz.prog.info? tDo).map (·.size) = some 3 := by kernel_rfl
theorem infoSx : (Tryz.prog.info? tSn).map (·.size) = some 3 := by kernel_rfl
theorem done_onx (a b c : Int) : (#[Value.int .i64 a, Value.int .u64 b, Value.int .i64 c] : Array Value).all (·.oneCell') = true := by simp [Value.oneCell']
theorem ses_onx (a b c : Int) : (#[Value.int .i64 a, Value.int .u64 b, Value.int .u64 c] : Array Value).all (·.oneCell') = true := by simp [Value.oneCell']
section
variable {w w' : World} {p ms mn pw mw : Nat} {V : Nat → Nat → Value} {s : Xs}
set_option maxRecDepth 20000 in
set_option maxHeartbeats 1600000 in
theorem xhear_out (h : XSt w p ms mn pw mw V s) (n : Nat) (cd : Int) (pt ix c : Int) (da : Option Addr) (dn dc : Nat) (ga : Option Addr) (gn gc : Nat) (l : List Rg) (hn : gn = l.length) (hx : RdR w ga l) (hl : gn ≤ 8796093022208) (hc : gn ≤ gc) (hv : validR 2 (s.ep : Int) (n : Int) pt ix c dn cd gn l) (hcd : ¬ cd = 0) (hno : n ∉ s.L.map Xe.n) :
    Calls Tryz.prog 13 #[.pointer (some ⟨p, 0, none⟩), .agg (ucl 2 (s.ep : Int) (n : Int) pt ix c da dn dc cd ga gn gc)] w fun e9 w' => e9 = .returned (.tuple #[doneV 0 0 0, .bool false]) ∧ Below w.heap.size w w' := by
  obtain ⟨w1, hw1⟩ : ∃ w1, w1 = (w.alloc (.cells (ucl 2 (s.ep : Int) (n : Int) pt ix c da dn dc cd ga gn gc) tUn)).alloc (.cells #[.int .i64 0, .int .u64 0, .int .i64 0] tDo) := ⟨_, rfl⟩
  obtain ⟨hb1, hsz1, hu1, hd1⟩ := hboxes w _ w1 hw1
  have HM : Hid (∀ u, Below w1.heap.size w1 u → Calls _ _ _ u _) := fun u hu => xmade_t ((h.below hb1).below hu)
  have hsh : ∀ u, Below w1.heap.size w1 u → u.cell? ⟨w.heap.size, 0, none⟩ = some (.int .i64 2) ∧ u.cell? ⟨w.heap.size, 1, none⟩ = some (.int .u64 (s.ep : Int)) ∧ u.cell? ⟨w.heap.size, 2, none⟩ = some (.int .u64 (n : Int)) ∧ u.cell? ⟨w.heap.size, 3, none⟩ = some (.int .i64 pt) ∧ u.cell? ⟨w.heap.size, 4, none⟩ = some (.int .i64 ix) ∧ u.cell? ⟨w.heap.size, 5, none⟩ = some (.int .i64 c) ∧ u.cell? ⟨w.heap.size, 6, none⟩ = some (.slice da dn dc) ∧ u.cell? ⟨w.heap.size, 7, none⟩ = some (.int .i64 cd) ∧ u.cell? ⟨w.heap.size, 8, none⟩ = some (.slice ga gn gc) ∧ u.cell? ⟨p, 2, none⟩ = some (.int .u64 (s.ep : Int)) ∧ u.cell? ⟨p, 5, none⟩ = some (.map (some ms)) := fun u hu => by
    have h9 := (hu.block _ (Array.getElem?_eq_some_iff.1 hu1).1).trans hu1
    have h8 := (h.below hb1).below hu
    refine ⟨?_, ?_, ?_, ?_, ?_, ?_, ?_, ?_, ?_, ?_, ?_⟩
    all_goals first | (rw [cell_of_row _ _ _ _ _ _ h9]; rfl) | exact h8.cell 2 | exact h8.cell 5
  have HV : Hid (∀ u, Below w1.heap.size w1 u → Calls Tryz.prog 33 #[.agg (ucl 2 (s.ep : Int) (n : Int) pt ix c da dn dc cd ga gn gc)] u fun e w' => e = .returned (.int .i64 0) ∧ Below u.heap.size u w') := fun u hu => by
    have h9 := valid_t 2 (s.ep : Int) (n : Int) pt ix c da dn dc cd ga gn gc l true (by simp; exact hv) u hn (hx.below (hb1.trans (hu.mono hb1.size))) hl hc
    simpa using h9
  have hlk : ∀ u, Below w1.heap.size w1 u → (Instr.lookup tMs (.map (some ms)) (.int .u64 (n : Int)) true).run Tryz.prog u = .ok (.tuple #[.agg #[.int .i64 0, .int .u64 0, .int .u64 0], .bool false]) u := fun u hu => lookS_no (h.below hb1).se hno (by have := hv.1.2.2; omega) u (hu.block ms (h.below hb1).se.lt)
  have HB1 : Hid _ := hb1
  have HD1 : Hid _ := hd1
  have HX0 : Hid _ := h
  have HW1 : Hid (w1 = _) := hw1
  have HX : Hid (∀ u, Below w1.heap.size w1 u → Below w.heap.size w u) := fun u hu => hb1.trans (hu.mono hb1.size)
  clear h hb1 hw1 hd1 hu1 hsz1 hn hx hl hc hv hno
  go_enter Tryz.func13, Tryz.ntmps13
  go_wp2_with fail
  rw [← HW1.out]
  refine wp_region_noPanic ?_
  refine wp_region_held_drew (S := (fun u => Below w1.heap.size w1 u)) (by kernel_rfl) (by first | exact (Below.refl _ _).drew | assumption | exact below_next (by assumption) (by assumption)) (fun hHeld => ?_)
  refine tz (i := 0) 8 rfl rfl hHeld ?_
  simp only [pS]
  refine run_at (i := 1) rfl (by kernel_rfl) (by rfl) (fun K hK => ?_)
  simp only [List.getElem_toArray, List.getElem_cons_zero, List.getElem_cons_succ]
  go_simp
  (first | (go_at_call 26; refine Calls.mono (HM.out _ (by assumption)) ?_; rintro e9 u4 ⟨rfl, hu4⟩; subst hu4) | (go_at_call 33; refine Calls.mono (HV.out _ (by assumption)) ?_; rintro e9 u5 ⟨rfl, hu5⟩))
  go_wp2_with fail
  refine hK.out _ _ (by first | exact (Below.refl _ _).drew | assumption | exact below_next (by assumption) (by assumption)) ?_
  clear hK K
  intro hHeld2
  clear hHeld
  have hHeld := hHeld2
  clear hHeld2
  try simp only [pS]
  refine tz (i := 2) 10 rfl rfl hHeld ?_
  simp only [pS]
  refine tz (i := 3) 11 rfl rfl hHeld ?_
  simp only [pS]
  refine tz (i := 4) 12 rfl rfl hHeld ?_
  simp only [pS]
  refine tz (i := 5) 13 rfl rfl hHeld ?_
  simp only [pS]
  refine tz (i := 6) 14 rfl rfl hHeld ?_
  simp only [pS]
  refine tz (i := 7) 15 rfl rfl hHeld ?_
  simp only [pS]
  refine tz (i := 8) 16 rfl rfl hHeld ?_
  simp only [pS]
  refine tz (i := 9) 17 rfl rfl hHeld ?_
  simp only [pS]
  refine run_at (i := 10) rfl (by kernel_rfl) (by rfl) (fun K hK => ?_)
  simp only [List.getElem_toArray, List.getElem_cons_zero, List.getElem_cons_succ]
  go_simp
  (first | (go_at_call 26; refine Calls.mono (HM.out _ (by assumption)) ?_; rintro e9 u4 ⟨rfl, hu4⟩; subst hu4) | (go_at_call 33; refine Calls.mono (HV.out _ (by assumption)) ?_; rintro e9 u5 ⟨rfl, hu5⟩))
  go_wp2_with fail
  refine hK.out _ _ (by first | exact (Below.refl _ _).drew | assumption | exact below_next (by assumption) (by assumption)) ?_
  clear hK K
  intro hHeld2
  clear hHeld
  have hHeld := hHeld2
  clear hHeld2
  try simp only [pS]
  refine tz (i := 11) 19 rfl rfl hHeld ?_
  simp only [pS]
  refine tz (i := 12) 20 rfl rfl hHeld ?_
  simp only [pS]
  refine tz (i := 13) 21 rfl rfl hHeld ?_
  simp only [pS]
  refine tz (i := 14) 22 rfl rfl hHeld ?_
  simp only [pS]
  refine tz (i := 15) 23 rfl rfl hHeld ?_
  simp only [pS]
  refine tz (i := 16) 24 rfl rfl hHeld ?_
  simp only [pS]
  refine tz (i := 17) 25 rfl rfl hHeld ?_
  simp only [pS]
  refine tz (i := 18) 26 rfl rfl hHeld ?_
  simp only [pS]
  refine tz (i := 19) 27 rfl rfl hHeld ?_
  simp only [pS]
  refine tz (i := 20) 28 rfl rfl hHeld ?_
  simp only [pS]
  refine tz (i := 21) 29 rfl rfl hHeld ?_
  simp only [pS]
  refine tz (i := 22) 30 rfl rfl hHeld ?_
  simp only [pS]
  refine tz (i := 23) 31 rfl rfl hHeld ?_
  simp only [pS]
  refine tz (i := 24) 32 rfl rfl hHeld ?_
  simp only [pS]
  refine tk (i := 25) 33 (v := (Value.bool false)) rfl rfl ?_ hHeld ?_
  · (intro w hSw; (try dsimp only at hSw); go_simp)
  simp only [pS]
  refine tz (i := 26) 34 rfl rfl hHeld ?_
  simp only [pS]
  refine wpAnyH_done (by kernel_rfl) ?_ _
  refine NoPanic.normal ?_
  have hb2 := hHeld
  have HB2 : Hid _ := hb2
  clear hu5 hHeld
  go_wp2_with fail
  refine wp_region_noPanic ?_
  refine wp_region_held_drew (S := (fun u => Below w1.heap.size w1 u)) (by kernel_rfl) (by first | exact hb2.drew | assumption | exact hb2.drew.alloc hb2.size _ | exact (hb2.alloc hb2.size _).drew | exact HB3.out) (fun hHeld => ?_)
  refine tz (i := 0) 37 rfl rfl hHeld ?_
  simp only [pS]
  refine tz (i := 1) 38 rfl rfl hHeld ?_
  simp only [pS]
  refine tz (i := 2) 39 rfl rfl hHeld ?_
  simp only [pS]
  refine tz (i := 3) 40 rfl rfl hHeld ?_
  simp only [pS]
  refine tz (i := 4) 41 rfl rfl hHeld ?_
  simp only [pS]
  refine tz (i := 5) 42 rfl rfl hHeld ?_
  simp only [pS]
  refine tz (i := 6) 43 rfl rfl hHeld ?_
  simp only [pS]
  refine tz (i := 7) 36 rfl rfl hHeld ?_
  simp only [pS]
  refine tz (i := 8) 44 rfl rfl hHeld ?_
  simp only [pS]
  refine tz (i := 9) 45 rfl rfl hHeld ?_
  simp only [pS]
  refine run_at (i := 10) rfl (by kernel_rfl) (by rfl) (fun K hK => ?_)
  simp only [List.getElem_toArray, List.getElem_cons_zero, List.getElem_cons_succ]
  go_simp
  go_wp2_with fail
  refine hK.out _ _ (by first | exact hb2.drew | assumption | exact hb2.drew.alloc hb2.size _ | exact (hb2.alloc hb2.size _).drew | exact HB3.out) ?_
  clear hK K
  intro hHeld2
  clear hHeld
  have hHeld := hHeld2
  clear hHeld2
  try simp only [pS]
  refine run_at (i := 11) rfl (by kernel_rfl) (by rfl) (fun K hK => ?_)
  simp only [List.getElem_toArray, List.getElem_cons_zero, List.getElem_cons_succ]
  (refine wp_store_row tSn _ _ rfl u5.heap.size #[.int .i64 0, .int .u64 0, .int .u64 0] (by rfl) (by rfl) tSn _ (heap_alloc_new u5 _) infoSx rfl (ses_onx _ _ _) ?_; have HB3 : Hid _ := below_setRow (B := w1.heap.size) (w0 := w1) (hb2.alloc hb2.size (.cells #[.int .i64 0, .int .u64 0, .int .u64 0] tSn)).drew hb2.size #[.int .i64 0, .int .u64 0, .int .u64 0])
  refine hK.out _ _ (by first | exact hb2.drew | assumption | exact hb2.drew.alloc hb2.size _ | exact (hb2.alloc hb2.size _).drew | exact HB3.out) ?_
  clear hK K
  intro hHeld2
  clear hHeld
  have hHeld := hHeld2
  clear hHeld2
  try simp only [pS]
  refine tz (i := 12) 7 rfl rfl hHeld ?_
  simp only [pS]
  refine wpAnyH_done (by kernel_rfl) ?_ _
  refine NoPanic.normal ?_
  clear hHeld hlk
  obtain ⟨w4, hw4⟩ : ∃ w4, w4 = ((u5.alloc (.cells #[.int .i64 0, .int .u64 0, .int .u64 0] tSn)).drew).setRow u5.heap.size #[.int .i64 0, .int .u64 0, .int .u64 0] := ⟨_, rfl⟩
  have hb4 : Below w1.heap.size w1 w4 := by rw [hw4]; exact HB3.out
  rw [← hw4]
  have HB4 : Hid _ := hb4
  clear hw4 hb2 HB3
  have hb5 : Below w1.heap.size w1 w4 := hb4
  have hd2 := (hb5.block _ (Array.getElem?_eq_some_iff.1 HD1.out).1).trans HD1.out
  have c0 : w4.cell? ⟨w.heap.size + 1, 0, none⟩ = some (.int .i64 0) := by rw [cell_of_row _ _ _ _ _ _ hd2]; rfl
  have c1 : w4.cell? ⟨w.heap.size + 1, 1, none⟩ = some (.int .u64 0) := by rw [cell_of_row _ _ _ _ _ _ hd2]; rfl
  have c2 : w4.cell? ⟨w.heap.size + 1, 2, none⟩ = some (.int .i64 0) := by rw [cell_of_row _ _ _ _ _ _ hd2]; rfl
  have f0 : w4.frozen? ⟨w.heap.size + 1, 0, none⟩ = false := by simp [World.frozen?, hd2]
  have f1 : w4.frozen? ⟨w.heap.size + 1, 1, none⟩ = false := by simp [World.frozen?, hd2]
  have f2 : w4.frozen? ⟨w.heap.size + 1, 2, none⟩ = false := by simp [World.frozen?, hd2]
  have HB5 : Hid (Below w.heap.size w w4) := HX.out _ hb5
  clear hb4 hb5 hd2 hsh
  go_wp2
  exact bodyPost_ret (v := .tuple #[.agg #[.int .i64 0, .int .u64 0, .int .i64 0], .bool false]) (by simp [results, Tryz.results13, go_sem, c0, c1, c2, f0, f1, f2]) rfl ⟨rfl, ((HB5.out.setCell (p := ⟨w.heap.size + 1, 0, none⟩) (Nat.le_succ _) _).setCell (p := ⟨w.heap.size + 1, 1, none⟩) (Nat.le_succ _) _).setCell (p := ⟨w.heap.size + 1, 2, none⟩) (Nat.le_succ _) _⟩
set_option maxRecDepth 20000 in
set_option maxHeartbeats 1600000 in
theorem xhear_in (h : XSt w p ms mn pw mw V s) (x : Xe) (hxm : x ∈ s.L) (cd : Int) (pt ix c : Int) (da : Option Addr) (dn dc : Nat) (ga : Option Addr) (gn gc : Nat) (l : List Rg) (hn : gn = l.length) (hx : RdR w ga l) (hl : gn ≤ 8796093022208) (hc : gn ≤ gc) (hv : validR 2 (s.ep : Int) (x.n : Int) pt ix c dn cd gn l) (hcd : ¬ cd = 0) :
    Calls Tryz.prog 13 #[.pointer (some ⟨p, 0, none⟩), .agg (ucl 2 (s.ep : Int) (x.n : Int) pt ix c da dn dc cd ga gn gc)] w fun e9 w' => e9 = .returned (.tuple #[doneV x.k.1 (x.k.2 : Int) cd, .bool true]) ∧ ∃ V', XSt w' p ms mn pw mw V' { s with L := dropX s.L x.n } ∧ XStp w w' p ms mn pw mw V V' := by
  obtain ⟨w1, hw1⟩ : ∃ w1, w1 = (w.alloc (.cells (ucl 2 (s.ep : Int) (x.n : Int) pt ix c da dn dc cd ga gn gc) tUn)).alloc (.cells #[.int .i64 0, .int .u64 0, .int .i64 0] tDo) := ⟨_, rfl⟩
  obtain ⟨hb1, hsz1, hu1, hd1⟩ := hboxes w _ w1 hw1
  have HM : Hid (∀ u, Below w1.heap.size w1 u → Calls _ _ _ u _) := fun u hu => xmade_t ((h.below hb1).below hu)
  have hsh : ∀ u, Below w1.heap.size w1 u → u.cell? ⟨w.heap.size, 0, none⟩ = some (.int .i64 2) ∧ u.cell? ⟨w.heap.size, 1, none⟩ = some (.int .u64 (s.ep : Int)) ∧ u.cell? ⟨w.heap.size, 2, none⟩ = some (.int .u64 (x.n : Int)) ∧ u.cell? ⟨w.heap.size, 3, none⟩ = some (.int .i64 pt) ∧ u.cell? ⟨w.heap.size, 4, none⟩ = some (.int .i64 ix) ∧ u.cell? ⟨w.heap.size, 5, none⟩ = some (.int .i64 c) ∧ u.cell? ⟨w.heap.size, 6, none⟩ = some (.slice da dn dc) ∧ u.cell? ⟨w.heap.size, 7, none⟩ = some (.int .i64 cd) ∧ u.cell? ⟨w.heap.size, 8, none⟩ = some (.slice ga gn gc) ∧ u.cell? ⟨p, 2, none⟩ = some (.int .u64 (s.ep : Int)) ∧ u.cell? ⟨p, 5, none⟩ = some (.map (some ms)) := fun u hu => by
    have h9 := (hu.block _ (Array.getElem?_eq_some_iff.1 hu1).1).trans hu1
    have h8 := (h.below hb1).below hu
    refine ⟨?_, ?_, ?_, ?_, ?_, ?_, ?_, ?_, ?_, ?_, ?_⟩
    all_goals first | (rw [cell_of_row _ _ _ _ _ _ h9]; rfl) | exact h8.cell 2 | exact h8.cell 5
  have HV : Hid (∀ u, Below w1.heap.size w1 u → Calls Tryz.prog 33 #[.agg (ucl 2 (s.ep : Int) (x.n : Int) pt ix c da dn dc cd ga gn gc)] u fun e w' => e = .returned (.int .i64 0) ∧ Below u.heap.size u w') := fun u hu => by
    have h9 := valid_t 2 (s.ep : Int) (x.n : Int) pt ix c da dn dc cd ga gn gc l true (by simp; exact hv) u hn (hx.below (hb1.trans (hu.mono hb1.size))) hl hc
    simpa using h9
  have hlk : ∀ u, Below w1.heap.size w1 u → (Instr.lookup tMs (.map (some ms)) (.int .u64 (x.n : Int)) true).run Tryz.prog u = .ok (.tuple #[.agg #[.int .i64 x.k.1, .int .u64 (x.k.2 : Int), .int .u64 (x.o : Int)], .bool true]) u := fun u hu => lookS_in (h.below hb1).se h.inv.nn hxm (by have := (h.inv.num x hxm).2; unfold mxX at this; omega) u (hu.block ms (h.below hb1).se.lt)
  have HE : Hid (∀ u, Below w1.heap.size w1 u → Calls _ _ _ u _) := fun u hu => end_t ((h.below hb1).below hu) x hxm
  have HU1 : Hid _ := hu1
  have HSZ1 : Hid _ := hsz1
  have HB1 : Hid _ := hb1
  have HD1 : Hid _ := hd1
  have HX0 : Hid _ := h
  have HW1 : Hid (w1 = _) := hw1
  have HX : Hid (∀ u, Below w1.heap.size w1 u → Below w.heap.size w u) := fun u hu => hb1.trans (hu.mono hb1.size)
  clear h hb1 hw1 hd1 hu1 hsz1 hn hx hl hc hv hxm
  go_enter Tryz.func13, Tryz.ntmps13
  go_wp2_with fail
  rw [← HW1.out]
  refine wp_region_noPanic ?_
  refine wp_region_held_drew (S := (fun u => Below w1.heap.size w1 u)) (by kernel_rfl) (by first | exact (Below.refl _ _).drew | assumption | exact below_next (by assumption) (by assumption)) (fun hHeld => ?_)
  refine tz (i := 0) 8 rfl rfl hHeld ?_
  simp only [pS]
  refine run_at (i := 1) rfl (by kernel_rfl) (by rfl) (fun K hK => ?_)
  simp only [List.getElem_toArray, List.getElem_cons_zero, List.getElem_cons_succ]
  go_simp
  (first | (go_at_call 26; refine Calls.mono (HM.out _ (by assumption)) ?_; rintro e9 u4 ⟨rfl, hu4⟩; subst hu4) | (go_at_call 33; refine Calls.mono (HV.out _ (by assumption)) ?_; rintro e9 u5 ⟨rfl, hu5⟩))
  go_wp2_with fail
  refine hK.out _ _ (by first | exact (Below.refl _ _).drew | assumption | exact below_next (by assumption) (by assumption)) ?_
  clear hK K
  intro hHeld2
  clear hHeld
  have hHeld := hHeld2
  clear hHeld2
  try simp only [pS]
  refine tz (i := 2) 10 rfl rfl hHeld ?_
  simp only [pS]
  refine tz (i := 3) 11 rfl rfl hHeld ?_
  simp only [pS]
  refine tz (i := 4) 12 rfl rfl hHeld ?_
  simp only [pS]
  refine tz (i := 5) 13 rfl rfl hHeld ?_
  simp only [pS]
  refine tz (i := 6) 14 rfl rfl hHeld ?_
  simp only [pS]
  refine tz (i := 7) 15 rfl rfl hHeld ?_
  simp only [pS]
  refine tz (i := 8) 16 rfl rfl hHeld ?_
  simp only [pS]
  refine tz (i := 9) 17 rfl rfl hHeld ?_
  simp only [pS]
  refine run_at (i := 10) rfl (by kernel_rfl) (by rfl) (fun K hK => ?_)
  simp only [List.getElem_toArray, List.getElem_cons_zero, List.getElem_cons_succ]
  go_simp
  (first | (go_at_call 26; refine Calls.mono (HM.out _ (by assumption)) ?_; rintro e9 u4 ⟨rfl, hu4⟩; subst hu4) | (go_at_call 33; refine Calls.mono (HV.out _ (by assumption)) ?_; rintro e9 u5 ⟨rfl, hu5⟩))
  go_wp2_with fail
  refine hK.out _ _ (by first | exact (Below.refl _ _).drew | assumption | exact below_next (by assumption) (by assumption)) ?_
  clear hK K
  intro hHeld2
  clear hHeld
  have hHeld := hHeld2
  clear hHeld2
  try simp only [pS]
  refine tz (i := 11) 19 rfl rfl hHeld ?_
  simp only [pS]
  refine tz (i := 12) 20 rfl rfl hHeld ?_
  simp only [pS]
  refine tz (i := 13) 21 rfl rfl hHeld ?_
  simp only [pS]
  refine tz (i := 14) 22 rfl rfl hHeld ?_
  simp only [pS]
  refine tz (i := 15) 23 rfl rfl hHeld ?_
  simp only [pS]
  refine tz (i := 16) 24 rfl rfl hHeld ?_
  simp only [pS]
  refine tz (i := 17) 25 rfl rfl hHeld ?_
  simp only [pS]
  refine tz (i := 18) 26 rfl rfl hHeld ?_
  simp only [pS]
  refine tz (i := 19) 27 rfl rfl hHeld ?_
  simp only [pS]
  refine tz (i := 20) 28 rfl rfl hHeld ?_
  simp only [pS]
  refine tz (i := 21) 29 rfl rfl hHeld ?_
  simp only [pS]
  refine tz (i := 22) 30 rfl rfl hHeld ?_
  simp only [pS]
  refine tz (i := 23) 31 rfl rfl hHeld ?_
  simp only [pS]
  refine tz (i := 24) 32 rfl rfl hHeld ?_
  simp only [pS]
  refine tk (i := 25) 33 (v := (Value.bool false)) rfl rfl ?_ hHeld ?_
  · (intro w hSw; (try dsimp only at hSw); go_simp)
  simp only [pS]
  refine tz (i := 26) 34 rfl rfl hHeld ?_
  simp only [pS]
  refine wpAnyH_done (by kernel_rfl) ?_ _
  refine NoPanic.normal ?_
  have hb2 := hHeld
  have HB2 : Hid _ := hb2
  clear hu5 hHeld
  go_wp2_with fail
  refine wp_region_noPanic ?_
  refine wp_region_held_drew (S := (fun u => Below w1.heap.size w1 u)) (by kernel_rfl) (by first | exact hb2.drew | assumption | exact hb2.drew.alloc hb2.size _ | exact (hb2.alloc hb2.size _).drew | exact HB3.out) (fun hHeld => ?_)
  refine tz (i := 0) 37 rfl rfl hHeld ?_
  simp only [pS]
  refine tz (i := 1) 38 rfl rfl hHeld ?_
  simp only [pS]
  refine tz (i := 2) 39 rfl rfl hHeld ?_
  simp only [pS]
  refine tz (i := 3) 40 rfl rfl hHeld ?_
  simp only [pS]
  refine tz (i := 4) 41 rfl rfl hHeld ?_
  simp only [pS]
  refine tz (i := 5) 42 rfl rfl hHeld ?_
  simp only [pS]
  refine tz (i := 6) 43 rfl rfl hHeld ?_
  simp only [pS]
  refine tz (i := 7) 36 rfl rfl hHeld ?_
  simp only [pS]
  refine tz (i := 8) 44 rfl rfl hHeld ?_
  simp only [pS]
  refine tz (i := 9) 45 rfl rfl hHeld ?_
  simp only [pS]
  refine run_at (i := 10) rfl (by kernel_rfl) (by rfl) (fun K hK => ?_)
  simp only [List.getElem_toArray, List.getElem_cons_zero, List.getElem_cons_succ]
  go_simp
  go_wp2_with fail
  refine hK.out _ _ (by first | exact hb2.drew | assumption | exact hb2.drew.alloc hb2.size _ | exact (hb2.alloc hb2.size _).drew | exact HB3.out) ?_
  clear hK K
  intro hHeld2
  clear hHeld
  have hHeld := hHeld2
  clear hHeld2
  try simp only [pS]
  refine run_at (i := 11) rfl (by kernel_rfl) (by rfl) (fun K hK => ?_)
  simp only [List.getElem_toArray, List.getElem_cons_zero, List.getElem_cons_succ]
  (refine wp_store_row tSn _ _ rfl u5.heap.size #[.int .i64 x.k.1, .int .u64 (x.k.2 : Int), .int .u64 (x.o : Int)] (by rfl) (by rfl) tSn _ (heap_alloc_new u5 _) infoSx rfl (ses_onx _ _ _) ?_; have HB3 : Hid _ := below_setRow (B := w1.heap.size) (w0 := w1) (hb2.alloc hb2.size (.cells #[.int .i64 0, .int .u64 0, .int .u64 0] tSn)).drew hb2.size #[.int .i64 x.k.1, .int .u64 (x.k.2 : Int), .int .u64 (x.o : Int)])
  refine hK.out _ _ (by first | exact hb2.drew | assumption | exact hb2.drew.alloc hb2.size _ | exact (hb2.alloc hb2.size _).drew | exact HB3.out) ?_
  clear hK K
  intro hHeld2
  clear hHeld
  have hHeld := hHeld2
  clear hHeld2
  try simp only [pS]
  refine tz (i := 12) 7 rfl rfl hHeld ?_
  simp only [pS]
  refine wpAnyH_done (by kernel_rfl) ?_ _
  refine NoPanic.normal ?_
  clear hHeld hlk
  obtain ⟨w4, hw4⟩ : ∃ w4, w4 = ((u5.alloc (.cells #[.int .i64 0, .int .u64 0, .int .u64 0] tSn)).drew).setRow u5.heap.size #[.int .i64 x.k.1, .int .u64 (x.k.2 : Int), .int .u64 (x.o : Int)] := ⟨_, rfl⟩
  have hb4 : Below w1.heap.size w1 w4 := by rw [hw4]; exact HB3.out
  rw [← hw4]
  have HB4 : Hid _ := hb4
  clear hw4 hb2 HB3
  have HSZ4 : Hid (w1.heap.size ≤ w4.heap.size) := hb4.size
  have HUB : Hid (w4.drew.heap[w.heap.size]? = _) := (hb4.drew.block _ (Array.getElem?_eq_some_iff.1 HU1.out).1).trans HU1.out
  have HDB : Hid (w4.drew.heap[w.heap.size + 1]? = _) := (hb4.drew.block _ (Array.getElem?_eq_some_iff.1 HD1.out).1).trans HD1.out
  have HE4 : Hid _ := HE.out _ hb4.drew
  have HFT : Hid (∀ b, footX p ms mn pw mw V b → b < w.heap.size) := fun b hb => HX0.out.lt hb
  have hbx : ∀ u : World, u.heap[w.heap.size]? = some (.cells (ucl 2 (s.ep : Int) (x.n : Int) pt ix c da dn dc cd ga gn gc) tUn (0, 0)) → u.cell? ⟨w.heap.size, 2, none⟩ = some (.int .u64 (x.n : Int)) ∧ u.cell? ⟨w.heap.size, 7, none⟩ = some (.int .i64 cd) := fun u hu => ⟨by rw [cell_of_row _ _ _ _ _ _ hu]; rfl, by rw [cell_of_row _ _ _ _ _ _ hu]; rfl⟩
  clear hb4 hsh
  go_wp2_with fail
  refine wp_region_noPanic ?_
  refine wp_region_held_drew (S := (fun u => u.heap[w.heap.size]? = some (.cells (ucl 2 (s.ep : Int) (x.n : Int) pt ix c da dn dc cd ga gn gc) tUn (0, 0)))) (by kernel_rfl) (by first | exact HUB.out | assumption | exact HU7.out | exact HU8.out) (fun hHeld => ?_)
  refine tz (i := 0) 49 rfl rfl hHeld ?_
  simp only [pS]
  refine tz (i := 1) 50 rfl rfl hHeld ?_
  simp only [pS]
  refine tz (i := 2) 51 rfl rfl hHeld ?_
  simp only [pS]
  refine tz (i := 4) 53 rfl rfl hHeld ?_
  simp only [pS]
  refine tz (i := 5) 54 rfl rfl hHeld ?_
  simp only [pS]
  refine run_at (i := 3) rfl (by kernel_rfl) (by rfl) (fun K hK => ?_)
  simp only [List.getElem_toArray, List.getElem_cons_zero, List.getElem_cons_succ]
  go_simp
  (go_at_call 34; refine Calls.mono HE4.out ?_; rintro e9 w7 ⟨rfl, V', hx7, hst7⟩; have HU7 : Hid (w7.heap[w.heap.size]? = _) := (hst7.chg.block w.heap.size (Array.getElem?_eq_some_iff.1 HUB.out).1 (fun e => Nat.lt_irrefl _ (HFT.out _ e))).trans HUB.out; have HD7 : Hid (w7.heap[w.heap.size + 1]? = _) := (hst7.chg.block (w.heap.size + 1) (Array.getElem?_eq_some_iff.1 HDB.out).1 (fun e => by have := HFT.out _ e; omega)).trans HDB.out; have HX7 : Hid _ := hx7; have HS7 : Hid _ := hst7; clear hx7 hst7)
  go_wp2_with fail
  refine hK.out _ _ (by first | exact HUB.out | assumption | exact HU7.out | exact HU8.out) ?_
  clear hK K
  intro hHeld2
  clear hHeld
  have hHeld := hHeld2
  clear hHeld2
  try simp only [pS]
  refine tz (i := 6) 55 rfl rfl hHeld ?_
  simp only [pS]
  refine run_at (i := 7) rfl (by kernel_rfl) (by rfl) (fun K hK => ?_)
  simp only [List.getElem_toArray, List.getElem_cons_zero, List.getElem_cons_succ]
  (refine wp_store_row tDo _ _ rfl (w.heap.size + 1) #[.int .i64 x.k.1, .int .u64 (x.k.2 : Int), .int .i64 cd] (by rfl) (by rfl) tDo _ HD7.out infoDx rfl (done_onx _ _ _) ?_; have HU8 : Hid ((w7.setRow (w.heap.size + 1) #[.int .i64 x.k.1, .int .u64 (x.k.2 : Int), .int .i64 cd]).heap[w.heap.size]? = _) := ((grown_sr w7 (w.heap.size + 1) #[.int .i64 x.k.1, .int .u64 (x.k.2 : Int), .int .i64 cd]).block w.heap.size (Array.getElem?_eq_some_iff.1 HU7.out).1 (fun e => by have := Option.some.inj e; omega)).trans HU7.out; have HD8 : Hid _ := setRow_heap w7 (w.heap.size + 1) _ #[.int .i64 x.k.1, .int .u64 (x.k.2 : Int), .int .i64 cd] tDo _ HD7.out)
  refine hK.out _ _ (by first | exact HUB.out | assumption | exact HU7.out | exact HU8.out) ?_
  clear hK K
  intro hHeld2
  clear hHeld
  have hHeld := hHeld2
  clear hHeld2
  try simp only [pS]
  refine tz (i := 8) 5 rfl rfl hHeld ?_
  simp only [pS]
  refine wpAnyH_done (by kernel_rfl) ?_ _
  refine NoPanic.normal ?_
  clear hHeld hbx
  go_wp2
  refine bodyPost_ret (v := .tuple #[doneV x.k.1 (x.k.2 : Int) cd, .bool true]) (by have h9 := HD8.out; simp [results, Tryz.results13, go_sem, cell_of_row _ _ _ _ _ _ h9]) rfl ⟨rfl, V', ?_, ?_⟩
  · refine HX7.out.chg (Chg.of_grown (F := fun b => b = w.heap.size + 1) (grown_sr _ _ _) (fun b e => (Option.some.inj e).symm)) (fun b hb e => ?_)
    rcases HS7.out.new b hb with h1 | h1
    · have := HFT.out _ h1; omega
    · have : w4.heap.size ≤ b := h1; have := HSZ4.out; have := HSZ1.out; omega
  · have h1 := (XStp.below (HX.out _ HB4.out) p ms mn pw mw V).trans ((XStp.below (Below.refl w4.heap.size w4).drew p ms mn pw mw V).trans HS7.out)
    refine ⟨h1.chg.trans (Chg.of_grown (F := fun b => b = w.heap.size + 1) (grown_sr _ _ _) (fun b e => (Option.some.inj e).symm)) (fun b hb => .inr (by omega)), h1.new⟩
end
end Go.Proofs.YtiedgcanndgmoaaGreatDoor
