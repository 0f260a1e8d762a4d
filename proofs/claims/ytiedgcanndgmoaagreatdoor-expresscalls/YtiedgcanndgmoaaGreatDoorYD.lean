import Derived.Test.YtiedgcanndgmoaaGreatDoorYC
import Derived.Test.YtiedgcanndgmoaaGreatDoorXHe
import Derived.Test.YtiedgcanndgmoaaGreatDoorUW
namespace Go.Proofs.YtiedgcanndgmoaaGreatDoor
set_option linter.unusedVariables false
set_option linter.unusedSimpArgs false
open Go.RowKit Go.Maps
theorem infoD3 : (Tryz.prog.info? tDo).map (·.size) = some 3 := by kernel_rfl
theorem done_one (a b c : Int) : (#[Value.int .i64 a, Value.int .u64 b, Value.int .i64 c] : Array Value).all (·.oneCell') = true := by simp [Value.oneCell']
section
variable {w w' : World} {q : Nat} {v : Value} {X : Value × Value × Value × Value} {s : Xs}
set_option maxRecDepth 20000 in
set_option maxHeartbeats 3200000 in
theorem rhear_bad (h : Rx w q v X s) (z : Nat) (k e cd pt ix c : Int) (da : Option Addr) (dn dc : Nat) (ga : Option Addr) (gn gc : Nat) (l : List Rg) (hn : gn = l.length) (hx : RdR w ga l) (hl : gn ≤ 8796093022208) (hv : ¬ validR k e (z : Int) pt ix c dn cd gn l) :
    Calls Tryz.prog 42 #[.pointer (some ⟨q, 0, none⟩), .agg (ucl k e (z : Int) pt ix c da dn dc cd ga gn gc)] w fun e9 w' => e9 = .returned (.tuple #[doneV 0 0 0, .bool false]) ∧ Below w.heap.size w w' := by
  obtain ⟨w1, hw1⟩ : ∃ w1, w1 = (w.alloc (.cells (ucl k e (z : Int) pt ix c da dn dc cd ga gn gc) tUn)).alloc (.cells #[.int .i64 0, .int .u64 0, .int .i64 0] tDo) := ⟨_, rfl⟩
  obtain ⟨hb1, hsz1, hu1, hd1⟩ := hboxes w _ w1 hw1
  have hsh : ∀ u, Below w1.heap.size w1 u → u.cell? ⟨w.heap.size, 0, none⟩ = some (.int .i64 k) ∧ u.cell? ⟨w.heap.size, 1, none⟩ = some (.int .u64 e) ∧ u.cell? ⟨w.heap.size, 2, none⟩ = some (.int .u64 (z : Int)) ∧ u.cell? ⟨w.heap.size, 3, none⟩ = some (.int .i64 pt) ∧ u.cell? ⟨w.heap.size, 4, none⟩ = some (.int .i64 ix) ∧ u.cell? ⟨w.heap.size, 5, none⟩ = some (.int .i64 c) ∧ u.cell? ⟨w.heap.size, 6, none⟩ = some (.slice da dn dc) ∧ u.cell? ⟨w.heap.size, 7, none⟩ = some (.int .i64 cd) ∧ u.cell? ⟨w.heap.size, 8, none⟩ = some (.slice ga gn gc) ∧ u.cell? ⟨q, 6, none⟩ = some (.int .u64 (s.ep : Int)) ∧ u.cell? ⟨q, 8, none⟩ = some v := fun u hu => by
    have h9 := (hu.block _ (Array.getElem?_eq_some_iff.1 hu1).1).trans hu1
    have h8 := (h.below hb1).below hu
    refine ⟨?_, ?_, ?_, ?_, ?_, ?_, ?_, ?_, ?_, ?_, ?_⟩
    all_goals first | (rw [cell_of_row _ _ _ _ _ _ h9]; rfl) | exact h8.cell 6 | exact h8.cell 8
  have HV : Hid (∀ u, Below w1.heap.size w1 u → Calls Tryz.prog 64 #[.agg (ucl k e (z : Int) pt ix c da dn dc cd ga gn gc)] u fun e w' => e = .returned (.int .i64 30) ∧ Below u.heap.size u w') := fun u hu => by
    have h9 := rvalid_t k e (z : Int) pt ix c da dn dc cd ga gn gc l false (by simp; exact hv) u hn (hx.below (hb1.trans (hu.mono hb1.size))) hl
    simpa using h9
  have HNU : Hid _ := rnumbered_t (h.below hb1) z
  have hsh1 := hsh w1 (Below.refl _ _)
  have HB1 : Hid _ := hb1
  have HD1 : Hid _ := hd1
  have HH : Hid _ := h
  have HW1 : Hid (w1 = _) := hw1
  have HX : Hid (∀ u, Below w1.heap.size w1 u → Below w.heap.size w u) := fun u hu => hb1.trans (hu.mono hb1.size)
  clear h hb1 hw1 hd1 hu1 hsz1 hn hx hl hv 
  go_enter Tryz.func42, Tryz.ntmps42
  go_wp2_with fail
  rw [← HW1.out]
  refine Calls.mono HNU.out ?_
  rintro e8 w8 ⟨hf, hq⟩
  have hq := hq.symm
  subst hq
  rcases hf with ⟨j, hj, hje, rfl⟩ | ⟨hno, rfl⟩
  · have hj0 : ¬ (j : Int) < 0 := by omega
    clear hj hje
    go_wp2_with fail
    refine wp_region_noPanic ?_
    refine wp_region_held_drew (S := (fun u => Below w1.heap.size w1 u)) (by kernel_rfl) (by first | exact (Below.refl _ _).drew | assumption | exact below_next (by assumption) (by assumption)) (fun hHeld => ?_)
    refine tz (i := 0) 12 rfl rfl hHeld ?_
    simp only [pS]
    refine run_at (i := 1) rfl (by kernel_rfl) (by rfl) (fun K hK => ?_)
    simp only [List.getElem_toArray, List.getElem_cons_zero, List.getElem_cons_succ]
    go_simp
    (go_at_call 64; refine Calls.mono (HV.out _ (by assumption)) ?_; rintro e9 u5 ⟨rfl, hu5⟩)
    go_wp2_with fail
    refine hK.out _ _ (by first | exact (Below.refl _ _).drew | assumption | exact below_next (by assumption) (by assumption)) ?_
    clear hK K
    intro hHeld2
    clear hHeld
    have hHeld := hHeld2
    clear hHeld2
    try simp only [pS]
    refine tz (i := 2) 14 rfl rfl hHeld ?_
    simp only [pS]
    refine tz (i := 3) 15 rfl rfl hHeld ?_
    simp only [pS]
    refine skip_at (i := 4) 16 rfl rfl (by kernel_rfl) (by kernel_rfl) (by kernel_rfl) (fun _ _ _ h => h) (by rfl) hHeld ?_
    simp only [pS]
    refine skip_at (i := 5) 17 rfl rfl (by kernel_rfl) (by kernel_rfl) (by kernel_rfl) (fun _ _ _ h => h) (by rfl) hHeld ?_
    simp only [pS]
    refine skip_at (i := 6) 18 rfl rfl (by kernel_rfl) (by kernel_rfl) (by kernel_rfl) (fun _ _ _ h => h) (by rfl) hHeld ?_
    simp only [pS]
    refine tz (i := 7) 19 rfl rfl hHeld ?_
    simp only [pS]
    refine tz (i := 8) 20 rfl rfl hHeld ?_
    simp only [pS]
    refine skip_at (i := 9) 21 rfl rfl (by kernel_rfl) (by kernel_rfl) (by kernel_rfl) (fun _ _ _ h => h) (by rfl) hHeld ?_
    simp only [pS]
    refine skip_at (i := 10) 22 rfl rfl (by kernel_rfl) (by kernel_rfl) (by kernel_rfl) (fun _ _ _ h => h) (by rfl) hHeld ?_
    simp only [pS]
    refine skip_at (i := 11) 23 rfl rfl (by kernel_rfl) (by kernel_rfl) (by kernel_rfl) (fun _ _ _ h => h) (by rfl) hHeld ?_
    simp only [pS]
    refine skip_at (i := 12) 24 rfl rfl (by kernel_rfl) (by kernel_rfl) (by kernel_rfl) (fun _ _ _ h => h) (by rfl) hHeld ?_
    simp only [pS]
    refine skip_at (i := 13) 25 rfl rfl (by kernel_rfl) (by kernel_rfl) (by kernel_rfl) (fun _ _ _ h => h) (by rfl) hHeld ?_
    simp only [pS]
    refine skip_at (i := 14) 26 rfl rfl (by kernel_rfl) (by kernel_rfl) (by kernel_rfl) (fun _ _ _ h => h) (by rfl) hHeld ?_
    simp only [pS]
    refine skip_at (i := 15) 27 rfl rfl (by kernel_rfl) (by kernel_rfl) (by kernel_rfl) (fun _ _ _ h => h) (by rfl) hHeld ?_
    simp only [pS]
    refine tz (i := 16) 28 rfl rfl hHeld ?_
    simp only [pS]
    refine tz (i := 17) 29 rfl rfl hHeld ?_
    simp only [pS]
    refine skip_at (i := 18) 30 rfl rfl (by kernel_rfl) (by kernel_rfl) (by kernel_rfl) (fun _ _ _ h => h) (by rfl) hHeld ?_
    simp only [pS]
    refine skip_at (i := 19) 31 rfl rfl (by kernel_rfl) (by kernel_rfl) (by kernel_rfl) (fun _ _ _ h => h) (by rfl) hHeld ?_
    simp only [pS]
    refine tz (i := 20) 32 rfl rfl hHeld ?_
    simp only [pS]
    refine tz (i := 21) 33 rfl rfl hHeld ?_
    simp only [pS]
    refine skip_at (i := 22) 34 rfl rfl (by kernel_rfl) (by kernel_rfl) (by kernel_rfl) (fun _ _ _ h => h) (by rfl) hHeld ?_
    simp only [pS]
    refine skip_at (i := 23) 35 rfl rfl (by kernel_rfl) (by kernel_rfl) (by kernel_rfl) (fun _ _ _ h => h) (by rfl) hHeld ?_
    simp only [pS]
    refine skip_at (i := 24) 36 rfl rfl (by kernel_rfl) (by kernel_rfl) (by kernel_rfl) (fun _ _ _ h => h) (by rfl) hHeld ?_
    simp only [pS]
    refine tz (i := 25) 37 rfl rfl hHeld ?_
    simp only [pS]
    refine wpAnyH_done (by kernel_rfl) ?_ _
    refine NoPanic.normal ?_
    have hb2 := hHeld
    clear hu5 hsh hsh1
    have hd2 := (hb2.block _ (Array.getElem?_eq_some_iff.1 HD1.out).1).trans HD1.out
    have c0 : u5.cell? ⟨w.heap.size + 1, 0, none⟩ = some (.int .i64 0) := by rw [cell_of_row _ _ _ _ _ _ hd2]; rfl
    have c1 : u5.cell? ⟨w.heap.size + 1, 1, none⟩ = some (.int .u64 0) := by rw [cell_of_row _ _ _ _ _ _ hd2]; rfl
    have c2 : u5.cell? ⟨w.heap.size + 1, 2, none⟩ = some (.int .i64 0) := by rw [cell_of_row _ _ _ _ _ _ hd2]; rfl
    have f0 : u5.frozen? ⟨w.heap.size + 1, 0, none⟩ = false := by simp [World.frozen?, hd2]
    have f1 : u5.frozen? ⟨w.heap.size + 1, 1, none⟩ = false := by simp [World.frozen?, hd2]
    have f2 : u5.frozen? ⟨w.heap.size + 1, 2, none⟩ = false := by simp [World.frozen?, hd2]
    have HB2 : Hid (Below w.heap.size w u5) := HX.out _ hb2
    clear hb2 hd2 hHeld
    go_wp2
    exact bodyPost_ret (v := .tuple #[.agg #[.int .i64 0, .int .u64 0, .int .i64 0], .bool false]) (by simp [results, Tryz.results42, go_sem, c0, c1, c2, f0, f1, f2]) rfl ⟨rfl, ((HB2.out.setCell (p := ⟨w.heap.size + 1, 0, none⟩) (Nat.le_succ _) _).setCell (p := ⟨w.heap.size + 1, 1, none⟩) (Nat.le_succ _) _).setCell (p := ⟨w.heap.size + 1, 2, none⟩) (Nat.le_succ _) _⟩
  · clear hno
    go_wp2_with fail
    refine wp_region_noPanic ?_
    refine wp_region_held_drew (S := (fun u => Below w1.heap.size w1 u)) (by kernel_rfl) (by first | exact (Below.refl _ _).drew | assumption | exact below_next (by assumption) (by assumption)) (fun hHeld => ?_)
    refine tz (i := 0) 12 rfl rfl hHeld ?_
    simp only [pS]
    refine run_at (i := 1) rfl (by kernel_rfl) (by rfl) (fun K hK => ?_)
    simp only [List.getElem_toArray, List.getElem_cons_zero, List.getElem_cons_succ]
    go_simp
    (go_at_call 64; refine Calls.mono (HV.out _ (by assumption)) ?_; rintro e9 u5 ⟨rfl, hu5⟩)
    go_wp2_with fail
    refine hK.out _ _ (by first | exact (Below.refl _ _).drew | assumption | exact below_next (by assumption) (by assumption)) ?_
    clear hK K
    intro hHeld2
    clear hHeld
    have hHeld := hHeld2
    clear hHeld2
    try simp only [pS]
    refine tz (i := 2) 14 rfl rfl hHeld ?_
    simp only [pS]
    refine tz (i := 3) 15 rfl rfl hHeld ?_
    simp only [pS]
    refine skip_at (i := 4) 16 rfl rfl (by kernel_rfl) (by kernel_rfl) (by kernel_rfl) (fun _ _ _ h => h) (by rfl) hHeld ?_
    simp only [pS]
    refine skip_at (i := 5) 17 rfl rfl (by kernel_rfl) (by kernel_rfl) (by kernel_rfl) (fun _ _ _ h => h) (by rfl) hHeld ?_
    simp only [pS]
    refine skip_at (i := 6) 18 rfl rfl (by kernel_rfl) (by kernel_rfl) (by kernel_rfl) (fun _ _ _ h => h) (by rfl) hHeld ?_
    simp only [pS]
    refine tz (i := 7) 19 rfl rfl hHeld ?_
    simp only [pS]
    refine tz (i := 8) 20 rfl rfl hHeld ?_
    simp only [pS]
    refine skip_at (i := 9) 21 rfl rfl (by kernel_rfl) (by kernel_rfl) (by kernel_rfl) (fun _ _ _ h => h) (by rfl) hHeld ?_
    simp only [pS]
    refine skip_at (i := 10) 22 rfl rfl (by kernel_rfl) (by kernel_rfl) (by kernel_rfl) (fun _ _ _ h => h) (by rfl) hHeld ?_
    simp only [pS]
    refine skip_at (i := 11) 23 rfl rfl (by kernel_rfl) (by kernel_rfl) (by kernel_rfl) (fun _ _ _ h => h) (by rfl) hHeld ?_
    simp only [pS]
    refine skip_at (i := 12) 24 rfl rfl (by kernel_rfl) (by kernel_rfl) (by kernel_rfl) (fun _ _ _ h => h) (by rfl) hHeld ?_
    simp only [pS]
    refine skip_at (i := 13) 25 rfl rfl (by kernel_rfl) (by kernel_rfl) (by kernel_rfl) (fun _ _ _ h => h) (by rfl) hHeld ?_
    simp only [pS]
    refine skip_at (i := 14) 26 rfl rfl (by kernel_rfl) (by kernel_rfl) (by kernel_rfl) (fun _ _ _ h => h) (by rfl) hHeld ?_
    simp only [pS]
    refine skip_at (i := 15) 27 rfl rfl (by kernel_rfl) (by kernel_rfl) (by kernel_rfl) (fun _ _ _ h => h) (by rfl) hHeld ?_
    simp only [pS]
    refine tz (i := 16) 28 rfl rfl hHeld ?_
    simp only [pS]
    refine tz (i := 17) 29 rfl rfl hHeld ?_
    simp only [pS]
    refine skip_at (i := 18) 30 rfl rfl (by kernel_rfl) (by kernel_rfl) (by kernel_rfl) (fun _ _ _ h => h) (by rfl) hHeld ?_
    simp only [pS]
    refine skip_at (i := 19) 31 rfl rfl (by kernel_rfl) (by kernel_rfl) (by kernel_rfl) (fun _ _ _ h => h) (by rfl) hHeld ?_
    simp only [pS]
    refine tz (i := 20) 32 rfl rfl hHeld ?_
    simp only [pS]
    refine tz (i := 21) 33 rfl rfl hHeld ?_
    simp only [pS]
    refine skip_at (i := 22) 34 rfl rfl (by kernel_rfl) (by kernel_rfl) (by kernel_rfl) (fun _ _ _ h => h) (by rfl) hHeld ?_
    simp only [pS]
    refine skip_at (i := 23) 35 rfl rfl (by kernel_rfl) (by kernel_rfl) (by kernel_rfl) (fun _ _ _ h => h) (by rfl) hHeld ?_
    simp only [pS]
    refine skip_at (i := 24) 36 rfl rfl (by kernel_rfl) (by kernel_rfl) (by kernel_rfl) (fun _ _ _ h => h) (by rfl) hHeld ?_
    simp only [pS]
    refine tz (i := 25) 37 rfl rfl hHeld ?_
    simp only [pS]
    refine wpAnyH_done (by kernel_rfl) ?_ _
    refine NoPanic.normal ?_
    have hb2 := hHeld
    clear hu5 hsh hsh1
    have hd2 := (hb2.block _ (Array.getElem?_eq_some_iff.1 HD1.out).1).trans HD1.out
    have c0 : u5.cell? ⟨w.heap.size + 1, 0, none⟩ = some (.int .i64 0) := by rw [cell_of_row _ _ _ _ _ _ hd2]; rfl
    have c1 : u5.cell? ⟨w.heap.size + 1, 1, none⟩ = some (.int .u64 0) := by rw [cell_of_row _ _ _ _ _ _ hd2]; rfl
    have c2 : u5.cell? ⟨w.heap.size + 1, 2, none⟩ = some (.int .i64 0) := by rw [cell_of_row _ _ _ _ _ _ hd2]; rfl
    have f0 : u5.frozen? ⟨w.heap.size + 1, 0, none⟩ = false := by simp [World.frozen?, hd2]
    have f1 : u5.frozen? ⟨w.heap.size + 1, 1, none⟩ = false := by simp [World.frozen?, hd2]
    have f2 : u5.frozen? ⟨w.heap.size + 1, 2, none⟩ = false := by simp [World.frozen?, hd2]
    have HB2 : Hid (Below w.heap.size w u5) := HX.out _ hb2
    clear hb2 hd2 hHeld
    go_wp2
    exact bodyPost_ret (v := .tuple #[.agg #[.int .i64 0, .int .u64 0, .int .i64 0], .bool false]) (by simp [results, Tryz.results42, go_sem, c0, c1, c2, f0, f1, f2]) rfl ⟨rfl, ((HB2.out.setCell (p := ⟨w.heap.size + 1, 0, none⟩) (Nat.le_succ _) _).setCell (p := ⟨w.heap.size + 1, 1, none⟩) (Nat.le_succ _) _).setCell (p := ⟨w.heap.size + 1, 2, none⟩) (Nat.le_succ _) _⟩
set_option maxRecDepth 20000 in
set_option maxHeartbeats 3200000 in
theorem rhear_kind (h : Rx w q v X s) (z : Nat) (k e cd pt ix c : Int) (da : Option Addr) (dn dc : Nat) (ga : Option Addr) (gn gc : Nat) (l : List Rg) (hn : gn = l.length) (hx : RdR w ga l) (hl : gn ≤ 8796093022208) (hv : validR k e (z : Int) pt ix c dn cd gn l) (hk : ¬ k = 2) :
    Calls Tryz.prog 42 #[.pointer (some ⟨q, 0, none⟩), .agg (ucl k e (z : Int) pt ix c da dn dc cd ga gn gc)] w fun e9 w' => e9 = .returned (.tuple #[doneV 0 0 0, .bool false]) ∧ Below w.heap.size w w' := by
  obtain ⟨w1, hw1⟩ : ∃ w1, w1 = (w.alloc (.cells (ucl k e (z : Int) pt ix c da dn dc cd ga gn gc) tUn)).alloc (.cells #[.int .i64 0, .int .u64 0, .int .i64 0] tDo) := ⟨_, rfl⟩
  obtain ⟨hb1, hsz1, hu1, hd1⟩ := hboxes w _ w1 hw1
  have hsh : ∀ u, Below w1.heap.size w1 u → u.cell? ⟨w.heap.size, 0, none⟩ = some (.int .i64 k) ∧ u.cell? ⟨w.heap.size, 1, none⟩ = some (.int .u64 e) ∧ u.cell? ⟨w.heap.size, 2, none⟩ = some (.int .u64 (z : Int)) ∧ u.cell? ⟨w.heap.size, 3, none⟩ = some (.int .i64 pt) ∧ u.cell? ⟨w.heap.size, 4, none⟩ = some (.int .i64 ix) ∧ u.cell? ⟨w.heap.size, 5, none⟩ = some (.int .i64 c) ∧ u.cell? ⟨w.heap.size, 6, none⟩ = some (.slice da dn dc) ∧ u.cell? ⟨w.heap.size, 7, none⟩ = some (.int .i64 cd) ∧ u.cell? ⟨w.heap.size, 8, none⟩ = some (.slice ga gn gc) ∧ u.cell? ⟨q, 6, none⟩ = some (.int .u64 (s.ep : Int)) ∧ u.cell? ⟨q, 8, none⟩ = some v := fun u hu => by
    have h9 := (hu.block _ (Array.getElem?_eq_some_iff.1 hu1).1).trans hu1
    have h8 := (h.below hb1).below hu
    refine ⟨?_, ?_, ?_, ?_, ?_, ?_, ?_, ?_, ?_, ?_, ?_⟩
    all_goals first | (rw [cell_of_row _ _ _ _ _ _ h9]; rfl) | exact h8.cell 6 | exact h8.cell 8
  have HV : Hid (∀ u, Below w1.heap.size w1 u → Calls Tryz.prog 64 #[.agg (ucl k e (z : Int) pt ix c da dn dc cd ga gn gc)] u fun e w' => e = .returned (.int .i64 0) ∧ Below u.heap.size u w') := fun u hu => by
    have h9 := rvalid_t k e (z : Int) pt ix c da dn dc cd ga gn gc l true (by simp; exact hv) u hn (hx.below (hb1.trans (hu.mono hb1.size))) hl
    simpa using h9
  have HNU : Hid _ := rnumbered_t (h.below hb1) z
  have hsh1 := hsh w1 (Below.refl _ _)
  have HB1 : Hid _ := hb1
  have HD1 : Hid _ := hd1
  have HH : Hid _ := h
  have HW1 : Hid (w1 = _) := hw1
  have HX : Hid (∀ u, Below w1.heap.size w1 u → Below w.heap.size w u) := fun u hu => hb1.trans (hu.mono hb1.size)
  clear h hb1 hw1 hd1 hu1 hsz1 hn hx hl hv 
  go_enter Tryz.func42, Tryz.ntmps42
  go_wp2_with fail
  rw [← HW1.out]
  refine Calls.mono HNU.out ?_
  rintro e8 w8 ⟨hf, hq⟩
  have hq := hq.symm
  subst hq
  rcases hf with ⟨j, hj, hje, rfl⟩ | ⟨hno, rfl⟩
  · have hj0 : ¬ (j : Int) < 0 := by omega
    clear hj hje
    go_wp2_with fail
    refine wp_region_noPanic ?_
    refine wp_region_held_drew (S := (fun u => Below w1.heap.size w1 u)) (by kernel_rfl) (by first | exact (Below.refl _ _).drew | assumption | exact below_next (by assumption) (by assumption)) (fun hHeld => ?_)
    refine tz (i := 0) 12 rfl rfl hHeld ?_
    simp only [pS]
    refine run_at (i := 1) rfl (by kernel_rfl) (by rfl) (fun K hK => ?_)
    simp only [List.getElem_toArray, List.getElem_cons_zero, List.getElem_cons_succ]
    go_simp
    (go_at_call 64; refine Calls.mono (HV.out _ (by assumption)) ?_; rintro e9 u5 ⟨rfl, hu5⟩)
    go_wp2_with fail
    refine hK.out _ _ (by first | exact (Below.refl _ _).drew | assumption | exact below_next (by assumption) (by assumption)) ?_
    clear hK K
    intro hHeld2
    clear hHeld
    have hHeld := hHeld2
    clear hHeld2
    try simp only [pS]
    refine tz (i := 2) 14 rfl rfl hHeld ?_
    simp only [pS]
    refine tz (i := 3) 15 rfl rfl hHeld ?_
    simp only [pS]
    refine tz (i := 4) 16 rfl rfl hHeld ?_
    simp only [pS]
    refine tz (i := 5) 17 rfl rfl hHeld ?_
    simp only [pS]
    refine tk (i := 6) 18 (v := (Value.bool true)) rfl rfl ?_ hHeld ?_
    · (intro w hSw; (try dsimp only at hSw); go_simp)
    simp only [pS]
    refine tz (i := 7) 19 rfl rfl hHeld ?_
    simp only [pS]
    refine tz (i := 8) 20 rfl rfl hHeld ?_
    simp only [pS]
    refine skip_at (i := 9) 21 rfl rfl (by kernel_rfl) (by kernel_rfl) (by kernel_rfl) (fun _ _ _ h => h) (by rfl) hHeld ?_
    simp only [pS]
    refine skip_at (i := 10) 22 rfl rfl (by kernel_rfl) (by kernel_rfl) (by kernel_rfl) (fun _ _ _ h => h) (by rfl) hHeld ?_
    simp only [pS]
    refine skip_at (i := 11) 23 rfl rfl (by kernel_rfl) (by kernel_rfl) (by kernel_rfl) (fun _ _ _ h => h) (by rfl) hHeld ?_
    simp only [pS]
    refine skip_at (i := 12) 24 rfl rfl (by kernel_rfl) (by kernel_rfl) (by kernel_rfl) (fun _ _ _ h => h) (by rfl) hHeld ?_
    simp only [pS]
    refine skip_at (i := 13) 25 rfl rfl (by kernel_rfl) (by kernel_rfl) (by kernel_rfl) (fun _ _ _ h => h) (by rfl) hHeld ?_
    simp only [pS]
    refine skip_at (i := 14) 26 rfl rfl (by kernel_rfl) (by kernel_rfl) (by kernel_rfl) (fun _ _ _ h => h) (by rfl) hHeld ?_
    simp only [pS]
    refine skip_at (i := 15) 27 rfl rfl (by kernel_rfl) (by kernel_rfl) (by kernel_rfl) (fun _ _ _ h => h) (by rfl) hHeld ?_
    simp only [pS]
    refine tz (i := 16) 28 rfl rfl hHeld ?_
    simp only [pS]
    refine tz (i := 17) 29 rfl rfl hHeld ?_
    simp only [pS]
    refine skip_at (i := 18) 30 rfl rfl (by kernel_rfl) (by kernel_rfl) (by kernel_rfl) (fun _ _ _ h => h) (by rfl) hHeld ?_
    simp only [pS]
    refine skip_at (i := 19) 31 rfl rfl (by kernel_rfl) (by kernel_rfl) (by kernel_rfl) (fun _ _ _ h => h) (by rfl) hHeld ?_
    simp only [pS]
    refine tz (i := 20) 32 rfl rfl hHeld ?_
    simp only [pS]
    refine tz (i := 21) 33 rfl rfl hHeld ?_
    simp only [pS]
    refine skip_at (i := 22) 34 rfl rfl (by kernel_rfl) (by kernel_rfl) (by kernel_rfl) (fun _ _ _ h => h) (by rfl) hHeld ?_
    simp only [pS]
    refine skip_at (i := 23) 35 rfl rfl (by kernel_rfl) (by kernel_rfl) (by kernel_rfl) (fun _ _ _ h => h) (by rfl) hHeld ?_
    simp only [pS]
    refine skip_at (i := 24) 36 rfl rfl (by kernel_rfl) (by kernel_rfl) (by kernel_rfl) (fun _ _ _ h => h) (by rfl) hHeld ?_
    simp only [pS]
    refine tz (i := 25) 37 rfl rfl hHeld ?_
    simp only [pS]
    refine wpAnyH_done (by kernel_rfl) ?_ _
    refine NoPanic.normal ?_
    have hb2 := hHeld
    clear hu5 hsh hsh1
    have hd2 := (hb2.block _ (Array.getElem?_eq_some_iff.1 HD1.out).1).trans HD1.out
    have c0 : u5.cell? ⟨w.heap.size + 1, 0, none⟩ = some (.int .i64 0) := by rw [cell_of_row _ _ _ _ _ _ hd2]; rfl
    have c1 : u5.cell? ⟨w.heap.size + 1, 1, none⟩ = some (.int .u64 0) := by rw [cell_of_row _ _ _ _ _ _ hd2]; rfl
    have c2 : u5.cell? ⟨w.heap.size + 1, 2, none⟩ = some (.int .i64 0) := by rw [cell_of_row _ _ _ _ _ _ hd2]; rfl
    have f0 : u5.frozen? ⟨w.heap.size + 1, 0, none⟩ = false := by simp [World.frozen?, hd2]
    have f1 : u5.frozen? ⟨w.heap.size + 1, 1, none⟩ = false := by simp [World.frozen?, hd2]
    have f2 : u5.frozen? ⟨w.heap.size + 1, 2, none⟩ = false := by simp [World.frozen?, hd2]
    have HB2 : Hid (Below w.heap.size w u5) := HX.out _ hb2
    clear hb2 hd2 hHeld
    go_wp2
    exact bodyPost_ret (v := .tuple #[.agg #[.int .i64 0, .int .u64 0, .int .i64 0], .bool false]) (by simp [results, Tryz.results42, go_sem, c0, c1, c2, f0, f1, f2]) rfl ⟨rfl, ((HB2.out.setCell (p := ⟨w.heap.size + 1, 0, none⟩) (Nat.le_succ _) _).setCell (p := ⟨w.heap.size + 1, 1, none⟩) (Nat.le_succ _) _).setCell (p := ⟨w.heap.size + 1, 2, none⟩) (Nat.le_succ _) _⟩
  · clear hno
    go_wp2_with fail
    refine wp_region_noPanic ?_
    refine wp_region_held_drew (S := (fun u => Below w1.heap.size w1 u)) (by kernel_rfl) (by first | exact (Below.refl _ _).drew | assumption | exact below_next (by assumption) (by assumption)) (fun hHeld => ?_)
    refine tz (i := 0) 12 rfl rfl hHeld ?_
    simp only [pS]
    refine run_at (i := 1) rfl (by kernel_rfl) (by rfl) (fun K hK => ?_)
    simp only [List.getElem_toArray, List.getElem_cons_zero, List.getElem_cons_succ]
    go_simp
    (go_at_call 64; refine Calls.mono (HV.out _ (by assumption)) ?_; rintro e9 u5 ⟨rfl, hu5⟩)
    go_wp2_with fail
    refine hK.out _ _ (by first | exact (Below.refl _ _).drew | assumption | exact below_next (by assumption) (by assumption)) ?_
    clear hK K
    intro hHeld2
    clear hHeld
    have hHeld := hHeld2
    clear hHeld2
    try simp only [pS]
    refine tz (i := 2) 14 rfl rfl hHeld ?_
    simp only [pS]
    refine tz (i := 3) 15 rfl rfl hHeld ?_
    simp only [pS]
    refine tz (i := 4) 16 rfl rfl hHeld ?_
    simp only [pS]
    refine tz (i := 5) 17 rfl rfl hHeld ?_
    simp only [pS]
    refine tk (i := 6) 18 (v := (Value.bool true)) rfl rfl ?_ hHeld ?_
    · (intro w hSw; (try dsimp only at hSw); go_simp)
    simp only [pS]
    refine tz (i := 7) 19 rfl rfl hHeld ?_
    simp only [pS]
    refine tz (i := 8) 20 rfl rfl hHeld ?_
    simp only [pS]
    refine skip_at (i := 9) 21 rfl rfl (by kernel_rfl) (by kernel_rfl) (by kernel_rfl) (fun _ _ _ h => h) (by rfl) hHeld ?_
    simp only [pS]
    refine skip_at (i := 10) 22 rfl rfl (by kernel_rfl) (by kernel_rfl) (by kernel_rfl) (fun _ _ _ h => h) (by rfl) hHeld ?_
    simp only [pS]
    refine skip_at (i := 11) 23 rfl rfl (by kernel_rfl) (by kernel_rfl) (by kernel_rfl) (fun _ _ _ h => h) (by rfl) hHeld ?_
    simp only [pS]
    refine skip_at (i := 12) 24 rfl rfl (by kernel_rfl) (by kernel_rfl) (by kernel_rfl) (fun _ _ _ h => h) (by rfl) hHeld ?_
    simp only [pS]
    refine skip_at (i := 13) 25 rfl rfl (by kernel_rfl) (by kernel_rfl) (by kernel_rfl) (fun _ _ _ h => h) (by rfl) hHeld ?_
    simp only [pS]
    refine skip_at (i := 14) 26 rfl rfl (by kernel_rfl) (by kernel_rfl) (by kernel_rfl) (fun _ _ _ h => h) (by rfl) hHeld ?_
    simp only [pS]
    refine skip_at (i := 15) 27 rfl rfl (by kernel_rfl) (by kernel_rfl) (by kernel_rfl) (fun _ _ _ h => h) (by rfl) hHeld ?_
    simp only [pS]
    refine tz (i := 16) 28 rfl rfl hHeld ?_
    simp only [pS]
    refine tz (i := 17) 29 rfl rfl hHeld ?_
    simp only [pS]
    refine skip_at (i := 18) 30 rfl rfl (by kernel_rfl) (by kernel_rfl) (by kernel_rfl) (fun _ _ _ h => h) (by rfl) hHeld ?_
    simp only [pS]
    refine skip_at (i := 19) 31 rfl rfl (by kernel_rfl) (by kernel_rfl) (by kernel_rfl) (fun _ _ _ h => h) (by rfl) hHeld ?_
    simp only [pS]
    refine tz (i := 20) 32 rfl rfl hHeld ?_
    simp only [pS]
    refine tz (i := 21) 33 rfl rfl hHeld ?_
    simp only [pS]
    refine skip_at (i := 22) 34 rfl rfl (by kernel_rfl) (by kernel_rfl) (by kernel_rfl) (fun _ _ _ h => h) (by rfl) hHeld ?_
    simp only [pS]
    refine skip_at (i := 23) 35 rfl rfl (by kernel_rfl) (by kernel_rfl) (by kernel_rfl) (fun _ _ _ h => h) (by rfl) hHeld ?_
    simp only [pS]
    refine skip_at (i := 24) 36 rfl rfl (by kernel_rfl) (by kernel_rfl) (by kernel_rfl) (fun _ _ _ h => h) (by rfl) hHeld ?_
    simp only [pS]
    refine tz (i := 25) 37 rfl rfl hHeld ?_
    simp only [pS]
    refine wpAnyH_done (by kernel_rfl) ?_ _
    refine NoPanic.normal ?_
    have hb2 := hHeld
    clear hu5 hsh hsh1
    have hd2 := (hb2.block _ (Array.getElem?_eq_some_iff.1 HD1.out).1).trans HD1.out
    have c0 : u5.cell? ⟨w.heap.size + 1, 0, none⟩ = some (.int .i64 0) := by rw [cell_of_row _ _ _ _ _ _ hd2]; rfl
    have c1 : u5.cell? ⟨w.heap.size + 1, 1, none⟩ = some (.int .u64 0) := by rw [cell_of_row _ _ _ _ _ _ hd2]; rfl
    have c2 : u5.cell? ⟨w.heap.size + 1, 2, none⟩ = some (.int .i64 0) := by rw [cell_of_row _ _ _ _ _ _ hd2]; rfl
    have f0 : u5.frozen? ⟨w.heap.size + 1, 0, none⟩ = false := by simp [World.frozen?, hd2]
    have f1 : u5.frozen? ⟨w.heap.size + 1, 1, none⟩ = false := by simp [World.frozen?, hd2]
    have f2 : u5.frozen? ⟨w.heap.size + 1, 2, none⟩ = false := by simp [World.frozen?, hd2]
    have HB2 : Hid (Below w.heap.size w u5) := HX.out _ hb2
    clear hb2 hd2 hHeld
    go_wp2
    exact bodyPost_ret (v := .tuple #[.agg #[.int .i64 0, .int .u64 0, .int .i64 0], .bool false]) (by simp [results, Tryz.results42, go_sem, c0, c1, c2, f0, f1, f2]) rfl ⟨rfl, ((HB2.out.setCell (p := ⟨w.heap.size + 1, 0, none⟩) (Nat.le_succ _) _).setCell (p := ⟨w.heap.size + 1, 1, none⟩) (Nat.le_succ _) _).setCell (p := ⟨w.heap.size + 1, 2, none⟩) (Nat.le_succ _) _⟩
set_option maxRecDepth 20000 in
set_option maxHeartbeats 3200000 in
theorem rhear_ep (h : Rx w q v X s) (z : Nat) (k e cd pt ix c : Int) (da : Option Addr) (dn dc : Nat) (ga : Option Addr) (gn gc : Nat) (l : List Rg) (hn : gn = l.length) (hx : RdR w ga l) (hl : gn ≤ 8796093022208) (hv : validR 2 e (z : Int) pt ix c dn cd gn l) (he : ¬ e = (s.ep : Int)) :
    Calls Tryz.prog 42 #[.pointer (some ⟨q, 0, none⟩), .agg (ucl 2 e (z : Int) pt ix c da dn dc cd ga gn gc)] w fun e9 w' => e9 = .returned (.tuple #[doneV 0 0 0, .bool false]) ∧ Below w.heap.size w w' := by
  obtain ⟨w1, hw1⟩ : ∃ w1, w1 = (w.alloc (.cells (ucl 2 e (z : Int) pt ix c da dn dc cd ga gn gc) tUn)).alloc (.cells #[.int .i64 0, .int .u64 0, .int .i64 0] tDo) := ⟨_, rfl⟩
  obtain ⟨hb1, hsz1, hu1, hd1⟩ := hboxes w _ w1 hw1
  have hsh : ∀ u, Below w1.heap.size w1 u → u.cell? ⟨w.heap.size, 0, none⟩ = some (.int .i64 2) ∧ u.cell? ⟨w.heap.size, 1, none⟩ = some (.int .u64 e) ∧ u.cell? ⟨w.heap.size, 2, none⟩ = some (.int .u64 (z : Int)) ∧ u.cell? ⟨w.heap.size, 3, none⟩ = some (.int .i64 pt) ∧ u.cell? ⟨w.heap.size, 4, none⟩ = some (.int .i64 ix) ∧ u.cell? ⟨w.heap.size, 5, none⟩ = some (.int .i64 c) ∧ u.cell? ⟨w.heap.size, 6, none⟩ = some (.slice da dn dc) ∧ u.cell? ⟨w.heap.size, 7, none⟩ = some (.int .i64 cd) ∧ u.cell? ⟨w.heap.size, 8, none⟩ = some (.slice ga gn gc) ∧ u.cell? ⟨q, 6, none⟩ = some (.int .u64 (s.ep : Int)) ∧ u.cell? ⟨q, 8, none⟩ = some v := fun u hu => by
    have h9 := (hu.block _ (Array.getElem?_eq_some_iff.1 hu1).1).trans hu1
    have h8 := (h.below hb1).below hu
    refine ⟨?_, ?_, ?_, ?_, ?_, ?_, ?_, ?_, ?_, ?_, ?_⟩
    all_goals first | (rw [cell_of_row _ _ _ _ _ _ h9]; rfl) | exact h8.cell 6 | exact h8.cell 8
  have HV : Hid (∀ u, Below w1.heap.size w1 u → Calls Tryz.prog 64 #[.agg (ucl 2 e (z : Int) pt ix c da dn dc cd ga gn gc)] u fun e w' => e = .returned (.int .i64 0) ∧ Below u.heap.size u w') := fun u hu => by
    have h9 := rvalid_t 2 e (z : Int) pt ix c da dn dc cd ga gn gc l true (by simp; exact hv) u hn (hx.below (hb1.trans (hu.mono hb1.size))) hl
    simpa using h9
  have HNU : Hid _ := rnumbered_t (h.below hb1) z
  have hsh1 := hsh w1 (Below.refl _ _)
  have HB1 : Hid _ := hb1
  have HD1 : Hid _ := hd1
  have HH : Hid _ := h
  have HW1 : Hid (w1 = _) := hw1
  have HX : Hid (∀ u, Below w1.heap.size w1 u → Below w.heap.size w u) := fun u hu => hb1.trans (hu.mono hb1.size)
  clear h hb1 hw1 hd1 hu1 hsz1 hn hx hl hv 
  go_enter Tryz.func42, Tryz.ntmps42
  go_wp2_with fail
  rw [← HW1.out]
  refine Calls.mono HNU.out ?_
  rintro e8 w8 ⟨hf, hq⟩
  have hq := hq.symm
  subst hq
  rcases hf with ⟨j, hj, hje, rfl⟩ | ⟨hno, rfl⟩
  · have hj0 : ¬ (j : Int) < 0 := by omega
    clear hj hje
    go_wp2_with fail
    refine wp_region_noPanic ?_
    refine wp_region_held_drew (S := (fun u => Below w1.heap.size w1 u)) (by kernel_rfl) (by first | exact (Below.refl _ _).drew | assumption | exact below_next (by assumption) (by assumption)) (fun hHeld => ?_)
    refine tz (i := 0) 12 rfl rfl hHeld ?_
    simp only [pS]
    refine run_at (i := 1) rfl (by kernel_rfl) (by rfl) (fun K hK => ?_)
    simp only [List.getElem_toArray, List.getElem_cons_zero, List.getElem_cons_succ]
    go_simp
    (go_at_call 64; refine Calls.mono (HV.out _ (by assumption)) ?_; rintro e9 u5 ⟨rfl, hu5⟩)
    go_wp2_with fail
    refine hK.out _ _ (by first | exact (Below.refl _ _).drew | assumption | exact below_next (by assumption) (by assumption)) ?_
    clear hK K
    intro hHeld2
    clear hHeld
    have hHeld := hHeld2
    clear hHeld2
    try simp only [pS]
    refine tz (i := 2) 14 rfl rfl hHeld ?_
    simp only [pS]
    refine tz (i := 3) 15 rfl rfl hHeld ?_
    simp only [pS]
    refine tz (i := 4) 16 rfl rfl hHeld ?_
    simp only [pS]
    refine tz (i := 5) 17 rfl rfl hHeld ?_
    simp only [pS]
    refine tz (i := 6) 18 rfl rfl hHeld ?_
    simp only [pS]
    refine tz (i := 7) 19 rfl rfl hHeld ?_
    simp only [pS]
    refine tz (i := 8) 20 rfl rfl hHeld ?_
    simp only [pS]
    refine tz (i := 9) 21 rfl rfl hHeld ?_
    simp only [pS]
    refine tz (i := 10) 22 rfl rfl hHeld ?_
    simp only [pS]
    refine tz (i := 11) 23 rfl rfl hHeld ?_
    simp only [pS]
    refine tz (i := 12) 24 rfl rfl hHeld ?_
    simp only [pS]
    refine tz (i := 13) 25 rfl rfl hHeld ?_
    simp only [pS]
    refine tz (i := 14) 26 rfl rfl hHeld ?_
    simp only [pS]
    refine tk (i := 15) 27 (v := (Value.bool true)) rfl rfl ?_ hHeld ?_
    · (intro w hSw; (try dsimp only at hSw); go_simp)
    simp only [pS]
    refine tz (i := 16) 28 rfl rfl hHeld ?_
    simp only [pS]
    refine tz (i := 17) 29 rfl rfl hHeld ?_
    simp only [pS]
    refine skip_at (i := 18) 30 rfl rfl (by kernel_rfl) (by kernel_rfl) (by kernel_rfl) (fun _ _ _ h => h) (by rfl) hHeld ?_
    simp only [pS]
    refine skip_at (i := 19) 31 rfl rfl (by kernel_rfl) (by kernel_rfl) (by kernel_rfl) (fun _ _ _ h => h) (by rfl) hHeld ?_
    simp only [pS]
    refine tz (i := 20) 32 rfl rfl hHeld ?_
    simp only [pS]
    refine tz (i := 21) 33 rfl rfl hHeld ?_
    simp only [pS]
    refine skip_at (i := 22) 34 rfl rfl (by kernel_rfl) (by kernel_rfl) (by kernel_rfl) (fun _ _ _ h => h) (by rfl) hHeld ?_
    simp only [pS]
    refine skip_at (i := 23) 35 rfl rfl (by kernel_rfl) (by kernel_rfl) (by kernel_rfl) (fun _ _ _ h => h) (by rfl) hHeld ?_
    simp only [pS]
    refine skip_at (i := 24) 36 rfl rfl (by kernel_rfl) (by kernel_rfl) (by kernel_rfl) (fun _ _ _ h => h) (by rfl) hHeld ?_
    simp only [pS]
    refine tz (i := 25) 37 rfl rfl hHeld ?_
    simp only [pS]
    refine wpAnyH_done (by kernel_rfl) ?_ _
    refine NoPanic.normal ?_
    have hb2 := hHeld
    clear hu5 hsh hsh1
    have hd2 := (hb2.block _ (Array.getElem?_eq_some_iff.1 HD1.out).1).trans HD1.out
    have c0 : u5.cell? ⟨w.heap.size + 1, 0, none⟩ = some (.int .i64 0) := by rw [cell_of_row _ _ _ _ _ _ hd2]; rfl
    have c1 : u5.cell? ⟨w.heap.size + 1, 1, none⟩ = some (.int .u64 0) := by rw [cell_of_row _ _ _ _ _ _ hd2]; rfl
    have c2 : u5.cell? ⟨w.heap.size + 1, 2, none⟩ = some (.int .i64 0) := by rw [cell_of_row _ _ _ _ _ _ hd2]; rfl
    have f0 : u5.frozen? ⟨w.heap.size + 1, 0, none⟩ = false := by simp [World.frozen?, hd2]
    have f1 : u5.frozen? ⟨w.heap.size + 1, 1, none⟩ = false := by simp [World.frozen?, hd2]
    have f2 : u5.frozen? ⟨w.heap.size + 1, 2, none⟩ = false := by simp [World.frozen?, hd2]
    have HB2 : Hid (Below w.heap.size w u5) := HX.out _ hb2
    clear hb2 hd2 hHeld
    go_wp2
    exact bodyPost_ret (v := .tuple #[.agg #[.int .i64 0, .int .u64 0, .int .i64 0], .bool false]) (by simp [results, Tryz.results42, go_sem, c0, c1, c2, f0, f1, f2]) rfl ⟨rfl, ((HB2.out.setCell (p := ⟨w.heap.size + 1, 0, none⟩) (Nat.le_succ _) _).setCell (p := ⟨w.heap.size + 1, 1, none⟩) (Nat.le_succ _) _).setCell (p := ⟨w.heap.size + 1, 2, none⟩) (Nat.le_succ _) _⟩
  · clear hno
    go_wp2_with fail
    refine wp_region_noPanic ?_
    refine wp_region_held_drew (S := (fun u => Below w1.heap.size w1 u)) (by kernel_rfl) (by first | exact (Below.refl _ _).drew | assumption | exact below_next (by assumption) (by assumption)) (fun hHeld => ?_)
    refine tz (i := 0) 12 rfl rfl hHeld ?_
    simp only [pS]
    refine run_at (i := 1) rfl (by kernel_rfl) (by rfl) (fun K hK => ?_)
    simp only [List.getElem_toArray, List.getElem_cons_zero, List.getElem_cons_succ]
    go_simp
    (go_at_call 64; refine Calls.mono (HV.out _ (by assumption)) ?_; rintro e9 u5 ⟨rfl, hu5⟩)
    go_wp2_with fail
    refine hK.out _ _ (by first | exact (Below.refl _ _).drew | assumption | exact below_next (by assumption) (by assumption)) ?_
    clear hK K
    intro hHeld2
    clear hHeld
    have hHeld := hHeld2
    clear hHeld2
    try simp only [pS]
    refine tz (i := 2) 14 rfl rfl hHeld ?_
    simp only [pS]
    refine tz (i := 3) 15 rfl rfl hHeld ?_
    simp only [pS]
    refine tz (i := 4) 16 rfl rfl hHeld ?_
    simp only [pS]
    refine tz (i := 5) 17 rfl rfl hHeld ?_
    simp only [pS]
    refine tz (i := 6) 18 rfl rfl hHeld ?_
    simp only [pS]
    refine tz (i := 7) 19 rfl rfl hHeld ?_
    simp only [pS]
    refine tz (i := 8) 20 rfl rfl hHeld ?_
    simp only [pS]
    refine tz (i := 9) 21 rfl rfl hHeld ?_
    simp only [pS]
    refine tz (i := 10) 22 rfl rfl hHeld ?_
    simp only [pS]
    refine tz (i := 11) 23 rfl rfl hHeld ?_
    simp only [pS]
    refine tz (i := 12) 24 rfl rfl hHeld ?_
    simp only [pS]
    refine tz (i := 13) 25 rfl rfl hHeld ?_
    simp only [pS]
    refine tz (i := 14) 26 rfl rfl hHeld ?_
    simp only [pS]
    refine tk (i := 15) 27 (v := (Value.bool true)) rfl rfl ?_ hHeld ?_
    · (intro w hSw; (try dsimp only at hSw); go_simp)
    simp only [pS]
    refine tz (i := 16) 28 rfl rfl hHeld ?_
    simp only [pS]
    refine tz (i := 17) 29 rfl rfl hHeld ?_
    simp only [pS]
    refine skip_at (i := 18) 30 rfl rfl (by kernel_rfl) (by kernel_rfl) (by kernel_rfl) (fun _ _ _ h => h) (by rfl) hHeld ?_
    simp only [pS]
    refine skip_at (i := 19) 31 rfl rfl (by kernel_rfl) (by kernel_rfl) (by kernel_rfl) (fun _ _ _ h => h) (by rfl) hHeld ?_
    simp only [pS]
    refine tz (i := 20) 32 rfl rfl hHeld ?_
    simp only [pS]
    refine tz (i := 21) 33 rfl rfl hHeld ?_
    simp only [pS]
    refine skip_at (i := 22) 34 rfl rfl (by kernel_rfl) (by kernel_rfl) (by kernel_rfl) (fun _ _ _ h => h) (by rfl) hHeld ?_
    simp only [pS]
    refine skip_at (i := 23) 35 rfl rfl (by kernel_rfl) (by kernel_rfl) (by kernel_rfl) (fun _ _ _ h => h) (by rfl) hHeld ?_
    simp only [pS]
    refine skip_at (i := 24) 36 rfl rfl (by kernel_rfl) (by kernel_rfl) (by kernel_rfl) (fun _ _ _ h => h) (by rfl) hHeld ?_
    simp only [pS]
    refine tz (i := 25) 37 rfl rfl hHeld ?_
    simp only [pS]
    refine wpAnyH_done (by kernel_rfl) ?_ _
    refine NoPanic.normal ?_
    have hb2 := hHeld
    clear hu5 hsh hsh1
    have hd2 := (hb2.block _ (Array.getElem?_eq_some_iff.1 HD1.out).1).trans HD1.out
    have c0 : u5.cell? ⟨w.heap.size + 1, 0, none⟩ = some (.int .i64 0) := by rw [cell_of_row _ _ _ _ _ _ hd2]; rfl
    have c1 : u5.cell? ⟨w.heap.size + 1, 1, none⟩ = some (.int .u64 0) := by rw [cell_of_row _ _ _ _ _ _ hd2]; rfl
    have c2 : u5.cell? ⟨w.heap.size + 1, 2, none⟩ = some (.int .i64 0) := by rw [cell_of_row _ _ _ _ _ _ hd2]; rfl
    have f0 : u5.frozen? ⟨w.heap.size + 1, 0, none⟩ = false := by simp [World.frozen?, hd2]
    have f1 : u5.frozen? ⟨w.heap.size + 1, 1, none⟩ = false := by simp [World.frozen?, hd2]
    have f2 : u5.frozen? ⟨w.heap.size + 1, 2, none⟩ = false := by simp [World.frozen?, hd2]
    have HB2 : Hid (Below w.heap.size w u5) := HX.out _ hb2
    clear hb2 hd2 hHeld
    go_wp2
    exact bodyPost_ret (v := .tuple #[.agg #[.int .i64 0, .int .u64 0, .int .i64 0], .bool false]) (by simp [results, Tryz.results42, go_sem, c0, c1, c2, f0, f1, f2]) rfl ⟨rfl, ((HB2.out.setCell (p := ⟨w.heap.size + 1, 0, none⟩) (Nat.le_succ _) _).setCell (p := ⟨w.heap.size + 1, 1, none⟩) (Nat.le_succ _) _).setCell (p := ⟨w.heap.size + 1, 2, none⟩) (Nat.le_succ _) _⟩
set_option maxRecDepth 20000 in
set_option maxHeartbeats 3200000 in
theorem rhear_out (h : Rx w q v X s) (z : Nat) (k e cd pt ix c : Int) (da : Option Addr) (dn dc : Nat) (ga : Option Addr) (gn gc : Nat) (l : List Rg) (hn : gn = l.length) (hx : RdR w ga l) (hl : gn ≤ 8796093022208) (hv : validR 2 (s.ep : Int) (z : Int) pt ix c dn cd gn l) (hno0 : z ∉ s.L.map Xe.n) :
    Calls Tryz.prog 42 #[.pointer (some ⟨q, 0, none⟩), .agg (ucl 2 (s.ep : Int) (z : Int) pt ix c da dn dc cd ga gn gc)] w fun e9 w' => e9 = .returned (.tuple #[doneV 0 0 0, .bool false]) ∧ Below w.heap.size w w' := by
  obtain ⟨w1, hw1⟩ : ∃ w1, w1 = (w.alloc (.cells (ucl 2 (s.ep : Int) (z : Int) pt ix c da dn dc cd ga gn gc) tUn)).alloc (.cells #[.int .i64 0, .int .u64 0, .int .i64 0] tDo) := ⟨_, rfl⟩
  obtain ⟨hb1, hsz1, hu1, hd1⟩ := hboxes w _ w1 hw1
  have hsh : ∀ u, Below w1.heap.size w1 u → u.cell? ⟨w.heap.size, 0, none⟩ = some (.int .i64 2) ∧ u.cell? ⟨w.heap.size, 1, none⟩ = some (.int .u64 (s.ep : Int)) ∧ u.cell? ⟨w.heap.size, 2, none⟩ = some (.int .u64 (z : Int)) ∧ u.cell? ⟨w.heap.size, 3, none⟩ = some (.int .i64 pt) ∧ u.cell? ⟨w.heap.size, 4, none⟩ = some (.int .i64 ix) ∧ u.cell? ⟨w.heap.size, 5, none⟩ = some (.int .i64 c) ∧ u.cell? ⟨w.heap.size, 6, none⟩ = some (.slice da dn dc) ∧ u.cell? ⟨w.heap.size, 7, none⟩ = some (.int .i64 cd) ∧ u.cell? ⟨w.heap.size, 8, none⟩ = some (.slice ga gn gc) ∧ u.cell? ⟨q, 6, none⟩ = some (.int .u64 (s.ep : Int)) ∧ u.cell? ⟨q, 8, none⟩ = some v := fun u hu => by
    have h9 := (hu.block _ (Array.getElem?_eq_some_iff.1 hu1).1).trans hu1
    have h8 := (h.below hb1).below hu
    refine ⟨?_, ?_, ?_, ?_, ?_, ?_, ?_, ?_, ?_, ?_, ?_⟩
    all_goals first | (rw [cell_of_row _ _ _ _ _ _ h9]; rfl) | exact h8.cell 6 | exact h8.cell 8
  have HV : Hid (∀ u, Below w1.heap.size w1 u → Calls Tryz.prog 64 #[.agg (ucl 2 (s.ep : Int) (z : Int) pt ix c da dn dc cd ga gn gc)] u fun e w' => e = .returned (.int .i64 0) ∧ Below u.heap.size u w') := fun u hu => by
    have h9 := rvalid_t 2 (s.ep : Int) (z : Int) pt ix c da dn dc cd ga gn gc l true (by simp; exact hv) u hn (hx.below (hb1.trans (hu.mono hb1.size))) hl
    simpa using h9
  have HNU : Hid _ := rnumbered_t (h.below hb1) z
  have hsh1 := hsh w1 (Below.refl _ _)
  have HB1 : Hid _ := hb1
  have HD1 : Hid _ := hd1
  have HH : Hid _ := h
  have HW1 : Hid (w1 = _) := hw1
  have HX : Hid (∀ u, Below w1.heap.size w1 u → Below w.heap.size w u) := fun u hu => hb1.trans (hu.mono hb1.size)
  have HNO : Hid _ := hno0
  clear h hb1 hw1 hd1 hu1 hsz1 hn hx hl hv hno0
  go_enter Tryz.func42, Tryz.ntmps42
  go_wp2_with fail
  rw [← HW1.out]
  refine Calls.mono HNU.out ?_
  rintro e8 w8 ⟨hf, hq⟩
  have hq := hq.symm
  subst hq
  rcases hf with ⟨j, hj, hje, rfl⟩ | ⟨hno, rfl⟩
  · exact absurd (List.mem_map.2 ⟨_, List.getElem_mem hj, hje⟩) HNO.out
  · clear hno
    go_wp2_with fail
    refine wp_region_noPanic ?_
    refine wp_region_held_drew (S := (fun u => Below w1.heap.size w1 u)) (by kernel_rfl) (by first | exact (Below.refl _ _).drew | assumption | exact below_next (by assumption) (by assumption)) (fun hHeld => ?_)
    refine tz (i := 0) 12 rfl rfl hHeld ?_
    simp only [pS]
    refine run_at (i := 1) rfl (by kernel_rfl) (by rfl) (fun K hK => ?_)
    simp only [List.getElem_toArray, List.getElem_cons_zero, List.getElem_cons_succ]
    go_simp
    (go_at_call 64; refine Calls.mono (HV.out _ (by assumption)) ?_; rintro e9 u5 ⟨rfl, hu5⟩)
    go_wp2_with fail
    refine hK.out _ _ (by first | exact (Below.refl _ _).drew | assumption | exact below_next (by assumption) (by assumption)) ?_
    clear hK K
    intro hHeld2
    clear hHeld
    have hHeld := hHeld2
    clear hHeld2
    try simp only [pS]
    refine tz (i := 2) 14 rfl rfl hHeld ?_
    simp only [pS]
    refine tz (i := 3) 15 rfl rfl hHeld ?_
    simp only [pS]
    refine tz (i := 4) 16 rfl rfl hHeld ?_
    simp only [pS]
    refine tz (i := 5) 17 rfl rfl hHeld ?_
    simp only [pS]
    refine tz (i := 6) 18 rfl rfl hHeld ?_
    simp only [pS]
    refine tz (i := 7) 19 rfl rfl hHeld ?_
    simp only [pS]
    refine tz (i := 8) 20 rfl rfl hHeld ?_
    simp only [pS]
    refine tz (i := 9) 21 rfl rfl hHeld ?_
    simp only [pS]
    refine tz (i := 10) 22 rfl rfl hHeld ?_
    simp only [pS]
    refine tz (i := 11) 23 rfl rfl hHeld ?_
    simp only [pS]
    refine tz (i := 12) 24 rfl rfl hHeld ?_
    simp only [pS]
    refine tz (i := 13) 25 rfl rfl hHeld ?_
    simp only [pS]
    refine tz (i := 14) 26 rfl rfl hHeld ?_
    simp only [pS]
    refine tz (i := 15) 27 rfl rfl hHeld ?_
    simp only [pS]
    refine tz (i := 16) 28 rfl rfl hHeld ?_
    simp only [pS]
    refine tz (i := 17) 29 rfl rfl hHeld ?_
    simp only [pS]
    refine tz (i := 18) 30 rfl rfl hHeld ?_
    simp only [pS]
    refine tk (i := 19) 31 (v := (Value.bool true)) rfl rfl ?_ hHeld ?_
    · (intro w hSw; (try dsimp only at hSw); go_simp)
    simp only [pS]
    refine tz (i := 20) 32 rfl rfl hHeld ?_
    simp only [pS]
    refine tz (i := 21) 33 rfl rfl hHeld ?_
    simp only [pS]
    refine skip_at (i := 22) 34 rfl rfl (by kernel_rfl) (by kernel_rfl) (by kernel_rfl) (fun _ _ _ h => h) (by rfl) hHeld ?_
    simp only [pS]
    refine skip_at (i := 23) 35 rfl rfl (by kernel_rfl) (by kernel_rfl) (by kernel_rfl) (fun _ _ _ h => h) (by rfl) hHeld ?_
    simp only [pS]
    refine skip_at (i := 24) 36 rfl rfl (by kernel_rfl) (by kernel_rfl) (by kernel_rfl) (fun _ _ _ h => h) (by rfl) hHeld ?_
    simp only [pS]
    refine tz (i := 25) 37 rfl rfl hHeld ?_
    simp only [pS]
    refine wpAnyH_done (by kernel_rfl) ?_ _
    refine NoPanic.normal ?_
    have hb2 := hHeld
    clear hu5 hsh hsh1
    have hd2 := (hb2.block _ (Array.getElem?_eq_some_iff.1 HD1.out).1).trans HD1.out
    have c0 : u5.cell? ⟨w.heap.size + 1, 0, none⟩ = some (.int .i64 0) := by rw [cell_of_row _ _ _ _ _ _ hd2]; rfl
    have c1 : u5.cell? ⟨w.heap.size + 1, 1, none⟩ = some (.int .u64 0) := by rw [cell_of_row _ _ _ _ _ _ hd2]; rfl
    have c2 : u5.cell? ⟨w.heap.size + 1, 2, none⟩ = some (.int .i64 0) := by rw [cell_of_row _ _ _ _ _ _ hd2]; rfl
    have f0 : u5.frozen? ⟨w.heap.size + 1, 0, none⟩ = false := by simp [World.frozen?, hd2]
    have f1 : u5.frozen? ⟨w.heap.size + 1, 1, none⟩ = false := by simp [World.frozen?, hd2]
    have f2 : u5.frozen? ⟨w.heap.size + 1, 2, none⟩ = false := by simp [World.frozen?, hd2]
    have HB2 : Hid (Below w.heap.size w u5) := HX.out _ hb2
    clear hb2 hd2 hHeld
    go_wp2
    exact bodyPost_ret (v := .tuple #[.agg #[.int .i64 0, .int .u64 0, .int .i64 0], .bool false]) (by simp [results, Tryz.results42, go_sem, c0, c1, c2, f0, f1, f2]) rfl ⟨rfl, ((HB2.out.setCell (p := ⟨w.heap.size + 1, 0, none⟩) (Nat.le_succ _) _).setCell (p := ⟨w.heap.size + 1, 1, none⟩) (Nat.le_succ _) _).setCell (p := ⟨w.heap.size + 1, 2, none⟩) (Nat.le_succ _) _⟩
set_option maxRecDepth 20000 in
set_option maxHeartbeats 3200000 in
theorem rhear_code (h : Rx w q v X s) (z : Nat) (k e cd pt ix c : Int) (da : Option Addr) (dn dc : Nat) (ga : Option Addr) (gn gc : Nat) (l : List Rg) (hn : gn = l.length) (hx : RdR w ga l) (hl : gn ≤ 8796093022208) (hv : validR 2 (s.ep : Int) (z : Int) pt ix c dn 0 gn l) (hin : z ∈ s.L.map Xe.n) :
    Calls Tryz.prog 42 #[.pointer (some ⟨q, 0, none⟩), .agg (ucl 2 (s.ep : Int) (z : Int) pt ix c da dn dc 0 ga gn gc)] w fun e9 w' => e9 = .returned (.tuple #[doneV 0 0 0, .bool false]) ∧ Below w.heap.size w w' := by
  obtain ⟨w1, hw1⟩ : ∃ w1, w1 = (w.alloc (.cells (ucl 2 (s.ep : Int) (z : Int) pt ix c da dn dc 0 ga gn gc) tUn)).alloc (.cells #[.int .i64 0, .int .u64 0, .int .i64 0] tDo) := ⟨_, rfl⟩
  obtain ⟨hb1, hsz1, hu1, hd1⟩ := hboxes w _ w1 hw1
  have hsh : ∀ u, Below w1.heap.size w1 u → u.cell? ⟨w.heap.size, 0, none⟩ = some (.int .i64 2) ∧ u.cell? ⟨w.heap.size, 1, none⟩ = some (.int .u64 (s.ep : Int)) ∧ u.cell? ⟨w.heap.size, 2, none⟩ = some (.int .u64 (z : Int)) ∧ u.cell? ⟨w.heap.size, 3, none⟩ = some (.int .i64 pt) ∧ u.cell? ⟨w.heap.size, 4, none⟩ = some (.int .i64 ix) ∧ u.cell? ⟨w.heap.size, 5, none⟩ = some (.int .i64 c) ∧ u.cell? ⟨w.heap.size, 6, none⟩ = some (.slice da dn dc) ∧ u.cell? ⟨w.heap.size, 7, none⟩ = some (.int .i64 0) ∧ u.cell? ⟨w.heap.size, 8, none⟩ = some (.slice ga gn gc) ∧ u.cell? ⟨q, 6, none⟩ = some (.int .u64 (s.ep : Int)) ∧ u.cell? ⟨q, 8, none⟩ = some v := fun u hu => by
    have h9 := (hu.block _ (Array.getElem?_eq_some_iff.1 hu1).1).trans hu1
    have h8 := (h.below hb1).below hu
    refine ⟨?_, ?_, ?_, ?_, ?_, ?_, ?_, ?_, ?_, ?_, ?_⟩
    all_goals first | (rw [cell_of_row _ _ _ _ _ _ h9]; rfl) | exact h8.cell 6 | exact h8.cell 8
  have HV : Hid (∀ u, Below w1.heap.size w1 u → Calls Tryz.prog 64 #[.agg (ucl 2 (s.ep : Int) (z : Int) pt ix c da dn dc 0 ga gn gc)] u fun e w' => e = .returned (.int .i64 0) ∧ Below u.heap.size u w') := fun u hu => by
    have h9 := rvalid_t 2 (s.ep : Int) (z : Int) pt ix c da dn dc 0 ga gn gc l true (by simp; exact hv) u hn (hx.below (hb1.trans (hu.mono hb1.size))) hl
    simpa using h9
  have HNU : Hid _ := rnumbered_t (h.below hb1) z
  have hsh1 := hsh w1 (Below.refl _ _)
  have HB1 : Hid _ := hb1
  have HD1 : Hid _ := hd1
  have HH : Hid _ := h
  have HW1 : Hid (w1 = _) := hw1
  have HX : Hid (∀ u, Below w1.heap.size w1 u → Below w.heap.size w u) := fun u hu => hb1.trans (hu.mono hb1.size)
  have HIN : Hid _ := hin
  clear h hb1 hw1 hd1 hu1 hsz1 hn hx hl hv hin
  go_enter Tryz.func42, Tryz.ntmps42
  go_wp2_with fail
  rw [← HW1.out]
  refine Calls.mono HNU.out ?_
  rintro e8 w8 ⟨hf, hq⟩
  have hq := hq.symm
  subst hq
  rcases hf with ⟨j, hj, hje, rfl⟩ | ⟨hno, rfl⟩
  · have hj0 : ¬ (j : Int) < 0 := by omega
    clear hj hje
    go_wp2_with fail
    refine wp_region_noPanic ?_
    refine wp_region_held_drew (S := (fun u => Below w1.heap.size w1 u)) (by kernel_rfl) (by first | exact (Below.refl _ _).drew | assumption | exact below_next (by assumption) (by assumption)) (fun hHeld => ?_)
    refine tz (i := 0) 12 rfl rfl hHeld ?_
    simp only [pS]
    refine run_at (i := 1) rfl (by kernel_rfl) (by rfl) (fun K hK => ?_)
    simp only [List.getElem_toArray, List.getElem_cons_zero, List.getElem_cons_succ]
    go_simp
    (go_at_call 64; refine Calls.mono (HV.out _ (by assumption)) ?_; rintro e9 u5 ⟨rfl, hu5⟩)
    go_wp2_with fail
    refine hK.out _ _ (by first | exact (Below.refl _ _).drew | assumption | exact below_next (by assumption) (by assumption)) ?_
    clear hK K
    intro hHeld2
    clear hHeld
    have hHeld := hHeld2
    clear hHeld2
    try simp only [pS]
    refine tz (i := 2) 14 rfl rfl hHeld ?_
    simp only [pS]
    refine tz (i := 3) 15 rfl rfl hHeld ?_
    simp only [pS]
    refine tz (i := 4) 16 rfl rfl hHeld ?_
    simp only [pS]
    refine tz (i := 5) 17 rfl rfl hHeld ?_
    simp only [pS]
    refine tz (i := 6) 18 rfl rfl hHeld ?_
    simp only [pS]
    refine tz (i := 7) 19 rfl rfl hHeld ?_
    simp only [pS]
    refine tz (i := 8) 20 rfl rfl hHeld ?_
    simp only [pS]
    refine tz (i := 9) 21 rfl rfl hHeld ?_
    simp only [pS]
    refine tz (i := 10) 22 rfl rfl hHeld ?_
    simp only [pS]
    refine tz (i := 11) 23 rfl rfl hHeld ?_
    simp only [pS]
    refine tz (i := 12) 24 rfl rfl hHeld ?_
    simp only [pS]
    refine tz (i := 13) 25 rfl rfl hHeld ?_
    simp only [pS]
    refine tz (i := 14) 26 rfl rfl hHeld ?_
    simp only [pS]
    refine tz (i := 15) 27 rfl rfl hHeld ?_
    simp only [pS]
    refine tz (i := 16) 28 rfl rfl hHeld ?_
    simp only [pS]
    refine tz (i := 17) 29 rfl rfl hHeld ?_
    simp only [pS]
    refine tz (i := 18) 30 rfl rfl hHeld ?_
    simp only [pS]
    refine tk (i := 19) 31 (v := (Value.bool false)) rfl rfl ?_ hHeld ?_
    · (intro w hSw; (try dsimp only at hSw); go_simp)
    simp only [pS]
    refine tz (i := 20) 32 rfl rfl hHeld ?_
    simp only [pS]
    refine tz (i := 21) 33 rfl rfl hHeld ?_
    simp only [pS]
    refine tz (i := 22) 34 rfl rfl hHeld ?_
    simp only [pS]
    refine tz (i := 23) 35 rfl rfl hHeld ?_
    simp only [pS]
    refine tz (i := 24) 36 rfl rfl hHeld ?_
    simp only [pS]
    refine tz (i := 25) 37 rfl rfl hHeld ?_
    simp only [pS]
    refine wpAnyH_done (by kernel_rfl) ?_ _
    refine NoPanic.normal ?_
    have hb2 := hHeld
    clear hu5 hsh hsh1
    have hd2 := (hb2.block _ (Array.getElem?_eq_some_iff.1 HD1.out).1).trans HD1.out
    have c0 : u5.cell? ⟨w.heap.size + 1, 0, none⟩ = some (.int .i64 0) := by rw [cell_of_row _ _ _ _ _ _ hd2]; rfl
    have c1 : u5.cell? ⟨w.heap.size + 1, 1, none⟩ = some (.int .u64 0) := by rw [cell_of_row _ _ _ _ _ _ hd2]; rfl
    have c2 : u5.cell? ⟨w.heap.size + 1, 2, none⟩ = some (.int .i64 0) := by rw [cell_of_row _ _ _ _ _ _ hd2]; rfl
    have f0 : u5.frozen? ⟨w.heap.size + 1, 0, none⟩ = false := by simp [World.frozen?, hd2]
    have f1 : u5.frozen? ⟨w.heap.size + 1, 1, none⟩ = false := by simp [World.frozen?, hd2]
    have f2 : u5.frozen? ⟨w.heap.size + 1, 2, none⟩ = false := by simp [World.frozen?, hd2]
    have HB2 : Hid (Below w.heap.size w u5) := HX.out _ hb2
    clear hb2 hd2 hHeld
    go_wp2
    exact bodyPost_ret (v := .tuple #[.agg #[.int .i64 0, .int .u64 0, .int .i64 0], .bool false]) (by simp [results, Tryz.results42, go_sem, c0, c1, c2, f0, f1, f2]) rfl ⟨rfl, ((HB2.out.setCell (p := ⟨w.heap.size + 1, 0, none⟩) (Nat.le_succ _) _).setCell (p := ⟨w.heap.size + 1, 1, none⟩) (Nat.le_succ _) _).setCell (p := ⟨w.heap.size + 1, 2, none⟩) (Nat.le_succ _) _⟩
  · exact absurd HIN.out hno
set_option maxRecDepth 20000 in
set_option maxHeartbeats 3200000 in
theorem rhear_in (h : Rx w q v X s) (x : Xe) (k e cd pt ix c : Int) (da : Option Addr) (dn dc : Nat) (ga : Option Addr) (gn gc : Nat) (l : List Rg) (hn : gn = l.length) (hx : RdR w ga l) (hl : gn ≤ 8796093022208) (hv : validR 2 (s.ep : Int) (x.n : Int) pt ix c dn cd gn l) (hxm : x ∈ s.L) (hcd : ¬ cd = 0) :
    Calls Tryz.prog 42 #[.pointer (some ⟨q, 0, none⟩), .agg (ucl 2 (s.ep : Int) (x.n : Int) pt ix c da dn dc cd ga gn gc)] w fun e9 w' => e9 = .returned (.tuple #[doneV x.k.1 (x.k.2 : Int) cd, .bool true]) ∧ ∃ v', Rx w' q v' X { s with L := dropX s.L x.n } ∧ RxStp w w' q v v' := by
  obtain ⟨w1, hw1⟩ : ∃ w1, w1 = (w.alloc (.cells (ucl 2 (s.ep : Int) (x.n : Int) pt ix c da dn dc cd ga gn gc) tUn)).alloc (.cells #[.int .i64 0, .int .u64 0, .int .i64 0] tDo) := ⟨_, rfl⟩
  obtain ⟨hb1, hsz1, hu1, hd1⟩ := hboxes w _ w1 hw1
  have hsh : ∀ u, Below w1.heap.size w1 u → u.cell? ⟨w.heap.size, 0, none⟩ = some (.int .i64 2) ∧ u.cell? ⟨w.heap.size, 1, none⟩ = some (.int .u64 (s.ep : Int)) ∧ u.cell? ⟨w.heap.size, 2, none⟩ = some (.int .u64 (x.n : Int)) ∧ u.cell? ⟨w.heap.size, 3, none⟩ = some (.int .i64 pt) ∧ u.cell? ⟨w.heap.size, 4, none⟩ = some (.int .i64 ix) ∧ u.cell? ⟨w.heap.size, 5, none⟩ = some (.int .i64 c) ∧ u.cell? ⟨w.heap.size, 6, none⟩ = some (.slice da dn dc) ∧ u.cell? ⟨w.heap.size, 7, none⟩ = some (.int .i64 cd) ∧ u.cell? ⟨w.heap.size, 8, none⟩ = some (.slice ga gn gc) ∧ u.cell? ⟨q, 6, none⟩ = some (.int .u64 (s.ep : Int)) ∧ u.cell? ⟨q, 8, none⟩ = some v := fun u hu => by
    have h9 := (hu.block _ (Array.getElem?_eq_some_iff.1 hu1).1).trans hu1
    have h8 := (h.below hb1).below hu
    refine ⟨?_, ?_, ?_, ?_, ?_, ?_, ?_, ?_, ?_, ?_, ?_⟩
    all_goals first | (rw [cell_of_row _ _ _ _ _ _ h9]; rfl) | exact h8.cell 6 | exact h8.cell 8
  have HV : Hid (∀ u, Below w1.heap.size w1 u → Calls Tryz.prog 64 #[.agg (ucl 2 (s.ep : Int) (x.n : Int) pt ix c da dn dc cd ga gn gc)] u fun e w' => e = .returned (.int .i64 0) ∧ Below u.heap.size u w') := fun u hu => by
    have h9 := rvalid_t 2 (s.ep : Int) (x.n : Int) pt ix c da dn dc cd ga gn gc l true (by simp; exact hv) u hn (hx.below (hb1.trans (hu.mono hb1.size))) hl
    simpa using h9
  have HNU : Hid _ := rnumbered_t (h.below hb1) x.n
  have hsh1 := hsh w1 (Below.refl _ _)
  have HB1 : Hid _ := hb1
  have HD1 : Hid _ := hd1
  have HH : Hid _ := h
  have HW1 : Hid (w1 = _) := hw1
  have HX : Hid (∀ u, Below w1.heap.size w1 u → Below w.heap.size w u) := fun u hu => hb1.trans (hu.mono hb1.size)
  clear h hb1 hw1 hd1 hu1 hsz1 hn hx hl hv
  go_enter Tryz.func42, Tryz.ntmps42
  go_wp2_with fail
  rw [← HW1.out]
  refine Calls.mono HNU.out ?_
  rintro e8 w8 ⟨hf, hq⟩
  have hq := hq.symm
  subst hq
  rcases hf with ⟨j, hj, hje, rfl⟩ | ⟨hno, rfl⟩
  · have hj0 : ¬ (j : Int) < 0 := by omega
    have hj1 : (0 : Int) ≤ (j : Int) := by omega
    have hxe : s.L[j] = x := num_inj HH.out.inv.nn (List.getElem_mem hj) hxm hje
    have hR1 := HH.out.below HB1.out
    obtain ⟨g, cp, hv, -, -, -, -⟩ := hR1.row.one (by omega)
    obtain ⟨N, hN⟩ : ∃ N, N = s.L.length := ⟨_, rfl⟩
    rw [← hN] at hv
    have hrow := hR1.row
    have hji : (j : Int) < (N : Int) := by omega
    have hrc : ∀ u, Below w1.heap.size w1 u → u.cell? ⟨g, j * 4 + 1, none⟩ = some (.int .i64 x.k.1) ∧ u.cell? ⟨g, j * 4 + 1 + 1, none⟩ = some (.int .u64 (x.k.2 : Int)) := fun u hu => by
      have h9 := (HH.out.below (HX.out u hu)).row
      rw [hv] at h9
      have a1 := OwnG.cell h9 hN j 1 hj (by decide)
      have a2 := OwnG.cell h9 hN j 2 hj (by decide)
      rw [hxe] at a1 a2
      exact ⟨a1, a2⟩
    have HXE : Hid (s.L.eraseIdx j = dropX s.L x.n) := by unfold Hid; rw [erase_drop HH.out.inv.nn j hj, hxe]
    have HE : Hid (∀ u, Below w1.heap.size w1 u → Calls _ _ _ u _) := fun u hu => rend_t (HH.out.below (HX.out u hu)) j hj
    have HV2 : Hid _ := hv
    rw [hv] at hsh hsh1
    clear hj hje hxe hR1 hv hN hrow hxm
    go_wp2_with fail
    refine wp_region_noPanic ?_
    refine wp_region_held_drew (S := (fun u => Below w1.heap.size w1 u)) (by kernel_rfl) (by first | exact (Below.refl _ _).drew | assumption | exact below_next (by assumption) (by assumption)) (fun hHeld => ?_)
    refine tz (i := 0) 12 rfl rfl hHeld ?_
    simp only [pS]
    refine run_at (i := 1) rfl (by kernel_rfl) (by rfl) (fun K hK => ?_)
    simp only [List.getElem_toArray, List.getElem_cons_zero, List.getElem_cons_succ]
    go_simp
    (go_at_call 64; refine Calls.mono (HV.out _ (by assumption)) ?_; rintro e9 u5 ⟨rfl, hu5⟩)
    go_wp2_with fail
    refine hK.out _ _ (by first | exact (Below.refl _ _).drew | assumption | exact below_next (by assumption) (by assumption)) ?_
    clear hK K
    intro hHeld2
    clear hHeld
    have hHeld := hHeld2
    clear hHeld2
    try simp only [pS]
    refine tz (i := 2) 14 rfl rfl hHeld ?_
    simp only [pS]
    refine tz (i := 3) 15 rfl rfl hHeld ?_
    simp only [pS]
    refine tz (i := 4) 16 rfl rfl hHeld ?_
    simp only [pS]
    refine tz (i := 5) 17 rfl rfl hHeld ?_
    simp only [pS]
    refine tz (i := 6) 18 rfl rfl hHeld ?_
    simp only [pS]
    refine tz (i := 7) 19 rfl rfl hHeld ?_
    simp only [pS]
    refine tz (i := 8) 20 rfl rfl hHeld ?_
    simp only [pS]
    refine tz (i := 9) 21 rfl rfl hHeld ?_
    simp only [pS]
    refine tz (i := 10) 22 rfl rfl hHeld ?_
    simp only [pS]
    refine tz (i := 11) 23 rfl rfl hHeld ?_
    simp only [pS]
    refine tz (i := 12) 24 rfl rfl hHeld ?_
    simp only [pS]
    refine tz (i := 13) 25 rfl rfl hHeld ?_
    simp only [pS]
    refine tz (i := 14) 26 rfl rfl hHeld ?_
    simp only [pS]
    refine tz (i := 15) 27 rfl rfl hHeld ?_
    simp only [pS]
    refine tz (i := 16) 28 rfl rfl hHeld ?_
    simp only [pS]
    refine tz (i := 17) 29 rfl rfl hHeld ?_
    simp only [pS]
    refine tz (i := 18) 30 rfl rfl hHeld ?_
    simp only [pS]
    refine tk (i := 19) 31 (v := (Value.bool false)) rfl rfl ?_ hHeld ?_
    · (intro w hSw; (try dsimp only at hSw); go_simp)
    simp only [pS]
    refine tz (i := 20) 32 rfl rfl hHeld ?_
    simp only [pS]
    refine tz (i := 21) 33 rfl rfl hHeld ?_
    simp only [pS]
    refine tz (i := 22) 34 rfl rfl hHeld ?_
    simp only [pS]
    refine tz (i := 23) 35 rfl rfl hHeld ?_
    simp only [pS]
    refine tk (i := 24) 36 (v := (Value.bool false)) rfl rfl ?_ hHeld ?_
    · (intro w hSw; (try dsimp only at hSw); go_simp)
    simp only [pS]
    refine tz (i := 25) 37 rfl rfl hHeld ?_
    simp only [pS]
    refine wpAnyH_done (by kernel_rfl) ?_ _
    refine NoPanic.normal ?_
    have hb2 := hHeld
    have HB2 : Hid _ := hb2
    clear hu5 hsh1 hHeld
    go_wp2_with fail
    refine wp_region_noPanic ?_
    refine wp_region_held_drew (S := (fun u => Below w1.heap.size w1 u)) (by kernel_rfl) (by first | exact hb2.drew | assumption | exact hb2.drew.alloc hb2.size _ | exact (hb2.alloc hb2.size _).drew | exact HB3.out) (fun hHeld => ?_)
    refine tz (i := 0) 39 rfl rfl hHeld ?_
    simp only [pS]
    refine tz (i := 1) 40 rfl rfl hHeld ?_
    simp only [pS]
    refine tz (i := 2) 41 rfl rfl hHeld ?_
    simp only [pS]
    refine tz (i := 3) 42 rfl rfl hHeld ?_
    simp only [pS]
    refine tz (i := 4) 43 rfl rfl hHeld ?_
    simp only [pS]
    refine tz (i := 5) 44 rfl rfl hHeld ?_
    simp only [pS]
    refine tz (i := 6) 45 rfl rfl hHeld ?_
    simp only [pS]
    refine tz (i := 7) 46 rfl rfl hHeld ?_
    simp only [pS]
    refine tz (i := 8) 47 rfl rfl hHeld ?_
    simp only [pS]
    refine tz (i := 9) 48 rfl rfl hHeld ?_
    simp only [pS]
    refine tz (i := 10) 49 rfl rfl hHeld ?_
    simp only [pS]
    refine run_at (i := 11) rfl (by kernel_rfl) (by rfl) (fun K hK => ?_)
    simp only [List.getElem_toArray, List.getElem_cons_zero, List.getElem_cons_succ]
    go_simp
    go_wp2_with fail
    refine hK.out _ _ (by first | exact hb2.drew | assumption | exact hb2.drew.alloc hb2.size _ | exact (hb2.alloc hb2.size _).drew | exact HB3.out) ?_
    clear hK K
    intro hHeld2
    clear hHeld
    have hHeld := hHeld2
    clear hHeld2
    try simp only [pS]
    refine run_at (i := 12) rfl (by kernel_rfl) (by rfl) (fun K hK => ?_)
    simp only [List.getElem_toArray, List.getElem_cons_zero, List.getElem_cons_succ]
    (refine wp_store_row tDo _ _ rfl u5.heap.size #[.int .i64 x.k.1, .int .u64 (x.k.2 : Int), .int .i64 cd] (by rfl) (by rfl) tDo _ (heap_alloc_new u5 _) infoD3 rfl (done_one _ _ _) ?_; have HB3 : Hid _ := below_setRow (B := w1.heap.size) (w0 := w1) (hb2.alloc hb2.size (.cells #[.int .i64 0, .int .u64 0, .int .i64 0] tDo)).drew hb2.size #[.int .i64 x.k.1, .int .u64 (x.k.2 : Int), .int .i64 cd]; have HH3 : Hid _ := setRow_heap _ u5.heap.size _ #[.int .i64 x.k.1, .int .u64 (x.k.2 : Int), .int .i64 cd] tDo _ (heap_alloc_new u5 (.cells #[.int .i64 0, .int .u64 0, .int .i64 0] tDo)))
    refine hK.out _ _ (by first | exact hb2.drew | assumption | exact hb2.drew.alloc hb2.size _ | exact (hb2.alloc hb2.size _).drew | exact HB3.out) ?_
    clear hK K
    intro hHeld2
    clear hHeld
    have hHeld := hHeld2
    clear hHeld2
    try simp only [pS]
    refine wpAnyH_done (by kernel_rfl) ?_ _
    refine NoPanic.normal ?_
    clear hHeld hrc hsh
    obtain ⟨w4, hw4⟩ : ∃ w4, w4 = ((u5.alloc (.cells #[.int .i64 0, .int .u64 0, .int .i64 0] tDo)).drew).setRow u5.heap.size #[.int .i64 x.k.1, .int .u64 (x.k.2 : Int), .int .i64 cd] := ⟨_, rfl⟩
    have hb4 : Below w1.heap.size w1 w4 := by rw [hw4]; exact HB3.out
    have hh4 : w4.heap[u5.heap.size]? = some (.cells #[.int .i64 x.k.1, .int .u64 (x.k.2 : Int), .int .i64 cd] tDo (0, 0)) := by rw [hw4]; exact HH3.out
    first | rw [← hw4] | (trace_state; fail)
    have HB4 : Hid _ := hb4
    have HH4 : Hid _ := hh4
    have HSZ5 : Hid (w1.heap.size ≤ u5.heap.size) := hb2.size
    have HSZ1 : Hid (w1.heap.size = w.heap.size + 2) := by unfold Hid; rw [HW1.out]; simp
    clear hw4 hb4 hh4 hb2 HB3 HH3
    go_wp2_with fail
    refine Calls.mono (HE.out _ HB4.out) ?_
    rintro e7 w7 ⟨rfl, v', hR7, hst7⟩
    have hfo : ∀ b, w.heap.size ≤ b → ¬ footR q v b := fun b hb hf => by have := HH.out.lt hf; omega
    have hh7 := (hst7.chg.block u5.heap.size (Array.getElem?_eq_some_iff.1 HH4.out).1 (hfo _ (by have := HSZ5.out; have := HSZ1.out; omega))).trans HH4.out
    have hd4 := (HB4.out.block _ (Array.getElem?_eq_some_iff.1 HD1.out).1).trans HD1.out
    have hd7 := (hst7.chg.block (w.heap.size + 1) (Array.getElem?_eq_some_iff.1 hd4).1 (hfo _ (by omega))).trans hd4
    have a0 : w7.cell? ⟨u5.heap.size, 0, none⟩ = some (.int .i64 x.k.1) := by rw [cell_of_row _ _ _ _ _ _ hh7]; rfl
    have a1 : w7.cell? ⟨u5.heap.size, 1, none⟩ = some (.int .u64 (x.k.2 : Int)) := by rw [cell_of_row _ _ _ _ _ _ hh7]; rfl
    have a2 : w7.cell? ⟨u5.heap.size, 2, none⟩ = some (.int .i64 cd) := by rw [cell_of_row _ _ _ _ _ _ hh7]; rfl
    have c0 : w7.cell? ⟨w.heap.size + 1, 0, none⟩ = some (.int .i64 0) := by rw [cell_of_row _ _ _ _ _ _ hd7]; rfl
    have c1 : w7.cell? ⟨w.heap.size + 1, 1, none⟩ = some (.int .u64 0) := by rw [cell_of_row _ _ _ _ _ _ hd7]; rfl
    have c2 : w7.cell? ⟨w.heap.size + 1, 2, none⟩ = some (.int .i64 0) := by rw [cell_of_row _ _ _ _ _ _ hd7]; rfl
    have f0 : w7.frozen? ⟨w.heap.size + 1, 0, none⟩ = false := by simp [World.frozen?, hd7]
    have f1 : w7.frozen? ⟨w.heap.size + 1, 1, none⟩ = false := by simp [World.frozen?, hd7]
    have f2 : w7.frozen? ⟨w.heap.size + 1, 2, none⟩ = false := by simp [World.frozen?, hd7]
    have HR7 : Hid _ := hR7
    have HS7 : Hid _ := hst7
    clear hR7 hst7 hfo hh7 hd4 hd7
    go_wp2
    refine bodyPost_ret (v := .tuple #[doneV x.k.1 (x.k.2 : Int) cd, .bool true]) (by simp [results, Tryz.results42, go_sem, c0, c1, c2, f0, f1, f2]) rfl ⟨rfl, v', ?_, ?_⟩
    · have h9 := HR7.out
      rw [HXE.out] at h9
      refine h9.chg (Chg.of_grown (F := fun b => b = w.heap.size + 1) (grow_trans (grow_trans (gset1 _ _ _ _) (gset1 _ _ _ _)) (gset1 _ _ _ _)) (fun b e => (Option.some.inj e).symm)) (fun b hb e => ?_)
      rcases HS7.out.new b hb with h1 | h1
      · have := HH.out.lt h1; omega
      · have := HB4.out.size; have := HSZ1.out; omega
    · have h1 := (RxStp.below (HX.out _ HB4.out) q v).trans HS7.out
      refine ⟨h1.chg.trans (Chg.of_grown (F := fun b => b = w.heap.size + 1) (grow_trans (grow_trans (gset1 _ _ _ _) (gset1 _ _ _ _)) (gset1 _ _ _ _)) (fun b e => (Option.some.inj e).symm)) (fun b hb => .inr (by omega)), h1.new⟩
  · exact absurd (List.mem_map.2 ⟨x, hxm, rfl⟩) hno
end
end Go.Proofs.YtiedgcanndgmoaaGreatDoor
