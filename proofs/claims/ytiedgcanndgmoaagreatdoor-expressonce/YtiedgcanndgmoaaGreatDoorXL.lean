import Derived.Test.YtiedgcanndgmoaaGreatDoorXJ
import Derived.Test.YtiedgcanndgmoaaGreatDoorXV
namespace Go.Proofs.YtiedgcanndgmoaaGreatDoor
set_option linter.unusedVariables false
set_option linter.unusedSimpArgs false
open Go.RowKit Go.Maps
/-- a sender that New made -/
def newX (m a ep now : Nat) : Xs := ⟨m, a, ep, min now mxX, 0, min now mxX, []⟩
theorem newX_inv {m a ep now : Nat} (h1 : 16 ≤ m ∧ m ≤ 1024) (h2 : 1 ≤ a ∧ a ≤ 4096) (h3 : 1 ≤ ep ∧ ep ≤ mxX) : XInv (newX m a ep now) :=
  ⟨h1, h2, h3, Nat.min_le_right _ _, Nat.le_refl _, Nat.zero_le _, (fun x hx => by cases hx), (fun x hx => by cases hx), List.nodup_nil, List.nodup_nil, List.Pairwise.nil, (fun x hx => by cases hx), List.Pairwise.nil, (fun x hx => by cases hx), (fun x hx => by cases hx)⟩
section
variable {w w3 : World} {P M : Nat} {V : Nat → Nat → Value}
theorem newX_at {m a ep now : Nat} (h1 : 16 ≤ m ∧ m ≤ 1024) (h2 : 1 ≤ a ∧ a ≤ 4096) (h3 : 1 ≤ ep ∧ ep ≤ mxX) (hw : Wh.Wt w3 P M (min now mxX) 0 [] V) (hb : Below w.heap.size w w3) (hf : ∀ b, Wh.footW P M V b → w.heap.size ≤ b) (ms mn : Nat) (hm : (ms = w3.heap.size ∧ mn = w3.heap.size + 1) ∨ (ms = w3.heap.size + 1 ∧ mn = w3.heap.size)) (u : World)
    (hu : u = ((w3.drew.alloc (.map #[] 0)).alloc (.map #[] 0)).alloc (.cells (cellsX (newX m a ep now) ms mn P) tXs)) :
    XSt u (w3.heap.size + 2) ms mn P M V (newX m a ep now) ∧ Below w.heap.size w u ∧ ∀ b, footX (w3.heap.size + 2) ms mn P M V b → w.heap.size ≤ b := by
  have hs3 := hb.size
  obtain ⟨u1, hu1⟩ : ∃ u1, u1 = w3.drew.alloc (.map #[] 0) := ⟨_, rfl⟩
  obtain ⟨u2, hu2⟩ : ∃ u2, u2 = u1.alloc (.map #[] 0) := ⟨_, rfl⟩
  rw [← hu1, ← hu2] at hu
  have z1 : u1.heap.size = w3.heap.size + 1 := by rw [hu1]; simp
  have z2 : u2.heap.size = w3.heap.size + 2 := by rw [hu2]; simp [z1]
  have b1 : Below w3.heap.size w3 u1 := by rw [hu1]; exact (Below.refl _ _).drew.alloc (by simp) _
  have b2 : Below w3.heap.size w3 u2 := by rw [hu2]; exact b1.alloc (by omega) _
  have b3 : Below w3.heap.size w3 u := by rw [hu]; exact b2.alloc (by omega) _
  have e1 : u1.heap[w3.heap.size]? = some (.map #[] 0) := by rw [hu1]; exact heap_alloc_new w3.drew _
  have e2 : u2.heap[w3.heap.size + 1]? = some (.map #[] 0) := by rw [hu2, ← z1]; exact heap_alloc_new u1 _
  have e1' : u.heap[w3.heap.size]? = some (.map #[] 0) := by rw [hu, Below.heap_alloc _ _ _ (by omega), hu2, Below.heap_alloc _ _ _ (by omega)]; exact e1
  have e2' : u.heap[w3.heap.size + 1]? = some (.map #[] 0) := by rw [hu, Below.heap_alloc _ _ _ (by omega)]; exact e2
  have e3 : u.heap[w3.heap.size + 2]? = some (.cells (cellsX (newX m a ep now) ms mn P) tXs (0, 0)) := by rw [hu, ← z2]; exact heap_alloc_new u2 _
  have hlt : ∀ b, Wh.footW P M V b → b < w3.heap.size := fun b hb => hw.lt hb
  have hmm : u.heap[ms]? = some (.map #[] 0) ∧ u.heap[mn]? = some (.map #[] 0) := by
    rcases hm with ⟨rfl, rfl⟩ | ⟨rfl, rfl⟩
    · exact ⟨e1', e2'⟩
    · exact ⟨e2', e1'⟩
  refine ⟨⟨e3, MapG.nil hmm.1, MapG.nil hmm.2, hw.below b3, newX_inv h1 h2 h3, by omega, fun h9 => ?_, fun h9 => ?_, fun h9 => ?_⟩, hb.trans (b3.mono hs3), fun b h9 => ?_⟩
  · have := hlt _ h9; omega
  · have := hlt _ h9; omega
  · have := hlt _ h9; omega
  · rcases h9 with h9 | h9 | h9 | h9
    · omega
    · omega
    · omega
    · exact hf b h9
set_option maxRecDepth 20000 in
set_option maxHeartbeats 1600000 in
theorem xnew_t (m a r : Nat) (t v i : Int) (ep now : Nat) (hz : 0 < w.heap.size) (hc : CfgOk m a r t v i) (he : 1 ≤ ep ∧ ep ≤ mxX) :
    Calls Tryz.prog 6 #[cfgv m a r t v i, .int .u64 (ep : Int), .int .u64 (now : Int)] w fun e w' => ∃ p ms mn P M V, e = .returned (.tuple #[.pointer (some ⟨p, 0, none⟩), .int .i64 0]) ∧ XSt w' p ms mn P M V (newX m a ep now) ∧ Below w.heap.size w w' ∧ ∀ b, footX p ms mn P M V b → w.heap.size ≤ b := by
  obtain ⟨w1, hw1⟩ : ∃ w1, w1 = w.alloc (.cells #[.int .i64 (m : Int), .int .u64 (a : Int), .int .u64 (r : Int), .int .i64 t, .int .i64 v, .int .i64 i] 25) := ⟨_, rfl⟩
  have hb1 : Below w.heap.size w w1 := by rw [hw1]; exact alw (Below.refl _ _) _
  have hbox : w1.heap[w.heap.size]? = some (.cells #[.int .i64 (m : Int), .int .u64 (a : Int), .int .u64 (r : Int), .int .i64 t, .int .i64 v, .int .i64 i] 25 (0, 0)) := by rw [hw1]; exact heap_alloc_new w _
  have hm : 16 ≤ m ∧ m ≤ 1024 := by have := hc.1; have := hc.2.1; omega
  have ha : 1 ≤ a ∧ a ≤ 4096 := by have := hc.2.2.1; have := hc.2.2.2.1; omega
  have HV : Hid (Calls Tryz.prog 22 #[cfgv m a r t v i] w1 fun e w' => e = .returned (.bool true) ∧ Below w1.heap.size w1 w') := by
    haveI := Classical.propDecidable (CfgOk m a r t v i)
    have h9 := cfg_t m a r t v i w1
    rw [decide_eq_true hc] at h9
    exact h9
  have HE : Hid (∀ u, Calls Tryz.prog 23 #[.int .u64 (ep : Int)] u fun e w' => e = .returned (.bool true) ∧ w' = u) := fun u => by
    have h9 := isNumber_t ep u
    rw [decide_eq_true he] at h9
    exact h9
  have HB1 : Hid _ := hb1
  have HBOX : Hid _ := hbox
  have HW1 : Hid (w1 = _) := hw1
  have HOK : Hid _ := And.intro hm (And.intro ha he)
  have HZ : Hid _ := hz
  have hcb : ∀ u, Below w1.heap.size w1 u → u.cell? ⟨w.heap.size, 0, none⟩ = some (.int .i64 (m : Int)) ∧ u.cell? ⟨w.heap.size, 1, none⟩ = some (.int .u64 (a : Int)) := fun u hu => by
    have h9 := (hu.block _ (Array.getElem?_eq_some_iff.1 hbox).1).trans hbox
    exact ⟨by rw [cell_of_row _ _ _ _ _ _ h9]; rfl, by rw [cell_of_row _ _ _ _ _ _ h9]; rfl⟩
  clear hw1 hb1 hbox hm ha hc he hz
  go_enter Tryz.func6, Tryz.ntmps6
  go_wp2_with fail
  rw [← HW1.out]
  refine Calls.mono HV.out ?_
  rintro e w2 ⟨rfl, hb2⟩
  have HB2 : Hid _ := hb2
  clear hb2
  go_wp2_with (first | (go_at_call 23; refine Calls.mono (HE.out _) ?_; rintro e u2 ⟨rfl, hq⟩; have hq := hq.symm; subst hq) | (go_at_call 24; refine Calls.mono (Wh.new_t now w2 (Nat.lt_of_lt_of_le HZ.out (Nat.le_trans HB1.out.size HB2.out.size))) ?_; rintro e w3 ⟨P, M, V, rfl, hwt, hb3, hf3⟩; have HWT : Hid _ := hwt; have HB3 : Hid _ := hb3; have HF3 : Hid _ := hf3; clear hwt hb3 hf3))
  have hcc : ∀ u, Below w3.heap.size w3 u → u.cell? ⟨w.heap.size, 0, none⟩ = some (.int .i64 (m : Int)) ∧ u.cell? ⟨w.heap.size, 1, none⟩ = some (.int .u64 (a : Int)) := fun u hu => hcb u (below_next (below_next HB2.out HB3.out) hu)
  have HNOW : Hid (∀ u, Below w3.heap.size w3 u → Calls Tryz.prog 25 #[.pointer (some ⟨P, 0, none⟩)] u fun e w' => e = .returned (.int .u64 ((min now mxX : Nat) : Int)) ∧ w' = u) := fun u hu => Wh.now_t (Wh.Wt.below HWT.out hu)
  have hmm := @run_makeMap Tryz.prog
  clear hcb
  have HBW : Hid (Below w.heap.size w w3) := HB1.out.trans ((below_next HB2.out HB3.out).mono HB1.out.size)
  have HFW : Hid (∀ b, Wh.footW P M V b → w.heap.size ≤ b) := fun b hb => Nat.le_trans (Nat.le_trans HB1.out.size HB2.out.size) (HF3.out b hb)
  refine wp_region_noPanic ?_
  refine wp_region_held_drew (S := (fun u => Below w3.heap.size w3 u)) (by kernel_rfl) (by first | exact (Below.refl _ _).drew | assumption | exact Below.alloc (Below.refl _ _).drew (by simp <;> omega) _ | exact Below.alloc (Below.alloc (Below.refl _ _).drew (by simp <;> omega) _) (by simp <;> omega) _ | exact Below.alloc (Below.alloc (Below.alloc (Below.refl _ _).drew (by simp <;> omega) _) (by simp <;> omega) _) (by simp <;> omega) _) (fun hHeld => ?_)
  refine tz (i := 0) 23 rfl rfl hHeld ?_
  simp only [pS]
  refine tz (i := 1) 24 rfl rfl hHeld ?_
  simp only [pS]
  refine tz (i := 2) 25 rfl rfl hHeld ?_
  simp only [pS]
  refine tz (i := 3) 26 rfl rfl hHeld ?_
  simp only [pS]
  refine tz (i := 4) 27 rfl rfl hHeld ?_
  simp only [pS]
  refine tz (i := 5) 28 rfl rfl hHeld ?_
  simp only [pS]
  refine tz (i := 9) 32 rfl rfl hHeld ?_
  simp only [pS]
  refine wpAnyH_ready (rs := [6, 7, 8]) (by kernel_rfl) (by simp) ?_
  refine AllReadyH.cons (o := _) rfl (fun K hK => ?_) ?_
  focus
    rw [if_pos (by rfl)]
    simp only [List.getElem_toArray, List.getElem_cons_zero, List.getElem_cons_succ]
    go_simp
    (go_at_call 25; refine Calls.mono (HNOW.out _ (by first | exact (Below.refl _ _).drew | exact Below.alloc (Below.refl _ _).drew (by simp <;> omega) _ | exact Below.alloc (Below.alloc (Below.refl _ _).drew (by simp <;> omega) _) (by simp <;> omega) _)) ?_; rintro e9 u4 ⟨rfl, hq4⟩; have hq4 := hq4.symm; subst hq4)
    go_wp2_with fail
    refine hK.out _ _ (by first | exact (Below.refl _ _).drew | assumption | exact Below.alloc (Below.refl _ _).drew (by simp <;> omega) _ | exact Below.alloc (Below.alloc (Below.refl _ _).drew (by simp <;> omega) _) (by simp <;> omega) _ | exact Below.alloc (Below.alloc (Below.alloc (Below.refl _ _).drew (by simp <;> omega) _) (by simp <;> omega) _) (by simp <;> omega) _) ?_
    clear hK K
    intro hHeld2
    clear hHeld
    have hHeld := hHeld2
    clear hHeld2
    try simp only [pS]
    refine wpAnyH_ready (rs := [7, 8]) (by kernel_rfl) (by simp) ?_
    refine AllReadyH.cons (o := _) rfl (fun K hK => ?_) ?_
    focus
      rw [if_pos (by rfl)]
      simp only [List.getElem_toArray, List.getElem_cons_zero, List.getElem_cons_succ]
      go_simp
      go_wp2_with fail
      refine hK.out _ _ (by first | exact (Below.refl _ _).drew | assumption | exact Below.alloc (Below.refl _ _).drew (by simp <;> omega) _ | exact Below.alloc (Below.alloc (Below.refl _ _).drew (by simp <;> omega) _) (by simp <;> omega) _ | exact Below.alloc (Below.alloc (Below.alloc (Below.refl _ _).drew (by simp <;> omega) _) (by simp <;> omega) _) (by simp <;> omega) _) ?_
      clear hK K
      intro hHeld2
      clear hHeld
      have hHeld := hHeld2
      clear hHeld2
      try simp only [pS]
      refine run_at (i := 8) rfl (by kernel_rfl) (by rfl) (fun K hK => ?_)
      simp only [List.getElem_toArray, List.getElem_cons_zero, List.getElem_cons_succ]
      go_simp
      go_wp2_with fail
      refine hK.out _ _ (by first | exact (Below.refl _ _).drew | assumption | exact Below.alloc (Below.refl _ _).drew (by simp <;> omega) _ | exact Below.alloc (Below.alloc (Below.refl _ _).drew (by simp <;> omega) _) (by simp <;> omega) _ | exact Below.alloc (Below.alloc (Below.alloc (Below.refl _ _).drew (by simp <;> omega) _) (by simp <;> omega) _) (by simp <;> omega) _) ?_
      clear hK K
      intro hHeld2
      clear hHeld
      have hHeld := hHeld2
      clear hHeld2
      try simp only [pS]
      refine tz (i := 10) 33 rfl rfl hHeld ?_
      simp only [pS]
      refine run_at (i := 11) rfl (by kernel_rfl) (by rfl) (fun K hK => ?_)
      simp only [List.getElem_toArray, List.getElem_cons_zero, List.getElem_cons_succ]
      go_simp
      go_wp2_with fail
      refine hK.out _ _ (by first | exact (Below.refl _ _).drew | assumption | exact Below.alloc (Below.refl _ _).drew (by simp <;> omega) _ | exact Below.alloc (Below.alloc (Below.refl _ _).drew (by simp <;> omega) _) (by simp <;> omega) _ | exact Below.alloc (Below.alloc (Below.alloc (Below.refl _ _).drew (by simp <;> omega) _) (by simp <;> omega) _) (by simp <;> omega) _) ?_
      clear hK K
      intro hHeld2
      clear hHeld
      have hHeld := hHeld2
      clear hHeld2
      try simp only [pS]
      refine tz (i := 12) 6 rfl rfl hHeld ?_
      simp only [pS]
      refine tz (i := 13) 7 rfl rfl hHeld ?_
      simp only [pS]
      refine wpAnyH_done (by kernel_rfl) ?_ _
      refine NoPanic.normal ?_
    rotate_left 1
    refine AllReadyH.cons (o := _) rfl (fun K hK => ?_) AllReadyH.nil
    focus
      rw [if_pos (by rfl)]
      simp only [List.getElem_toArray, List.getElem_cons_zero, List.getElem_cons_succ]
      go_simp
      go_wp2_with fail
      refine hK.out _ _ (by first | exact (Below.refl _ _).drew | assumption | exact Below.alloc (Below.refl _ _).drew (by simp <;> omega) _ | exact Below.alloc (Below.alloc (Below.refl _ _).drew (by simp <;> omega) _) (by simp <;> omega) _ | exact Below.alloc (Below.alloc (Below.alloc (Below.refl _ _).drew (by simp <;> omega) _) (by simp <;> omega) _) (by simp <;> omega) _) ?_
      clear hK K
      intro hHeld2
      clear hHeld
      have hHeld := hHeld2
      clear hHeld2
      try simp only [pS]
      refine run_at (i := 7) rfl (by kernel_rfl) (by rfl) (fun K hK => ?_)
      simp only [List.getElem_toArray, List.getElem_cons_zero, List.getElem_cons_succ]
      go_simp
      go_wp2_with fail
      refine hK.out _ _ (by first | exact (Below.refl _ _).drew | assumption | exact Below.alloc (Below.refl _ _).drew (by simp <;> omega) _ | exact Below.alloc (Below.alloc (Below.refl _ _).drew (by simp <;> omega) _) (by simp <;> omega) _ | exact Below.alloc (Below.alloc (Below.alloc (Below.refl _ _).drew (by simp <;> omega) _) (by simp <;> omega) _) (by simp <;> omega) _) ?_
      clear hK K
      intro hHeld2
      clear hHeld
      have hHeld := hHeld2
      clear hHeld2
      try simp only [pS]
      refine tz (i := 10) 33 rfl rfl hHeld ?_
      simp only [pS]
      refine run_at (i := 11) rfl (by kernel_rfl) (by rfl) (fun K hK => ?_)
      simp only [List.getElem_toArray, List.getElem_cons_zero, List.getElem_cons_succ]
      go_simp
      go_wp2_with fail
      refine hK.out _ _ (by first | exact (Below.refl _ _).drew | assumption | exact Below.alloc (Below.refl _ _).drew (by simp <;> omega) _ | exact Below.alloc (Below.alloc (Below.refl _ _).drew (by simp <;> omega) _) (by simp <;> omega) _ | exact Below.alloc (Below.alloc (Below.alloc (Below.refl _ _).drew (by simp <;> omega) _) (by simp <;> omega) _) (by simp <;> omega) _) ?_
      clear hK K
      intro hHeld2
      clear hHeld
      have hHeld := hHeld2
      clear hHeld2
      try simp only [pS]
      refine tz (i := 12) 6 rfl rfl hHeld ?_
      simp only [pS]
      refine tz (i := 13) 7 rfl rfl hHeld ?_
      simp only [pS]
      refine wpAnyH_done (by kernel_rfl) ?_ _
      refine NoPanic.normal ?_
  rotate_left 2
  refine AllReadyH.cons (o := _) rfl (fun K hK => ?_) ?_
  focus
    rw [if_pos (by rfl)]
    simp only [List.getElem_toArray, List.getElem_cons_zero, List.getElem_cons_succ]
    go_simp
    go_wp2_with fail
    refine hK.out _ _ (by first | exact (Below.refl _ _).drew | assumption | exact Below.alloc (Below.refl _ _).drew (by simp <;> omega) _ | exact Below.alloc (Below.alloc (Below.refl _ _).drew (by simp <;> omega) _) (by simp <;> omega) _ | exact Below.alloc (Below.alloc (Below.alloc (Below.refl _ _).drew (by simp <;> omega) _) (by simp <;> omega) _) (by simp <;> omega) _) ?_
    clear hK K
    intro hHeld2
    clear hHeld
    have hHeld := hHeld2
    clear hHeld2
    try simp only [pS]
    refine wpAnyH_ready (rs := [6, 8]) (by kernel_rfl) (by simp) ?_
    refine AllReadyH.cons (o := _) rfl (fun K hK => ?_) ?_
    focus
      rw [if_pos (by rfl)]
      simp only [List.getElem_toArray, List.getElem_cons_zero, List.getElem_cons_succ]
      go_simp
      (go_at_call 25; refine Calls.mono (HNOW.out _ (by first | exact (Below.refl _ _).drew | exact Below.alloc (Below.refl _ _).drew (by simp <;> omega) _ | exact Below.alloc (Below.alloc (Below.refl _ _).drew (by simp <;> omega) _) (by simp <;> omega) _)) ?_; rintro e9 u4 ⟨rfl, hq4⟩; have hq4 := hq4.symm; subst hq4)
      go_wp2_with fail
      refine hK.out _ _ (by first | exact (Below.refl _ _).drew | assumption | exact Below.alloc (Below.refl _ _).drew (by simp <;> omega) _ | exact Below.alloc (Below.alloc (Below.refl _ _).drew (by simp <;> omega) _) (by simp <;> omega) _ | exact Below.alloc (Below.alloc (Below.alloc (Below.refl _ _).drew (by simp <;> omega) _) (by simp <;> omega) _) (by simp <;> omega) _) ?_
      clear hK K
      intro hHeld2
      clear hHeld
      have hHeld := hHeld2
      clear hHeld2
      try simp only [pS]
      refine run_at (i := 8) rfl (by kernel_rfl) (by rfl) (fun K hK => ?_)
      simp only [List.getElem_toArray, List.getElem_cons_zero, List.getElem_cons_succ]
      go_simp
      go_wp2_with fail
      refine hK.out _ _ (by first | exact (Below.refl _ _).drew | assumption | exact Below.alloc (Below.refl _ _).drew (by simp <;> omega) _ | exact Below.alloc (Below.alloc (Below.refl _ _).drew (by simp <;> omega) _) (by simp <;> omega) _ | exact Below.alloc (Below.alloc (Below.alloc (Below.refl _ _).drew (by simp <;> omega) _) (by simp <;> omega) _) (by simp <;> omega) _) ?_
      clear hK K
      intro hHeld2
      clear hHeld
      have hHeld := hHeld2
      clear hHeld2
      try simp only [pS]
      refine tz (i := 10) 33 rfl rfl hHeld ?_
      simp only [pS]
      refine run_at (i := 11) rfl (by kernel_rfl) (by rfl) (fun K hK => ?_)
      simp only [List.getElem_toArray, List.getElem_cons_zero, List.getElem_cons_succ]
      go_simp
      go_wp2_with fail
      refine hK.out _ _ (by first | exact (Below.refl _ _).drew | assumption | exact Below.alloc (Below.refl _ _).drew (by simp <;> omega) _ | exact Below.alloc (Below.alloc (Below.refl _ _).drew (by simp <;> omega) _) (by simp <;> omega) _ | exact Below.alloc (Below.alloc (Below.alloc (Below.refl _ _).drew (by simp <;> omega) _) (by simp <;> omega) _) (by simp <;> omega) _) ?_
      clear hK K
      intro hHeld2
      clear hHeld
      have hHeld := hHeld2
      clear hHeld2
      try simp only [pS]
      refine tz (i := 12) 6 rfl rfl hHeld ?_
      simp only [pS]
      refine tz (i := 13) 7 rfl rfl hHeld ?_
      simp only [pS]
      refine wpAnyH_done (by kernel_rfl) ?_ _
      refine NoPanic.normal ?_
    rotate_left 1
    refine AllReadyH.cons (o := _) rfl (fun K hK => ?_) AllReadyH.nil
    focus
      rw [if_pos (by rfl)]
      simp only [List.getElem_toArray, List.getElem_cons_zero, List.getElem_cons_succ]
      go_simp
      go_wp2_with fail
      refine hK.out _ _ (by first | exact (Below.refl _ _).drew | assumption | exact Below.alloc (Below.refl _ _).drew (by simp <;> omega) _ | exact Below.alloc (Below.alloc (Below.refl _ _).drew (by simp <;> omega) _) (by simp <;> omega) _ | exact Below.alloc (Below.alloc (Below.alloc (Below.refl _ _).drew (by simp <;> omega) _) (by simp <;> omega) _) (by simp <;> omega) _) ?_
      clear hK K
      intro hHeld2
      clear hHeld
      have hHeld := hHeld2
      clear hHeld2
      try simp only [pS]
      refine run_at (i := 6) rfl (by kernel_rfl) (by rfl) (fun K hK => ?_)
      simp only [List.getElem_toArray, List.getElem_cons_zero, List.getElem_cons_succ]
      go_simp
      (go_at_call 25; refine Calls.mono (HNOW.out _ (by first | exact (Below.refl _ _).drew | exact Below.alloc (Below.refl _ _).drew (by simp <;> omega) _ | exact Below.alloc (Below.alloc (Below.refl _ _).drew (by simp <;> omega) _) (by simp <;> omega) _)) ?_; rintro e9 u4 ⟨rfl, hq4⟩; have hq4 := hq4.symm; subst hq4)
      go_wp2_with fail
      refine hK.out _ _ (by first | exact (Below.refl _ _).drew | assumption | exact Below.alloc (Below.refl _ _).drew (by simp <;> omega) _ | exact Below.alloc (Below.alloc (Below.refl _ _).drew (by simp <;> omega) _) (by simp <;> omega) _ | exact Below.alloc (Below.alloc (Below.alloc (Below.refl _ _).drew (by simp <;> omega) _) (by simp <;> omega) _) (by simp <;> omega) _) ?_
      clear hK K
      intro hHeld2
      clear hHeld
      have hHeld := hHeld2
      clear hHeld2
      try simp only [pS]
      refine tz (i := 10) 33 rfl rfl hHeld ?_
      simp only [pS]
      refine run_at (i := 11) rfl (by kernel_rfl) (by rfl) (fun K hK => ?_)
      simp only [List.getElem_toArray, List.getElem_cons_zero, List.getElem_cons_succ]
      go_simp
      go_wp2_with fail
      refine hK.out _ _ (by first | exact (Below.refl _ _).drew | assumption | exact Below.alloc (Below.refl _ _).drew (by simp <;> omega) _ | exact Below.alloc (Below.alloc (Below.refl _ _).drew (by simp <;> omega) _) (by simp <;> omega) _ | exact Below.alloc (Below.alloc (Below.alloc (Below.refl _ _).drew (by simp <;> omega) _) (by simp <;> omega) _) (by simp <;> omega) _) ?_
      clear hK K
      intro hHeld2
      clear hHeld
      have hHeld := hHeld2
      clear hHeld2
      try simp only [pS]
      refine tz (i := 12) 6 rfl rfl hHeld ?_
      simp only [pS]
      refine tz (i := 13) 7 rfl rfl hHeld ?_
      simp only [pS]
      refine wpAnyH_done (by kernel_rfl) ?_ _
      refine NoPanic.normal ?_
  rotate_left 2
  refine AllReadyH.cons (o := _) rfl (fun K hK => ?_) AllReadyH.nil
  focus
    rw [if_pos (by rfl)]
    simp only [List.getElem_toArray, List.getElem_cons_zero, List.getElem_cons_succ]
    go_simp
    go_wp2_with fail
    refine hK.out _ _ (by first | exact (Below.refl _ _).drew | assumption | exact Below.alloc (Below.refl _ _).drew (by simp <;> omega) _ | exact Below.alloc (Below.alloc (Below.refl _ _).drew (by simp <;> omega) _) (by simp <;> omega) _ | exact Below.alloc (Below.alloc (Below.alloc (Below.refl _ _).drew (by simp <;> omega) _) (by simp <;> omega) _) (by simp <;> omega) _) ?_
    clear hK K
    intro hHeld2
    clear hHeld
    have hHeld := hHeld2
    clear hHeld2
    try simp only [pS]
    refine wpAnyH_ready (rs := [6, 7]) (by kernel_rfl) (by simp) ?_
    refine AllReadyH.cons (o := _) rfl (fun K hK => ?_) ?_
    focus
      rw [if_pos (by rfl)]
      simp only [List.getElem_toArray, List.getElem_cons_zero, List.getElem_cons_succ]
      go_simp
      (go_at_call 25; refine Calls.mono (HNOW.out _ (by first | exact (Below.refl _ _).drew | exact Below.alloc (Below.refl _ _).drew (by simp <;> omega) _ | exact Below.alloc (Below.alloc (Below.refl _ _).drew (by simp <;> omega) _) (by simp <;> omega) _)) ?_; rintro e9 u4 ⟨rfl, hq4⟩; have hq4 := hq4.symm; subst hq4)
      go_wp2_with fail
      refine hK.out _ _ (by first | exact (Below.refl _ _).drew | assumption | exact Below.alloc (Below.refl _ _).drew (by simp <;> omega) _ | exact Below.alloc (Below.alloc (Below.refl _ _).drew (by simp <;> omega) _) (by simp <;> omega) _ | exact Below.alloc (Below.alloc (Below.alloc (Below.refl _ _).drew (by simp <;> omega) _) (by simp <;> omega) _) (by simp <;> omega) _) ?_
      clear hK K
      intro hHeld2
      clear hHeld
      have hHeld := hHeld2
      clear hHeld2
      try simp only [pS]
      refine run_at (i := 7) rfl (by kernel_rfl) (by rfl) (fun K hK => ?_)
      simp only [List.getElem_toArray, List.getElem_cons_zero, List.getElem_cons_succ]
      go_simp
      go_wp2_with fail
      refine hK.out _ _ (by first | exact (Below.refl _ _).drew | assumption | exact Below.alloc (Below.refl _ _).drew (by simp <;> omega) _ | exact Below.alloc (Below.alloc (Below.refl _ _).drew (by simp <;> omega) _) (by simp <;> omega) _ | exact Below.alloc (Below.alloc (Below.alloc (Below.refl _ _).drew (by simp <;> omega) _) (by simp <;> omega) _) (by simp <;> omega) _) ?_
      clear hK K
      intro hHeld2
      clear hHeld
      have hHeld := hHeld2
      clear hHeld2
      try simp only [pS]
      refine tz (i := 10) 33 rfl rfl hHeld ?_
      simp only [pS]
      refine run_at (i := 11) rfl (by kernel_rfl) (by rfl) (fun K hK => ?_)
      simp only [List.getElem_toArray, List.getElem_cons_zero, List.getElem_cons_succ]
      go_simp
      go_wp2_with fail
      refine hK.out _ _ (by first | exact (Below.refl _ _).drew | assumption | exact Below.alloc (Below.refl _ _).drew (by simp <;> omega) _ | exact Below.alloc (Below.alloc (Below.refl _ _).drew (by simp <;> omega) _) (by simp <;> omega) _ | exact Below.alloc (Below.alloc (Below.alloc (Below.refl _ _).drew (by simp <;> omega) _) (by simp <;> omega) _) (by simp <;> omega) _) ?_
      clear hK K
      intro hHeld2
      clear hHeld
      have hHeld := hHeld2
      clear hHeld2
      try simp only [pS]
      refine tz (i := 12) 6 rfl rfl hHeld ?_
      simp only [pS]
      refine tz (i := 13) 7 rfl rfl hHeld ?_
      simp only [pS]
      refine wpAnyH_done (by kernel_rfl) ?_ _
      refine NoPanic.normal ?_
    rotate_left 1
    refine AllReadyH.cons (o := _) rfl (fun K hK => ?_) AllReadyH.nil
    focus
      rw [if_pos (by rfl)]
      simp only [List.getElem_toArray, List.getElem_cons_zero, List.getElem_cons_succ]
      go_simp
      go_wp2_with fail
      refine hK.out _ _ (by first | exact (Below.refl _ _).drew | assumption | exact Below.alloc (Below.refl _ _).drew (by simp <;> omega) _ | exact Below.alloc (Below.alloc (Below.refl _ _).drew (by simp <;> omega) _) (by simp <;> omega) _ | exact Below.alloc (Below.alloc (Below.alloc (Below.refl _ _).drew (by simp <;> omega) _) (by simp <;> omega) _) (by simp <;> omega) _) ?_
      clear hK K
      intro hHeld2
      clear hHeld
      have hHeld := hHeld2
      clear hHeld2
      try simp only [pS]
      refine run_at (i := 6) rfl (by kernel_rfl) (by rfl) (fun K hK => ?_)
      simp only [List.getElem_toArray, List.getElem_cons_zero, List.getElem_cons_succ]
      go_simp
      (go_at_call 25; refine Calls.mono (HNOW.out _ (by first | exact (Below.refl _ _).drew | exact Below.alloc (Below.refl _ _).drew (by simp <;> omega) _ | exact Below.alloc (Below.alloc (Below.refl _ _).drew (by simp <;> omega) _) (by simp <;> omega) _)) ?_; rintro e9 u4 ⟨rfl, hq4⟩; have hq4 := hq4.symm; subst hq4)
      go_wp2_with fail
      refine hK.out _ _ (by first | exact (Below.refl _ _).drew | assumption | exact Below.alloc (Below.refl _ _).drew (by simp <;> omega) _ | exact Below.alloc (Below.alloc (Below.refl _ _).drew (by simp <;> omega) _) (by simp <;> omega) _ | exact Below.alloc (Below.alloc (Below.alloc (Below.refl _ _).drew (by simp <;> omega) _) (by simp <;> omega) _) (by simp <;> omega) _) ?_
      clear hK K
      intro hHeld2
      clear hHeld
      have hHeld := hHeld2
      clear hHeld2
      try simp only [pS]
      refine tz (i := 10) 33 rfl rfl hHeld ?_
      simp only [pS]
      refine run_at (i := 11) rfl (by kernel_rfl) (by rfl) (fun K hK => ?_)
      simp only [List.getElem_toArray, List.getElem_cons_zero, List.getElem_cons_succ]
      go_simp
      go_wp2_with fail
      refine hK.out _ _ (by first | exact (Below.refl _ _).drew | assumption | exact Below.alloc (Below.refl _ _).drew (by simp <;> omega) _ | exact Below.alloc (Below.alloc (Below.refl _ _).drew (by simp <;> omega) _) (by simp <;> omega) _ | exact Below.alloc (Below.alloc (Below.alloc (Below.refl _ _).drew (by simp <;> omega) _) (by simp <;> omega) _) (by simp <;> omega) _) ?_
      clear hK K
      intro hHeld2
      clear hHeld
      have hHeld := hHeld2
      clear hHeld2
      try simp only [pS]
      refine tz (i := 12) 6 rfl rfl hHeld ?_
      simp only [pS]
      refine tz (i := 13) 7 rfl rfl hHeld ?_
      simp only [pS]
      refine wpAnyH_done (by kernel_rfl) ?_ _
      refine NoPanic.normal ?_
  all_goals
    go_wp2
    go_ret2
    first
      | exact ⟨w3.heap.size + 2, w3.heap.size, w3.heap.size + 1, P, M, V, rfl, newX_at HOK.out.1 HOK.out.2.1 HOK.out.2.2 HWT.out HBW.out HFW.out _ _ (.inl ⟨rfl, rfl⟩) _ rfl⟩
      | exact ⟨w3.heap.size + 2, w3.heap.size + 1, w3.heap.size, P, M, V, rfl, newX_at HOK.out.1 HOK.out.2.1 HOK.out.2.2 HWT.out HBW.out HFW.out _ _ (.inr ⟨rfl, rfl⟩) _ rfl⟩
end
end Go.Proofs.YtiedgcanndgmoaaGreatDoor
