import Derived.Test.YtnfikcegmicooabDoorRfC
namespace Go.Proofs.YtnfikcegmicooabDoor
set_option linter.unusedVariables false
set_option linter.unusedSimpArgs false
open Go.RowKit Go.Maps
section
variable {w w' : World} {q N : Nat} {L : List Tm} {v : Value}
set_option maxRecDepth 20000 in
set_option maxHeartbeats 3200000 in
theorem rset_t (h : RfW w q N L v) (S : Nat) (id : Int) (x : Nat) (hn : (L.map Tm.id).Nodup) (hL : L.length ≤ 4398046511103) (hNm : N ≤ 281474976710655) :
    Calls Tryd.prog 33 #[.pointer (some ⟨q, 0, none⟩), .int .i64 id, .int .u64 (x : Int)] w fun e w' => e = .returned (.tuple #[]) ∧ ∃ v', RfW w' q N (setL L N S id x) v' ∧ RSt w w' q v v' := by
  obtain ⟨A, hA⟩ : ∃ A, A = max (min x mxN) (N + 1) := ⟨_, rfl⟩
  have hmx : mxN = 281474976710655 := rfl
  have hnev : nev ⟨id, A, S + 1⟩ = decide (N = 281474976710655) := by
    unfold nev
    apply decide_eq_decide.2
    show ¬ A ≤ mxN ↔ _
    omega
  have hA6 : A ≤ 281474976710656 := by omega
  have HA : Hid _ := hA
  have HNV : Hid _ := hnev
  have HW : Hid _ := h
  have HND : Hid _ := hn
  have hql := h.lt (.inl rfl)
  clear h hn hA hmx hnev
  go_enter Tryd.func33, Tryd.ntmps33
  go_wp2_with fail
  refine Calls.mono (rstop_t HW.out id HND.out (by omega)) ?_
  rintro e w1 ⟨rfl, v1, h1, hst1, hg1⟩
  obtain ⟨a1, c1, hv1, hcap1, -, -⟩ := h1.row.val
  obtain ⟨M, hM⟩ : ∃ M, M = L.filter (fun t => decide (t.id ≠ id)) := ⟨_, rfl⟩
  rw [← hM] at h1 hv1
  obtain ⟨n1, hn1⟩ : ∃ n1, n1 = M.length := ⟨_, rfl⟩
  rw [← hn1] at hv1
  subst hv1
  have hn1m : n1 ≤ 4398046511103 := by rw [hn1, hM]; exact Nat.le_trans (List.length_filter_le _ _) hL
  have HN1 : Hid _ := hn1
  have hS1 := h1.c0
  have HW1 : Hid _ := h1
  have HST1 : Hid _ := hst1
  have HM : Hid _ := hM
  obtain ⟨Bb, hBb⟩ : ∃ Bb, Bb = decide (id ∈ L.map Tm.id) := ⟨_, rfl⟩
  rw [← hBb]
  clear h1 hst1 hg1 hM hBb hn1 hcap1
  have HS2 : Hid (∀ o : Obj, (w1.alloc o).cell? ⟨q, 0, none⟩ = some (.int .u64 (N : Int))) := fun o => (RfW.below HW1.out (al (Below.refl _ _) o)).c0
  go_wp2
  refine wp_region_noPanic ?_
  refine wp_region_held_drew (S := (fun u => u.cell? ⟨q, 0, none⟩ = some (.int .u64 (N : Int)))) (by kernel_rfl) (by first | exact hS1 | exact HS2.out _) (fun hHeld => ?_)
  refine take_at (i := 0) 10 (v := ?_) rfl rfl (by kernel_rfl) (by kernel_rfl) (by kernel_rfl) (fun _ _ _ h => h) (by rfl) ?_ hHeld ?_
  rotate_left
  · (intro w hSw; (try dsimp only at hSw); go_simp; try with_reducible rfl)
  simp only [Act.put, List.setIfInBounds_toArray, List.set_cons_zero, List.set_cons_succ]
  refine take_at (i := 1) 11 (v := ?_) rfl rfl (by kernel_rfl) (by kernel_rfl) (by kernel_rfl) (fun _ _ _ h => h) (by rfl) ?_ hHeld ?_
  rotate_left
  · (intro w hSw; (try dsimp only at hSw); go_simp; try with_reducible rfl)
  simp only [Act.put, List.setIfInBounds_toArray, List.set_cons_zero, List.set_cons_succ]
  refine take_at (i := 3) 13 (v := ?_) rfl rfl (by kernel_rfl) (by kernel_rfl) (by kernel_rfl) (fun _ _ _ h => h) (by rfl) ?_ hHeld ?_
  rotate_left
  · (intro w hSw; (try dsimp only at hSw); go_simp; try with_reducible rfl)
  simp only [Act.put, List.setIfInBounds_toArray, List.set_cons_zero, List.set_cons_succ]
  refine take_at (i := 4) 14 (v := ?_) rfl rfl (by kernel_rfl) (by kernel_rfl) (by kernel_rfl) (fun _ _ _ h => h) (by rfl) ?_ hHeld ?_
  rotate_left
  · (intro w hSw; (try dsimp only at hSw); go_simp; try with_reducible rfl)
  simp only [Act.put, List.setIfInBounds_toArray, List.set_cons_zero, List.set_cons_succ]
  refine take_at (i := 5) 15 (v := ?_) rfl rfl (by kernel_rfl) (by kernel_rfl) (by kernel_rfl) (fun _ _ _ h => h) (by rfl) ?_ hHeld ?_
  rotate_left
  · (intro w hSw; (try dsimp only at hSw); go_simp; try with_reducible rfl)
  simp only [Act.put, List.setIfInBounds_toArray, List.set_cons_zero, List.set_cons_succ]
  refine take_at (i := 6) 16 (v := ?_) rfl rfl (by kernel_rfl) (by kernel_rfl) (by kernel_rfl) (fun _ _ _ h => h) (by rfl) ?_ hHeld ?_
  rotate_left
  · (intro w hSw; (try dsimp only at hSw); go_simp; try with_reducible rfl)
  simp only [Act.put, List.setIfInBounds_toArray, List.set_cons_zero, List.set_cons_succ]
  refine take_at (i := 7) 17 (v := ?_) rfl rfl (by kernel_rfl) (by kernel_rfl) (by kernel_rfl) (fun _ _ _ h => h) (by rfl) ?_ hHeld ?_
  rotate_left
  · (intro w hSw; (try dsimp only at hSw); go_simp; try with_reducible rfl)
  simp only [Act.put, List.setIfInBounds_toArray, List.set_cons_zero, List.set_cons_succ]
  refine wpAnyH_ready (rs := [2, 10]) (by kernel_rfl) (by simp) ?_
  refine AllReadyH.cons (o := _) rfl (fun K hK => ?_) ?_
  focus
    rw [if_pos (by rfl)]
    simp only [List.getElem_toArray, List.getElem_cons_zero, List.getElem_cons_succ]
    go_simp
    first | (go_at_call 30; refine Calls.mono (rclock_t x _) ?_; rintro e u4 ⟨rfl, hq4⟩; have hq4 := hq4.symm; subst hq4)
    go_wp2_with fail
    refine hK.out _ _ (by first | exact hS1 | exact HS2.out _) ?_
    clear hK K
    intro hHeld2
    clear hHeld
    have hHeld := hHeld2
    clear hHeld2
    try simp only [Act.put, List.setIfInBounds_toArray, List.set_cons_zero, List.set_cons_succ]
    refine wpAnyH_ready (rs := [8, 10]) (by kernel_rfl) (by simp) ?_
    refine AllReadyH.cons (o := _) rfl (fun K hK => ?_) ?_
    focus
      rw [if_pos (by rfl)]
      simp only [List.getElem_toArray, List.getElem_cons_zero, List.getElem_cons_succ]
      go_simp
      go_wp2_with fail
      refine hK.out _ _ (by first | exact hS1 | exact HS2.out _) ?_
      clear hK K
      intro hHeld2
      clear hHeld
      have hHeld := hHeld2
      clear hHeld2
      try simp only [Act.put, List.setIfInBounds_toArray, List.set_cons_zero, List.set_cons_succ]
      refine take_at (i := 9) 19 (v := ?_) rfl rfl (by kernel_rfl) (by kernel_rfl) (by kernel_rfl) (fun _ _ _ h => h) (by rfl) ?_ hHeld ?_
      rotate_left
      · (intro w hSw; (try dsimp only at hSw); go_simp; try with_reducible rfl)
      simp only [Act.put, List.setIfInBounds_toArray, List.set_cons_zero, List.set_cons_succ]
      refine run_at (i := 10) rfl (by kernel_rfl) (by rfl) (fun K hK => ?_)
      simp only [List.getElem_toArray, List.getElem_cons_zero, List.getElem_cons_succ]
      go_simp
      go_wp2_with fail
      refine hK.out _ _ (by first | exact hS1 | exact HS2.out _) ?_
      clear hK K
      intro hHeld2
      clear hHeld
      have hHeld := hHeld2
      clear hHeld2
      try simp only [Act.put, List.setIfInBounds_toArray, List.set_cons_zero, List.set_cons_succ]
      refine run_at (i := 11) rfl (by kernel_rfl) (by rfl) (fun K hK => ?_)
      simp only [List.getElem_toArray, List.getElem_cons_zero, List.getElem_cons_succ]
      go_simp
      go_wp2_with fail
      refine hK.out _ _ (by first | exact hS1 | exact HS2.out _) ?_
      clear hK K
      intro hHeld2
      clear hHeld
      have hHeld := hHeld2
      clear hHeld2
      try simp only [Act.put, List.setIfInBounds_toArray, List.set_cons_zero, List.set_cons_succ]
      refine wpAnyH_done (by kernel_rfl) ?_ _
      refine NoPanic.normal ?_
    rotate_left 1
    refine AllReadyH.cons (o := _) rfl (fun K hK => ?_) AllReadyH.nil
    focus
      rw [if_pos (by rfl)]
      simp only [List.getElem_toArray, List.getElem_cons_zero, List.getElem_cons_succ]
      go_simp
      go_wp2_with fail
      refine hK.out _ _ (by first | exact hS1 | exact HS2.out _) ?_
      clear hK K
      intro hHeld2
      clear hHeld
      have hHeld := hHeld2
      clear hHeld2
      try simp only [Act.put, List.setIfInBounds_toArray, List.set_cons_zero, List.set_cons_succ]
      refine run_at (i := 8) rfl (by kernel_rfl) (by rfl) (fun K hK => ?_)
      simp only [List.getElem_toArray, List.getElem_cons_zero, List.getElem_cons_succ]
      go_simp
      go_wp2_with fail
      refine hK.out _ _ (by first | exact hS1 | exact HS2.out _) ?_
      clear hK K
      intro hHeld2
      clear hHeld
      have hHeld := hHeld2
      clear hHeld2
      try simp only [Act.put, List.setIfInBounds_toArray, List.set_cons_zero, List.set_cons_succ]
      refine take_at (i := 9) 19 (v := ?_) rfl rfl (by kernel_rfl) (by kernel_rfl) (by kernel_rfl) (fun _ _ _ h => h) (by rfl) ?_ hHeld ?_
      rotate_left
      · (intro w hSw; (try dsimp only at hSw); go_simp; try with_reducible rfl)
      simp only [Act.put, List.setIfInBounds_toArray, List.set_cons_zero, List.set_cons_succ]
      refine run_at (i := 11) rfl (by kernel_rfl) (by rfl) (fun K hK => ?_)
      simp only [List.getElem_toArray, List.getElem_cons_zero, List.getElem_cons_succ]
      go_simp
      go_wp2_with fail
      refine hK.out _ _ (by first | exact hS1 | exact HS2.out _) ?_
      clear hK K
      intro hHeld2
      clear hHeld
      have hHeld := hHeld2
      clear hHeld2
      try simp only [Act.put, List.setIfInBounds_toArray, List.set_cons_zero, List.set_cons_succ]
      refine wpAnyH_done (by kernel_rfl) ?_ _
      refine NoPanic.normal ?_
  rotate_left 2
  refine AllReadyH.cons (o := _) rfl (fun K hK => ?_) AllReadyH.nil
  focus
    rw [if_pos (by rfl)]
    simp only [List.getElem_toArray, List.getElem_cons_zero, List.getElem_cons_succ]
    go_simp
    go_wp2_with fail
    refine hK.out _ _ (by first | exact hS1 | exact HS2.out _) ?_
    clear hK K
    intro hHeld2
    clear hHeld
    have hHeld := hHeld2
    clear hHeld2
    try simp only [Act.put, List.setIfInBounds_toArray, List.set_cons_zero, List.set_cons_succ]
    refine run_at (i := 2) rfl (by kernel_rfl) (by rfl) (fun K hK => ?_)
    simp only [List.getElem_toArray, List.getElem_cons_zero, List.getElem_cons_succ]
    go_simp
    first | (go_at_call 30; refine Calls.mono (rclock_t x _) ?_; rintro e u4 ⟨rfl, hq4⟩; have hq4 := hq4.symm; subst hq4)
    go_wp2_with fail
    refine hK.out _ _ (by first | exact hS1 | exact HS2.out _) ?_
    clear hK K
    intro hHeld2
    clear hHeld
    have hHeld := hHeld2
    clear hHeld2
    try simp only [Act.put, List.setIfInBounds_toArray, List.set_cons_zero, List.set_cons_succ]
    refine run_at (i := 8) rfl (by kernel_rfl) (by rfl) (fun K hK => ?_)
    simp only [List.getElem_toArray, List.getElem_cons_zero, List.getElem_cons_succ]
    go_simp
    go_wp2_with fail
    refine hK.out _ _ (by first | exact hS1 | exact HS2.out _) ?_
    clear hK K
    intro hHeld2
    clear hHeld
    have hHeld := hHeld2
    clear hHeld2
    try simp only [Act.put, List.setIfInBounds_toArray, List.set_cons_zero, List.set_cons_succ]
    refine take_at (i := 9) 19 (v := ?_) rfl rfl (by kernel_rfl) (by kernel_rfl) (by kernel_rfl) (fun _ _ _ h => h) (by rfl) ?_ hHeld ?_
    rotate_left
    · (intro w hSw; (try dsimp only at hSw); go_simp; try with_reducible rfl)
    simp only [Act.put, List.setIfInBounds_toArray, List.set_cons_zero, List.set_cons_succ]
    refine run_at (i := 11) rfl (by kernel_rfl) (by rfl) (fun K hK => ?_)
    simp only [List.getElem_toArray, List.getElem_cons_zero, List.getElem_cons_succ]
    go_simp
    go_wp2_with fail
    refine hK.out _ _ (by first | exact hS1 | exact HS2.out _) ?_
    clear hK K
    intro hHeld2
    clear hHeld
    have hHeld := hHeld2
    clear hHeld2
    try simp only [Act.put, List.setIfInBounds_toArray, List.set_cons_zero, List.set_cons_succ]
    refine wpAnyH_done (by kernel_rfl) ?_ _
    refine NoPanic.normal ?_
  all_goals
    have hz : max (((min x mxN : Nat) : Int)) (IntKind.u64.wrap ((N : Int) + 1)) = (A : Int) := by rw [HA.out, IntKind.wrap_u64]; have h9 : mxN = 281474976710655 := rfl; omega
    simp only [hz]
    clear hz
    obtain ⟨P, hP⟩ : ∃ P, P = w1.heap.size := ⟨_, rfl⟩
    obtain ⟨w2, hw2⟩ : ∃ w2, w2 = (w1.alloc (Obj.cells #[.int .i64 id, .int .u64 (A : Int), .bool false] tRt)).drew := ⟨_, rfl⟩
    have hb2 : Below w1.heap.size w1 w2 := by rw [hw2]; exact (al (Below.refl _ _) _).drew
    have hA2 : w2.heap[P]? = some (.cells #[.int .i64 id, .int .u64 (A : Int), .bool false] tRt (0, 0)) := by rw [hw2, hP]; exact heap_alloc_new w1 _
    have hsz2 : w2.heap.size = P + 1 := by rw [hw2, hP]; show (w1.alloc _).heap.size = _; simp
    rw [← hw2]
    rw [← hP]
    have hqP : q ≠ P := fun e => by have := RfW.lt HW1.out (.inl rfl : footR q _ q); omega
    have hR2 := RfW.below HW1.out hb2
    have d0 := hR2.c0
    have d1 := hR2.c1
    have df := hR2.fz 1
    obtain ⟨p0, p1, p2⟩ := cell3 hA2
    have pf : w2.frozen? ⟨P, 2, none⟩ = false := by simp [World.frozen?, hA2]
    obtain ⟨b, hb⟩ : ∃ b, b = nev ⟨id, A, S + 1⟩ := ⟨_, rfl⟩
    have hbq : ((N : Int) == 281474976710655) = b := by
      rw [hb, HNV.out]
      by_cases h9 : N = 281474976710655
      · simp [h9]
      · simp [h9]; omega
    have HB : Hid _ := hb
    have HB2 : Hid _ := hb2
    have HR2 : Hid _ := hR2
    have HA2 : Hid _ := hA2
    have HSZ : Hid _ := hsz2
    have HP : Hid _ := hP
    clear hb hb2 hR2 hA2 hw2 hP hS1 hsz2
    go_wp2
    obtain ⟨w3, hw3⟩ : ∃ w3, w3 = w2.setCell ⟨P, 2, none⟩ (.bool b) := ⟨_, rfl⟩
    have hA3 : w3.heap[P]? = some (.cells #[.int .i64 id, .int .u64 (A : Int), .bool b] tRt (0, 0)) := by rw [hw3]; exact (heap_setCell_same _ _ _ _ _ _ HA2.out).trans rfl
    have hvP : (Value.slice a1 n1 c1).ownBlock ≠ some P := fun e => by
      have := RfW.lt HW1.out (.inr e)
      have := HP.out
      omega
    have hR3 : RfW w3 q N M (.slice a1 n1 c1) := by
      rw [hw3]
      refine RfW.kept HR2.out (fun y hy => heap_setCell_other _ _ _ _ (fun e => ?_))
      have e' : y = P := e
      subst e'
      rcases hy with h9 | h9
      · exact hqP h9.symm
      · exact hvP h9
    have hsz3 : w3.heap.size = P + 1 := by rw [hw3]; simpa using HSZ.out
    have hst3 : RSt w w3 q v (.slice a1 n1 c1) := by
      refine HST1.out.trans ⟨⟨?_, ?_, ?_, ?_, fun y hy _ => ?_⟩, fun y hy => .inl hy⟩
      · rw [hw3]; exact HB2.out.os
      · rw [hw3]; exact HB2.out.tape
      · rw [hw3]; exact HB2.out.output
      · rw [hsz3, HP.out]; omega
      · rw [hw3]
        exact (heap_setCell_other _ _ _ _ (fun e => by have e' : y = P := e; rw [e', HP.out] at hy; exact Nat.lt_irrefl _ hy)).trans (HB2.out.block y hy)
    rw [← hw3]
    clear hw3 d0 d1 df p0 p1 p2 pf hbq
    have d1 := hR3.c1
    have df := hR3.fz 1
    obtain ⟨p0, p1, p2⟩ := cell3 hA3
    have hql3 := hR3.lt (.inl rfl : footR q _ q)
    have hPl3 : P < w3.heap.size := by omega
    obtain ⟨i0, hi, hz0, hz1, hz2⟩ := info_parts infoQ
    have HI : Hid _ := And.intro hi (And.intro hz0 (And.intro hz1 hz2))
    have HOW : Hid (∀ o : Obj, (w3.alloc o).drew.ownsRow 0 tRt 3 (.slice a1 n1 c1) n1 (flatQ M)) := fun o => by
      have h9 := OwnQ.below (xs := M) hR3.row (al (Below.refl _ w3) o).drew
      unfold OwnQ at h9
      rw [← HN1.out] at h9
      exact h9
    have HNW : Hid (∀ o : Obj, (w3.alloc o).drew.heap[w3.heap.size]? = some o) := fun o => heap_alloc_new w3 o
    have HCQ : Hid (∀ (o : Obj) (u : World), (w3.alloc o).drew.grownBy u (Value.slice a1 n1 c1).ownBlock → u.cell? ⟨q, 1, none⟩ = some (.slice a1 n1 c1) ∧ u.frozen? ⟨q, 1, none⟩ = false ∧ u.heap[q]? = w3.heap[q]?) := fun o u hu => by
      have h9 := RfW.below hR3 (al (Below.refl _ w3) o).drew
      have h8 : u.heap[q]? = (w3.alloc o).drew.heap[q]? := hu.block q (h9.lt (.inl rfl : footR q _ q)) (fun e => h9.qv e.symm)
      exact ⟨(World.cell?_of_block h8).trans h9.c1, (World.frozen?_of_block h8).trans (h9.fz 1), h8.trans (heap_alloc_old w3 o hql3)⟩
    have HR3 : Hid _ := hR3
    have HST3 : Hid _ := hst3
    clear hi hz0 hz1 hz2 hR3 hst3 hA3 hsz3
    go_region_law (refine step_append_lies _ rfl (.tmp 30) (.tmp 32) tRts rfl 0 tRt i0 (.agg #[.int .i64 0, .int .u64 0, .bool false]) 3 24 Tryd.underlying68 HI.out.1 HI.out.2.1 HI.out.2.2.1 HI.out.2.2.2 rfl (by decide) (.slice a1 n1 c1) n1 (flatQ M) (by simp [Act.eval, Act.put]) (HOW.out _) ⟨w3.heap.size, 0, none⟩ 1 1 [.int .i64 id, .int .u64 (A : Int), .bool b] (by simp [Act.eval, Act.put]) rfl (World.news_of_block (cs := #[.int .i64 id, .int .u64 (A : Int), .bool b]) (t := tRt) (fr := (0, 0)) (HNW.out _)) (by intro u hu; simp at hu; rcases hu with rfl | rfl | rfl <;> rfl) (by decide) (by simp only [maxLen]; omega) (by omega) (Nat.zero_le _) _ rfl ?_; intro g5 cap5 w5 hown5 hg5 hat5 hlt5; obtain ⟨hc5, hf5, hk5⟩ := HCQ.out _ _ hg5; have HO5 : Hid _ := hown5; have HG5 : Hid _ := hg5; have HT5 : Hid _ := hat5; have HK5 : Hid _ := hk5; clear hown5 hg5 hat5 hk5)
    all_goals
      go_end0
      have hown : OwnQ w5 0 (.slice (some ⟨g5, 0, none⟩) (n1 + 1) cap5) (setL L N S id x) := by
        have h9 := HO5.out
        unfold setL
        rw [← HM.out, ← HA.out]
        unfold OwnQ
        rw [List.length_append, flatQ_app, flatQ_one, ← HN1.out]
        have e9 : rtv ⟨id, A, S + 1⟩ = [.int .i64 id, .int .u64 (A : Int), .bool b] := by rw [HB.out]
        rw [e9]
        exact h9
      have hw3 : Below w3.heap.size w3 (w3.alloc (Obj.cells #[.int .i64 id, .int .u64 (A : Int), .bool b] tRt)).drew := (al (Below.refl _ _) _).drew
      refine ⟨rfl, _, RfW.setV HR3.out HK5.out hown, HST3.out.trans ⟨?_, fun y hy => ?_⟩⟩
      · exact ((Chg.of_below hw3).trans (Chg.of_grown HG5.out (F := fun y => (Value.slice a1 n1 c1).ownBlock = some y) (fun y e => e)) (fun y e => .inl (.inr e))).trans (G := fun y => y = q) (Chg.of_grown (gset1 _ q 1 _) (fun y e => (Option.some.inj e).symm)) (fun y e => .inl (.inl e))
      · cases hy
        rcases HT5.out with h9 | h9
        · exact .inl h9
        · refine .inr ?_
          rw [h9]
          exact hw3.size
end
end Go.Proofs.YtnfikcegmicooabDoor
