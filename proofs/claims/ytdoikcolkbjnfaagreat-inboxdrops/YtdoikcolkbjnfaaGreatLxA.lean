import Derived.Test.YtdoikcolkbjnfaaGreatIxIj
namespace Go.Proofs.YtdoikcolkbjnfaaGreat
set_option linter.unusedVariables false
set_option linter.unusedSimpArgs false
open Go.RowKit Go.Maps
def numBI (n : Nat) : Bool := decide (1 ≤ n ∧ n ≤ 281474976710655)
/-- what a Decide answers -/
def decE (I : Ib) (s : Ss) (c : Int) : Int := if ¬ (1 ≤ c ∧ c ≤ 7) ∨ numBI s.1 = false ∨ numBI s.2 = false then 1 else if s.1 < I.ep then 83 else if s ∈ ks I.H then 3 else 0
/-- what it leaves -/
def decI (I : Ib) (s : Ss) (c : Int) : Ib := if decE I s c = 0 then { riseI I s.1 with O := rm (riseI I s.1).O s, H := pt (riseI I s.1).ms (riseI I s.1).H s c } else I
def dropI (I : Ib) (s : Ss) : Ib := { I with O := rm I.O s }
/-- what a Decide or a Drop leaves -/
def DcPost (w : World) (p m1 m2 T1 T2 : Nat) (E : List (Ss × Bg)) (I' : Ib) (w' : World) : Prop :=
  ∃ T2' E' G', Ibx none w' p m1 m2 T1 T2' I' E' G' ∧ T2' ≤ T2 + 1 ∧ Chg (footI none p m1 m2 E) w w' ∧ ∀ b, footI none p m1 m2 E' b → footI none p m1 m2 E b
section
variable {w w' : World} {p m1 m2 T1 T2 : Nat} {I : Ib} {E : List (Ss × Bg)} {G : List (Ss × (Int × Nat))}
theorem DcPost.same (h : Ibx none w p m1 m2 T1 T2 I E G) (hb : Below w.heap.size w w') : DcPost w p m1 m2 T1 T2 E I w' := ⟨T2, E, G, h.below hb, Nat.le_succ _, Chg.of_below hb, fun b hb => hb⟩
set_option maxRecDepth 20000
set_option maxHeartbeats 3200000
theorem isnum_t (n : Nat) (w : World) : Calls Tryz.prog 56 #[.int .u64 (n : Int)] w fun e w' => e = .returned (.bool (numBI n)) ∧ w' = w := by
  by_cases h1 : 1 ≤ n
  · have h1i : (1 : Int) ≤ (n : Int) := by omega
    by_cases h2 : n ≤ 281474976710655
    · have h2i : (n : Int) ≤ 281474976710655 := by omega
      have HD : Hid (numBI n = true) := by unfold Hid numBI; simp [h1, h2]
      go_enter Tryz.func56, Tryz.ntmps56
      go_wp2
      go_ret
      rw [HD.out]
      exact ⟨by simp [h2], rfl⟩
    · have h2i : ¬ (n : Int) ≤ 281474976710655 := by omega
      have HD : Hid (numBI n = false) := by unfold Hid numBI; simp [h2]
      go_enter Tryz.func56, Tryz.ntmps56
      go_wp2
      go_ret
      rw [HD.out]
      exact ⟨by simp [h2], rfl⟩
  · have h1i : ¬ (1 : Int) ≤ (n : Int) := by omega
    have HD : Hid (numBI n = false) := by unfold Hid numBI; simp [h1]
    go_enter Tryz.func56, Tryz.ntmps56
    go_wp2
    go_ret
    rw [HD.out]
    exact ⟨by simp, rfl⟩
theorem idrop_t (h : Ibx none w p m1 m2 T1 T2 I E G) (s : Ss) (hs : inS s) :
    Calls Tryz.prog 46 #[.pointer (some ⟨p, 0, none⟩), sv s] w fun e w' => e = .returned (.bool (decide (s ∈ ks I.O))) ∧ DcPost w p m1 m2 T1 T2 E (dropI I s) w' := by
  obtain ⟨w1, hw1⟩ : ∃ w1, w1 = w.alloc (.cells #[.int .u64 (s.1 : Int), .int .u64 (s.2 : Int)] tSs) := ⟨_, rfl⟩
  have hb1 : Below w.heap.size w w1 := by rw [hw1]; exact al (Below.refl _ _) _
  have hI1 := h.below hb1
  have hI9 := hI1.below (w' := w1.drew) (Below.refl _ _).drew
  have HM : Hid _ := imade_t hI9
  obtain ⟨P, hP⟩ : ∃ P, P = w.heap.size := ⟨_, rfl⟩
  have hky : w1.heap[P]? = some (.cells #[.int .u64 (s.1 : Int), .int .u64 (s.2 : Int)] tSs (0, 0)) := by rw [hw1, hP]; exact heap_alloc_new w _
  have hkc : w1.cell? ⟨P, 0, none⟩ = some (.int .u64 (s.1 : Int)) ∧ w1.cell? ⟨P, 1, none⟩ = some (.int .u64 (s.2 : Int)) := ⟨by rw [cell_of_row _ _ _ _ _ _ hky]; rfl, by rw [cell_of_row _ _ _ _ _ _ hky]; rfl⟩
  have HDR : Hid (Calls Tryz.prog 57 #[.pointer (some ⟨p, 1, none⟩), sv s] w1.drew fun e w' => e = .returned (.bool (decide (s ∈ ks I.O))) ∧ RowM w' m1 T1 (mp fB (rm (mp Bg.qt E) s)) ∧ Chg (fun b => b = m1) w1.drew w') := by
    have hkk : ks (mp Bg.qt E) = ks I.O := by rw [ks_mp, h.ksO]
    cases h9 : lk (mp Bg.qt E) s with
    | none =>
      rw [decide_eq_false (by rw [← hkk]; exact lk_none.1 h9)]
      exact drop_no (o := 1) hI9.hp rfl hI9.r1 hs h9
    | some a =>
      rw [decide_eq_true (by rw [← hkk]; exact mem_ks (lk_mem h9))]
      exact drop_in (o := 1) hI9.hp rfl hI9.r1 hs (c := a.1) (t := a.2) h9
  obtain ⟨bl, hbl⟩ : ∃ bl, bl = decide (s ∈ ks I.O) := ⟨_, rfl⟩
  rw [← hbl] at HDR ⊢
  have HI : Hid _ := h
  have HI1 : Hid _ := hI1
  have HB1 : Hid _ := hb1
  have HKY : Hid _ := hky
  have HW1 : Hid (w1 = _) := hw1
  have HP : Hid _ := hP
  have HLP : Hid (m1 < P) := by unfold Hid; rw [hP]; exact h.lt (.inr (.inl rfl))
  clear h hI1 hI9 hky hb1 hw1 hP hbl
  go_enter Tryz.func46, Tryz.ntmps46
  go_wp2
  rw [← HW1.out, ← HP.out]
  refine wp_region_noPanic ?_
  refine wp_region_held_drew (S := (fun u => u.cell? ⟨P, 0, none⟩ = some (.int .u64 (s.1 : Int)) ∧ u.cell? ⟨P, 1, none⟩ = some (.int .u64 (s.2 : Int)))) (by kernel_rfl) (by first | exact hkc | exact HK4.out | assumption) (fun hHeld => ?_)
  refine take_at (i := 0) 5 (v := ?_) rfl rfl (by kernel_rfl) (by kernel_rfl) (by kernel_rfl) (fun _ _ _ h => h) (by rfl) ?_ hHeld ?_
  rotate_left
  · (intro w hSw; (try dsimp only at hSw); go_simp; try with_reducible rfl)
  simp only [Act.put, List.setIfInBounds_toArray, List.set_cons_zero, List.set_cons_succ]
  refine run_at (i := 1) rfl (by kernel_rfl) (by rfl) (fun K hK => ?_)
  simp only [List.getElem_toArray, List.getElem_cons_zero, List.getElem_cons_succ]
  go_simp
  first | (go_at_call 33; refine Calls.mono HM.out ?_; rintro e w' ⟨rfl, hq⟩; have hq := hq.symm; subst hq) | (go_at_call 57; refine Calls.mono HDR.out ?_; rintro e w4 ⟨rfl, hr4, hc4⟩; have HC4 : Hid (Chg (fun b => b = m1) w1 w4) := ((Chg.refl (fun b => b = m1) w1).drew).trans hc4 (fun b hb => .inl hb); have HKY4 : Hid (w4.heap[P]? = _) := (HC4.out.block P (Array.getElem?_eq_some_iff.1 HKY.out).1 (fun h9 => by have := HLP.out; omega)).trans HKY.out; have HK4 : Hid (w4.cell? ⟨P, 0, none⟩ = some (.int .u64 (s.1 : Int)) ∧ w4.cell? ⟨P, 1, none⟩ = some (.int .u64 (s.2 : Int))) := ⟨(by rw [cell_of_row _ _ _ _ _ _ HKY4.out]; rfl), (by rw [cell_of_row _ _ _ _ _ _ HKY4.out]; rfl)⟩; have HI4 : Hid _ := Ibx.rm HI1.out s hr4 HC4.out; clear hr4 hc4)
  go_wp2_with fail
  refine hK.out _ _ (by first | exact hkc | exact HK4.out | assumption) ?_
  clear hK K
  intro hHeld2
  clear hHeld
  have hHeld := hHeld2
  clear hHeld2
  try simp only [Act.put, List.setIfInBounds_toArray, List.set_cons_zero, List.set_cons_succ]
  refine take_at (i := 2) 7 (v := ?_) rfl rfl (by kernel_rfl) (by kernel_rfl) (by kernel_rfl) (fun _ _ _ h => h) (by rfl) ?_ hHeld ?_
  rotate_left
  · (intro w hSw; (try dsimp only at hSw); go_simp; try with_reducible rfl)
  simp only [Act.put, List.setIfInBounds_toArray, List.set_cons_zero, List.set_cons_succ]
  refine take_at (i := 3) 8 (v := ?_) rfl rfl (by kernel_rfl) (by kernel_rfl) (by kernel_rfl) (fun _ _ _ h => h) (by rfl) ?_ hHeld ?_
  rotate_left
  · (intro w hSw; (try dsimp only at hSw); go_simp; try with_reducible rfl)
  simp only [Act.put, List.setIfInBounds_toArray, List.set_cons_zero, List.set_cons_succ]
  refine take_at (i := 4) 9 (v := ?_) rfl rfl (by kernel_rfl) (by kernel_rfl) (by kernel_rfl) (fun _ _ _ h => h) (by rfl) ?_ hHeld ?_
  rotate_left
  · (intro w hSw; (try dsimp only at hSw); go_simp; try with_reducible rfl)
  simp only [Act.put, List.setIfInBounds_toArray, List.set_cons_zero, List.set_cons_succ]
  refine take_at (i := 5) 10 (v := ?_) rfl rfl (by kernel_rfl) (by kernel_rfl) (by kernel_rfl) (fun _ _ _ h => h) (by rfl) ?_ hHeld ?_
  rotate_left
  · (intro w hSw; (try dsimp only at hSw); go_simp; try with_reducible rfl)
  simp only [Act.put, List.setIfInBounds_toArray, List.set_cons_zero, List.set_cons_succ]
  refine take_at (i := 6) 11 (v := ?_) rfl rfl (by kernel_rfl) (by kernel_rfl) (by kernel_rfl) (fun _ _ _ h => h) (by rfl) ?_ hHeld ?_
  rotate_left
  · (intro w hSw; (try dsimp only at hSw); go_simp; try with_reducible rfl)
  simp only [Act.put, List.setIfInBounds_toArray, List.set_cons_zero, List.set_cons_succ]
  refine run_at (i := 7) rfl (by kernel_rfl) (by rfl) (fun K hK => ?_)
  simp only [List.getElem_toArray, List.getElem_cons_zero, List.getElem_cons_succ]
  go_simp
  first | (go_at_call 33; refine Calls.mono HM.out ?_; rintro e w' ⟨rfl, hq⟩; have hq := hq.symm; subst hq) | (go_at_call 57; refine Calls.mono HDR.out ?_; rintro e w4 ⟨rfl, hr4, hc4⟩; have HC4 : Hid (Chg (fun b => b = m1) w1 w4) := ((Chg.refl (fun b => b = m1) w1).drew).trans hc4 (fun b hb => .inl hb); have HKY4 : Hid (w4.heap[P]? = _) := (HC4.out.block P (Array.getElem?_eq_some_iff.1 HKY.out).1 (fun h9 => by have := HLP.out; omega)).trans HKY.out; have HK4 : Hid (w4.cell? ⟨P, 0, none⟩ = some (.int .u64 (s.1 : Int)) ∧ w4.cell? ⟨P, 1, none⟩ = some (.int .u64 (s.2 : Int))) := ⟨(by rw [cell_of_row _ _ _ _ _ _ HKY4.out]; rfl), (by rw [cell_of_row _ _ _ _ _ _ HKY4.out]; rfl)⟩; have HI4 : Hid _ := Ibx.rm HI1.out s hr4 HC4.out; clear hr4 hc4)
  go_wp2_with fail
  refine hK.out _ _ (by first | exact hkc | exact HK4.out | assumption) ?_
  clear hK K
  intro hHeld2
  clear hHeld
  have hHeld := hHeld2
  clear hHeld2
  try simp only [Act.put, List.setIfInBounds_toArray, List.set_cons_zero, List.set_cons_succ]
  refine take_at (i := 8) 13 (v := ?_) rfl rfl (by kernel_rfl) (by kernel_rfl) (by kernel_rfl) (fun _ _ _ h => h) (by rfl) ?_ hHeld ?_
  rotate_left
  · (intro w hSw; (try dsimp only at hSw); go_simp; try with_reducible rfl)
  simp only [Act.put, List.setIfInBounds_toArray, List.set_cons_zero, List.set_cons_succ]
  refine take_at (i := 9) 4 (v := ?_) rfl rfl (by kernel_rfl) (by kernel_rfl) (by kernel_rfl) (fun _ _ _ h => h) (by rfl) ?_ hHeld ?_
  rotate_left
  · (intro w hSw; (try dsimp only at hSw); go_simp; try with_reducible rfl)
  simp only [Act.put, List.setIfInBounds_toArray, List.set_cons_zero, List.set_cons_succ]
  refine wpAnyH_done (by kernel_rfl) ?_ _
  refine NoPanic.normal ?_
  go_wp2
  go_ret
  refine ⟨rfl, T2, _, _, HI4.out, Nat.le_succ _, (Chg.of_below HB1.out).trans HC4.out (fun b hb => .inl (.inr (.inl hb))), fun b hb => ?_⟩
  rcases hb with hb | hb | hb | ⟨x, hx, ho, hb⟩
  · exact .inl hb
  · exact .inr (.inl hb)
  · exact .inr (.inr (.inl hb))
  · exact .inr (.inr (.inr ⟨x, (mem_rm.1 hx).1, ho, hb⟩))
theorem dec_lo (h : Ibx none w p m1 m2 T1 T2 I E G) (s : Ss) (c : Int) (hc : c < 1) :
    Calls Tryz.prog 29 #[.pointer (some ⟨p, 0, none⟩), sv s, .int .i64 c] w fun e w' => e = .returned (.int .i64 1) ∧ Below w.heap.size w w' := by
  have HM : Hid _ := imade_t (h.below (al (Below.refl w.heap.size w) (.cells #[.int .u64 (s.1 : Int), .int .u64 (s.2 : Int)] tSs)))
  clear h
  go_enter Tryz.func29, Tryz.ntmps29
  go_wp2_with (first | (go_at_call 33; refine Calls.mono HM.out ?_; rintro e w' ⟨rfl, hq⟩; have hq := hq.symm; subst hq) | (go_at_call 56; refine Calls.mono (isnum_t _ _) ?_; rintro e w' ⟨rfl, hq⟩; have hq := hq.symm; subst hq; skip))
  go_ret
  exact ⟨rfl, al (Below.refl _ _) _⟩
theorem dec_hi (h : Ibx none w p m1 m2 T1 T2 I E G) (s : Ss) (c : Int) (hc : 7 < c) :
    Calls Tryz.prog 29 #[.pointer (some ⟨p, 0, none⟩), sv s, .int .i64 c] w fun e w' => e = .returned (.int .i64 1) ∧ Below w.heap.size w w' := by
  have HM : Hid _ := imade_t (h.below (al (Below.refl w.heap.size w) (.cells #[.int .u64 (s.1 : Int), .int .u64 (s.2 : Int)] tSs)))
  clear h
  have hc1 : ¬ c < 1 := by omega
  go_enter Tryz.func29, Tryz.ntmps29
  go_wp2_with (first | (go_at_call 33; refine Calls.mono HM.out ?_; rintro e w' ⟨rfl, hq⟩; have hq := hq.symm; subst hq) | (go_at_call 56; refine Calls.mono (isnum_t _ _) ?_; rintro e w' ⟨rfl, hq⟩; have hq := hq.symm; subst hq; skip))
  go_ret
  exact ⟨rfl, al (Below.refl _ _) _⟩
theorem dec_ep (h : Ibx none w p m1 m2 T1 T2 I E G) (s : Ss) (c : Int) (h0 : 1 ≤ c) (hc : c ≤ 7) (hn : numBI s.1 = false) :
    Calls Tryz.prog 29 #[.pointer (some ⟨p, 0, none⟩), sv s, .int .i64 c] w fun e w' => e = .returned (.int .i64 1) ∧ Below w.heap.size w w' := by
  have HM : Hid _ := imade_t (h.below (al (Below.refl w.heap.size w) (.cells #[.int .u64 (s.1 : Int), .int .u64 (s.2 : Int)] tSs)))
  clear h
  have hc1 : ¬ c < 1 := by omega
  have hc2 : ¬ 7 < c := by omega
  go_enter Tryz.func29, Tryz.ntmps29
  go_wp2_with (first | (go_at_call 33; refine Calls.mono HM.out ?_; rintro e w' ⟨rfl, hq⟩; have hq := hq.symm; subst hq) | (go_at_call 56; refine Calls.mono (isnum_t _ _) ?_; rintro e w' ⟨rfl, hq⟩; have hq := hq.symm; subst hq; rw [hn]))
  go_ret
  exact ⟨rfl, al (Below.refl _ _) _⟩
theorem dec_nu (h : Ibx none w p m1 m2 T1 T2 I E G) (s : Ss) (c : Int) (h0 : 1 ≤ c) (hc : c ≤ 7) (hn : numBI s.1 = true) (hn2 : numBI s.2 = false) :
    Calls Tryz.prog 29 #[.pointer (some ⟨p, 0, none⟩), sv s, .int .i64 c] w fun e w' => e = .returned (.int .i64 1) ∧ Below w.heap.size w w' := by
  have HM : Hid _ := imade_t (h.below (al (Below.refl w.heap.size w) (.cells #[.int .u64 (s.1 : Int), .int .u64 (s.2 : Int)] tSs)))
  clear h
  have hc1 : ¬ c < 1 := by omega
  have hc2 : ¬ 7 < c := by omega
  go_enter Tryz.func29, Tryz.ntmps29
  go_wp2_with (first | (go_at_call 33; refine Calls.mono HM.out ?_; rintro e w' ⟨rfl, hq⟩; have hq := hq.symm; subst hq) | (go_at_call 56; refine Calls.mono (isnum_t _ _) ?_; rintro e w' ⟨rfl, hq⟩; have hq := hq.symm; subst hq; first | rw [hn] | rw [hn2]))
  go_ret
  exact ⟨rfl, al (Below.refl _ _) _⟩
theorem dec_old (h : Ibx none w p m1 m2 T1 T2 I E G) (s : Ss) (c : Int) (h0 : 1 ≤ c) (hc : c ≤ 7) (hn : numBI s.1 = true) (hn2 : numBI s.2 = true) (he : s.1 < I.ep) :
    Calls Tryz.prog 29 #[.pointer (some ⟨p, 0, none⟩), sv s, .int .i64 c] w fun e w' => e = .returned (.int .i64 83) ∧ Below w.heap.size w w' := by
  obtain ⟨w1, hw1⟩ : ∃ w1, w1 = w.alloc (.cells #[.int .u64 (s.1 : Int), .int .u64 (s.2 : Int)] tSs) := ⟨_, rfl⟩
  have hb1 : Below w.heap.size w w1 := by rw [hw1]; exact al (Below.refl _ _) _
  have hI1 := h.below hb1
  have HM : Hid _ := imade_t hI1
  obtain ⟨P, hP⟩ : ∃ P, P = w.heap.size := ⟨_, rfl⟩
  have hky : w1.heap[P]? = some (.cells #[.int .u64 (s.1 : Int), .int .u64 (s.2 : Int)] tSs (0, 0)) := by rw [hw1, hP]; exact heap_alloc_new w _
  have hkc : w1.cell? ⟨P, 0, none⟩ = some (.int .u64 (s.1 : Int)) ∧ w1.cell? ⟨P, 1, none⟩ = some (.int .u64 (s.2 : Int)) := ⟨by rw [cell_of_row _ _ _ _ _ _ hky]; rfl, by rw [cell_of_row _ _ _ _ _ _ hky]; rfl⟩
  have hep := hI1.cell.1
  obtain ⟨ep, hep2⟩ : ∃ ep, ep = I.ep := ⟨_, rfl⟩
  rw [← hep2] at hep
  have hS3 : w1.cell? ⟨P, 0, none⟩ = some (.int .u64 (s.1 : Int)) ∧ w1.cell? ⟨P, 1, none⟩ = some (.int .u64 (s.2 : Int)) ∧ w1.cell? ⟨p, 0, none⟩ = some (.int .u64 (ep : Int)) := ⟨hkc.1, hkc.2, hep⟩
  have HI : Hid _ := h
  have HI1 : Hid _ := hI1
  have HP : Hid _ := hP
  have HKY : Hid _ := hky
  have HB1 : Hid _ := hb1
  have HW1 : Hid (w1 = _) := hw1
  have HEP : Hid _ := hep2
  have hc1 : ¬ c < 1 := by omega
  have hc2 : ¬ 7 < c := by omega
  have hlt : (s.1 : Int) < (ep : Int) := by omega
  clear h hI1 hky hb1 hw1 hP hep2 hep
  go_enter Tryz.func29, Tryz.ntmps29
  go_wp2_with fail
  rw [← HW1.out, ← HP.out]
  refine Calls.mono HM.out ?_
  rintro e w' ⟨rfl, hq⟩
  have hq := hq.symm
  subst hq
  go_wp2_with (go_at_call 56; refine Calls.mono (isnum_t _ _) ?_; rintro e w' ⟨rfl, hq⟩; have hq := hq.symm; subst hq; first | rw [hn] | rw [hn2])
  refine wp_region_noPanic ?_
  refine wp_region_held_drew (S := (fun u => u.cell? ⟨P, 0, none⟩ = some (.int .u64 (s.1 : Int)) ∧ u.cell? ⟨P, 1, none⟩ = some (.int .u64 (s.2 : Int)) ∧ u.cell? ⟨p, 0, none⟩ = some (.int .u64 (ep : Int)))) (by kernel_rfl) (by first | exact hS3 | assumption) (fun hHeld => ?_)
  refine take_at (i := 0) 32 (v := ?_) rfl rfl (by kernel_rfl) (by kernel_rfl) (by kernel_rfl) (fun _ _ _ h => h) (by rfl) ?_ hHeld ?_
  rotate_left
  · (intro w hSw; (try dsimp only at hSw); go_simp; try with_reducible rfl)
  simp only [Act.put, List.setIfInBounds_toArray, List.set_cons_zero, List.set_cons_succ]
  refine take_at (i := 1) 33 (v := ?_) rfl rfl (by kernel_rfl) (by kernel_rfl) (by kernel_rfl) (fun _ _ _ h => h) (by rfl) ?_ hHeld ?_
  rotate_left
  · (intro w hSw; (try dsimp only at hSw); go_simp; try with_reducible rfl)
  simp only [Act.put, List.setIfInBounds_toArray, List.set_cons_zero, List.set_cons_succ]
  refine take_at (i := 2) 34 (v := ?_) rfl rfl (by kernel_rfl) (by kernel_rfl) (by kernel_rfl) (fun _ _ _ h => h) (by rfl) ?_ hHeld ?_
  rotate_left
  · (intro w hSw; (try dsimp only at hSw); go_simp; try with_reducible rfl)
  simp only [Act.put, List.setIfInBounds_toArray, List.set_cons_zero, List.set_cons_succ]
  refine take_at (i := 3) 35 (v := ?_) rfl rfl (by kernel_rfl) (by kernel_rfl) (by kernel_rfl) (fun _ _ _ h => h) (by rfl) ?_ hHeld ?_
  rotate_left
  · (intro w hSw; (try dsimp only at hSw); go_simp; try with_reducible rfl)
  simp only [Act.put, List.setIfInBounds_toArray, List.set_cons_zero, List.set_cons_succ]
  refine take_at (i := 4) 36 (v := ?_) rfl rfl (by kernel_rfl) (by kernel_rfl) (by kernel_rfl) (fun _ _ _ h => h) (by rfl) ?_ hHeld ?_
  rotate_left
  · (intro w hSw; (try dsimp only at hSw); go_simp; try with_reducible rfl)
  simp only [Act.put, List.setIfInBounds_toArray, List.set_cons_zero, List.set_cons_succ]
  refine take_at (i := 5) 37 (v := ?_) rfl rfl (by kernel_rfl) (by kernel_rfl) (by kernel_rfl) (fun _ _ _ h => h) (by rfl) ?_ hHeld ?_
  rotate_left
  · (intro w hSw; (try dsimp only at hSw); go_simp; try with_reducible rfl)
  simp only [Act.put, List.setIfInBounds_toArray, List.set_cons_zero, List.set_cons_succ]
  refine take_at (i := 6) 38 (v := ?_) rfl rfl (by kernel_rfl) (by kernel_rfl) (by kernel_rfl) (fun _ _ _ h => h) (by rfl) ?_ hHeld ?_
  rotate_left
  · (intro w hSw; (try dsimp only at hSw); go_simp; try with_reducible rfl)
  simp only [Act.put, List.setIfInBounds_toArray, List.set_cons_zero, List.set_cons_succ]
  refine wpAnyH_done (by kernel_rfl) ?_ _
  refine NoPanic.normal ?_
  go_wp2
  go_ret
  exact ⟨rfl, HB1.out.drew⟩
theorem dec_twice (h : Ibx none w p m1 m2 T1 T2 I E G) (s : Ss) (c : Int) (h0 : 1 ≤ c) (hc : c ≤ 7) (hn : numBI s.1 = true) (hn2 : numBI s.2 = true) (he : I.ep ≤ s.1) (hH : s ∈ ks I.H) :
    Calls Tryz.prog 29 #[.pointer (some ⟨p, 0, none⟩), sv s, .int .i64 c] w fun e w' => e = .returned (.int .i64 3) ∧ Below w.heap.size w w' := by
  obtain ⟨w1, hw1⟩ : ∃ w1, w1 = w.alloc (.cells #[.int .u64 (s.1 : Int), .int .u64 (s.2 : Int)] tSs) := ⟨_, rfl⟩
  have hb1 : Below w.heap.size w w1 := by rw [hw1]; exact al (Below.refl _ _) _
  have hI1 := h.below hb1
  have HM : Hid _ := imade_t hI1
  obtain ⟨P, hP⟩ : ∃ P, P = w.heap.size := ⟨_, rfl⟩
  have hky : w1.heap[P]? = some (.cells #[.int .u64 (s.1 : Int), .int .u64 (s.2 : Int)] tSs (0, 0)) := by rw [hw1, hP]; exact heap_alloc_new w _
  have hkc : w1.cell? ⟨P, 0, none⟩ = some (.int .u64 (s.1 : Int)) ∧ w1.cell? ⟨P, 1, none⟩ = some (.int .u64 (s.2 : Int)) := ⟨by rw [cell_of_row _ _ _ _ _ _ hky]; rfl, by rw [cell_of_row _ _ _ _ _ _ hky]; rfl⟩
  have hep := hI1.cell.1
  obtain ⟨ep, hep2⟩ : ∃ ep, ep = I.ep := ⟨_, rfl⟩
  rw [← hep2] at hep
  have hS3 : w1.cell? ⟨P, 0, none⟩ = some (.int .u64 (s.1 : Int)) ∧ w1.cell? ⟨P, 1, none⟩ = some (.int .u64 (s.2 : Int)) ∧ w1.cell? ⟨p, 0, none⟩ = some (.int .u64 (ep : Int)) := ⟨hkc.1, hkc.2, hep⟩
  have HI : Hid _ := h
  have HI1 : Hid _ := hI1
  have HP : Hid _ := hP
  have HKY : Hid _ := hky
  have HB1 : Hid _ := hb1
  have HW1 : Hid (w1 = _) := hw1
  have HEP : Hid _ := hep2
  have hc1 : ¬ c < 1 := by omega
  have hc2 : ¬ 7 < c := by omega
  have hlt : ¬ (s.1 : Int) < (ep : Int) := by omega
  have HSS : Hid (inS s) := by
    have h1 := hn
    have h2 := hn2
    unfold numBI at h1 h2
    simp only [decide_eq_true_eq] at h1 h2
    exact ⟨by omega, by omega⟩
  obtain ⟨c9, t9, hlk⟩ : ∃ c9 t9, lk G s = some (c9, t9) := by
    cases h9 : lk G s with
    | none => exact absurd hH (by rw [← h.ksH]; exact lk_none.1 h9)
    | some a => exact ⟨a.1, a.2, rfl⟩
  have HGET : Hid (Calls _ _ _ w1.drew.drew _) := getI_in (o := 4) (p := p) ((hI1.below (w' := w1.drew.drew) (Below.refl _ _).drew.drew).cell.2.2.2.2.2.2) (hI1.below (w' := w1.drew.drew) (Below.refl _ _).drew.drew).r2 HSS.out hlk
  clear h hI1 hky hb1 hw1 hP hep2 hep
  go_enter Tryz.func29, Tryz.ntmps29
  go_wp2_with fail
  rw [← HW1.out, ← HP.out]
  refine Calls.mono HM.out ?_
  rintro e w' ⟨rfl, hq⟩
  have hq := hq.symm
  subst hq
  go_wp2_with (go_at_call 56; refine Calls.mono (isnum_t _ _) ?_; rintro e w' ⟨rfl, hq⟩; have hq := hq.symm; subst hq; first | rw [hn] | rw [hn2])
  refine wp_region_noPanic ?_
  refine wp_region_held_drew (S := (fun u => u.cell? ⟨P, 0, none⟩ = some (.int .u64 (s.1 : Int)) ∧ u.cell? ⟨P, 1, none⟩ = some (.int .u64 (s.2 : Int)) ∧ u.cell? ⟨p, 0, none⟩ = some (.int .u64 (ep : Int)))) (by kernel_rfl) (by first | exact hS3 | assumption) (fun hHeld => ?_)
  refine take_at (i := 0) 32 (v := ?_) rfl rfl (by kernel_rfl) (by kernel_rfl) (by kernel_rfl) (fun _ _ _ h => h) (by rfl) ?_ hHeld ?_
  rotate_left
  · (intro w hSw; (try dsimp only at hSw); go_simp; try with_reducible rfl)
  simp only [Act.put, List.setIfInBounds_toArray, List.set_cons_zero, List.set_cons_succ]
  refine take_at (i := 1) 33 (v := ?_) rfl rfl (by kernel_rfl) (by kernel_rfl) (by kernel_rfl) (fun _ _ _ h => h) (by rfl) ?_ hHeld ?_
  rotate_left
  · (intro w hSw; (try dsimp only at hSw); go_simp; try with_reducible rfl)
  simp only [Act.put, List.setIfInBounds_toArray, List.set_cons_zero, List.set_cons_succ]
  refine take_at (i := 2) 34 (v := ?_) rfl rfl (by kernel_rfl) (by kernel_rfl) (by kernel_rfl) (fun _ _ _ h => h) (by rfl) ?_ hHeld ?_
  rotate_left
  · (intro w hSw; (try dsimp only at hSw); go_simp; try with_reducible rfl)
  simp only [Act.put, List.setIfInBounds_toArray, List.set_cons_zero, List.set_cons_succ]
  refine take_at (i := 3) 35 (v := ?_) rfl rfl (by kernel_rfl) (by kernel_rfl) (by kernel_rfl) (fun _ _ _ h => h) (by rfl) ?_ hHeld ?_
  rotate_left
  · (intro w hSw; (try dsimp only at hSw); go_simp; try with_reducible rfl)
  simp only [Act.put, List.setIfInBounds_toArray, List.set_cons_zero, List.set_cons_succ]
  refine take_at (i := 4) 36 (v := ?_) rfl rfl (by kernel_rfl) (by kernel_rfl) (by kernel_rfl) (fun _ _ _ h => h) (by rfl) ?_ hHeld ?_
  rotate_left
  · (intro w hSw; (try dsimp only at hSw); go_simp; try with_reducible rfl)
  simp only [Act.put, List.setIfInBounds_toArray, List.set_cons_zero, List.set_cons_succ]
  refine take_at (i := 5) 37 (v := ?_) rfl rfl (by kernel_rfl) (by kernel_rfl) (by kernel_rfl) (fun _ _ _ h => h) (by rfl) ?_ hHeld ?_
  rotate_left
  · (intro w hSw; (try dsimp only at hSw); go_simp; try with_reducible rfl)
  simp only [Act.put, List.setIfInBounds_toArray, List.set_cons_zero, List.set_cons_succ]
  refine take_at (i := 6) 38 (v := ?_) rfl rfl (by kernel_rfl) (by kernel_rfl) (by kernel_rfl) (fun _ _ _ h => h) (by rfl) ?_ hHeld ?_
  rotate_left
  · (intro w hSw; (try dsimp only at hSw); go_simp; try with_reducible rfl)
  simp only [Act.put, List.setIfInBounds_toArray, List.set_cons_zero, List.set_cons_succ]
  refine wpAnyH_done (by kernel_rfl) ?_ _
  refine NoPanic.normal ?_
  go_wp2
  refine wp_region_noPanic ?_
  refine wp_region_held_drew (S := (fun u => u.cell? ⟨P, 0, none⟩ = some (.int .u64 (s.1 : Int)) ∧ u.cell? ⟨P, 1, none⟩ = some (.int .u64 (s.2 : Int)))) (by kernel_rfl) (by first | exact hkc | exact HK2.out | assumption) (fun hHeld => ?_)
  refine take_at (i := 0) 40 (v := ?_) rfl rfl (by kernel_rfl) (by kernel_rfl) (by kernel_rfl) (fun _ _ _ h => h) (by rfl) ?_ hHeld ?_
  rotate_left
  · (intro w hSw; (try dsimp only at hSw); go_simp; try with_reducible rfl)
  simp only [Act.put, List.setIfInBounds_toArray, List.set_cons_zero, List.set_cons_succ]
  refine take_at (i := 1) 41 (v := ?_) rfl rfl (by kernel_rfl) (by kernel_rfl) (by kernel_rfl) (fun _ _ _ h => h) (by rfl) ?_ hHeld ?_
  rotate_left
  · (intro w hSw; (try dsimp only at hSw); go_simp; try with_reducible rfl)
  simp only [Act.put, List.setIfInBounds_toArray, List.set_cons_zero, List.set_cons_succ]
  refine take_at (i := 2) 42 (v := ?_) rfl rfl (by kernel_rfl) (by kernel_rfl) (by kernel_rfl) (fun _ _ _ h => h) (by rfl) ?_ hHeld ?_
  rotate_left
  · (intro w hSw; (try dsimp only at hSw); go_simp; try with_reducible rfl)
  simp only [Act.put, List.setIfInBounds_toArray, List.set_cons_zero, List.set_cons_succ]
  refine take_at (i := 3) 43 (v := ?_) rfl rfl (by kernel_rfl) (by kernel_rfl) (by kernel_rfl) (fun _ _ _ h => h) (by rfl) ?_ hHeld ?_
  rotate_left
  · (intro w hSw; (try dsimp only at hSw); go_simp; try with_reducible rfl)
  simp only [Act.put, List.setIfInBounds_toArray, List.set_cons_zero, List.set_cons_succ]
  refine run_at (i := 4) rfl (by kernel_rfl) (by rfl) (fun K hK => ?_)
  simp only [List.getElem_toArray, List.getElem_cons_zero, List.getElem_cons_succ]
  go_simp
  (go_at_call 36; refine Calls.mono HGET.out ?_; rintro e w2 ⟨rfl, hb2⟩; have HB2 : Hid (Below w1.heap.size w1 w2) := ((Below.refl w1.heap.size w1).drew.drew).trans hb2; have HKY2 : Hid (w2.heap[P]? = _) := (HB2.out.block P (Array.getElem?_eq_some_iff.1 HKY.out).1).trans HKY.out; have HK2 : Hid (w2.cell? ⟨P, 0, none⟩ = some (.int .u64 (s.1 : Int)) ∧ w2.cell? ⟨P, 1, none⟩ = some (.int .u64 (s.2 : Int))) := ⟨(by rw [cell_of_row _ _ _ _ _ _ HKY2.out]; rfl), (by rw [cell_of_row _ _ _ _ _ _ HKY2.out]; rfl)⟩; clear hb2)
  go_wp2_with fail
  refine hK.out _ _ (by first | exact hkc | exact HK2.out | assumption) ?_
  clear hK K
  intro hHeld2
  clear hHeld
  have hHeld := hHeld2
  clear hHeld2
  try simp only [Act.put, List.setIfInBounds_toArray, List.set_cons_zero, List.set_cons_succ]
  refine take_at (i := 5) 39 (v := ?_) rfl rfl (by kernel_rfl) (by kernel_rfl) (by kernel_rfl) (fun _ _ _ h => h) (by rfl) ?_ hHeld ?_
  rotate_left
  · (intro w hSw; (try dsimp only at hSw); go_simp; try with_reducible rfl)
  simp only [Act.put, List.setIfInBounds_toArray, List.set_cons_zero, List.set_cons_succ]
  refine take_at (i := 6) 45 (v := ?_) rfl rfl (by kernel_rfl) (by kernel_rfl) (by kernel_rfl) (fun _ _ _ h => h) (by rfl) ?_ hHeld ?_
  rotate_left
  · (intro w hSw; (try dsimp only at hSw); go_simp; try with_reducible rfl)
  simp only [Act.put, List.setIfInBounds_toArray, List.set_cons_zero, List.set_cons_succ]
  refine take_at (i := 7) 46 (v := ?_) rfl rfl (by kernel_rfl) (by kernel_rfl) (by kernel_rfl) (fun _ _ _ h => h) (by rfl) ?_ hHeld ?_
  rotate_left
  · (intro w hSw; (try dsimp only at hSw); go_simp; try with_reducible rfl)
  simp only [Act.put, List.setIfInBounds_toArray, List.set_cons_zero, List.set_cons_succ]
  refine take_at (i := 8) 7 (v := ?_) rfl rfl (by kernel_rfl) (by kernel_rfl) (by kernel_rfl) (fun _ _ _ h => h) (by rfl) ?_ hHeld ?_
  rotate_left
  · (intro w hSw; (try dsimp only at hSw); go_simp; try with_reducible rfl)
  simp only [Act.put, List.setIfInBounds_toArray, List.set_cons_zero, List.set_cons_succ]
  refine take_at (i := 9) 8 (v := ?_) rfl rfl (by kernel_rfl) (by kernel_rfl) (by kernel_rfl) (fun _ _ _ h => h) (by rfl) ?_ hHeld ?_
  rotate_left
  · (intro w hSw; (try dsimp only at hSw); go_simp; try with_reducible rfl)
  simp only [Act.put, List.setIfInBounds_toArray, List.set_cons_zero, List.set_cons_succ]
  refine wpAnyH_done (by kernel_rfl) ?_ _
  refine NoPanic.normal ?_
  go_wp2
  go_ret
  exact ⟨rfl, below_next HB1.out HB2.out⟩
theorem dec_ok (h : Ibx none w p m1 m2 T1 T2 I E G) (s : Ss) (c : Int) (h0 : 1 ≤ c) (hc : c ≤ 7) (hn : numBI s.1 = true) (hn2 : numBI s.2 = true) (he : I.ep ≤ s.1) (hH : s ∉ ks I.H) (hT : T2 < 9223372036854775807) :
    Calls Tryz.prog 29 #[.pointer (some ⟨p, 0, none⟩), sv s, .int .i64 c] w fun e w' => e = .returned (.int .i64 0) ∧ DcPost w p m1 m2 T1 T2 E { riseI I s.1 with O := rm (riseI I s.1).O s, H := pt (riseI I s.1).ms (riseI I s.1).H s c } w' := by
  obtain ⟨w1, hw1⟩ : ∃ w1, w1 = w.alloc (.cells #[.int .u64 (s.1 : Int), .int .u64 (s.2 : Int)] tSs) := ⟨_, rfl⟩
  have hb1 : Below w.heap.size w w1 := by rw [hw1]; exact al (Below.refl _ _) _
  have hI1 := h.below hb1
  have HM : Hid _ := imade_t hI1
  obtain ⟨P, hP⟩ : ∃ P, P = w.heap.size := ⟨_, rfl⟩
  have hky : w1.heap[P]? = some (.cells #[.int .u64 (s.1 : Int), .int .u64 (s.2 : Int)] tSs (0, 0)) := by rw [hw1, hP]; exact heap_alloc_new w _
  have hkc : w1.cell? ⟨P, 0, none⟩ = some (.int .u64 (s.1 : Int)) ∧ w1.cell? ⟨P, 1, none⟩ = some (.int .u64 (s.2 : Int)) := ⟨by rw [cell_of_row _ _ _ _ _ _ hky]; rfl, by rw [cell_of_row _ _ _ _ _ _ hky]; rfl⟩
  have hep := hI1.cell.1
  obtain ⟨ep, hep2⟩ : ∃ ep, ep = I.ep := ⟨_, rfl⟩
  rw [← hep2] at hep
  have hS3 : w1.cell? ⟨P, 0, none⟩ = some (.int .u64 (s.1 : Int)) ∧ w1.cell? ⟨P, 1, none⟩ = some (.int .u64 (s.2 : Int)) ∧ w1.cell? ⟨p, 0, none⟩ = some (.int .u64 (ep : Int)) := ⟨hkc.1, hkc.2, hep⟩
  have HI : Hid _ := h
  have HI1 : Hid _ := hI1
  have HP : Hid _ := hP
  have HKY : Hid _ := hky
  have HB1 : Hid _ := hb1
  have HW1 : Hid (w1 = _) := hw1
  have HEP : Hid _ := hep2
  have hc1 : ¬ c < 1 := by omega
  have hc2 : ¬ 7 < c := by omega
  have hlt : ¬ (s.1 : Int) < (ep : Int) := by omega
  have HSS : Hid (inS s) := by
    have h1 := hn
    have h2 := hn2
    unfold numBI at h1 h2
    simp only [decide_eq_true_eq] at h1 h2
    exact ⟨by omega, by omega⟩
  have hlk : lk G s = none := lk_none.2 (by rw [h.ksH]; exact hH)
  have HGET : Hid (Calls _ _ _ w1.drew.drew _) := getI_no (o := 4) (p := p) ((hI1.below (w' := w1.drew.drew) (Below.refl _ _).drew.drew).cell.2.2.2.2.2.2) (hI1.below (w' := w1.drew.drew) (Below.refl _ _).drew.drew).r2 HSS.out hlk
  clear h hI1 hky hb1 hw1 hP hep2 hep
  go_enter Tryz.func29, Tryz.ntmps29
  go_wp2_with fail
  rw [← HW1.out, ← HP.out]
  refine Calls.mono HM.out ?_
  rintro e w' ⟨rfl, hq⟩
  have hq := hq.symm
  subst hq
  go_wp2_with (go_at_call 56; refine Calls.mono (isnum_t _ _) ?_; rintro e w' ⟨rfl, hq⟩; have hq := hq.symm; subst hq; first | rw [hn] | rw [hn2])
  refine wp_region_noPanic ?_
  refine wp_region_held_drew (S := (fun u => u.cell? ⟨P, 0, none⟩ = some (.int .u64 (s.1 : Int)) ∧ u.cell? ⟨P, 1, none⟩ = some (.int .u64 (s.2 : Int)) ∧ u.cell? ⟨p, 0, none⟩ = some (.int .u64 (ep : Int)))) (by kernel_rfl) (by first | exact hS3 | assumption) (fun hHeld => ?_)
  refine take_at (i := 0) 32 (v := ?_) rfl rfl (by kernel_rfl) (by kernel_rfl) (by kernel_rfl) (fun _ _ _ h => h) (by rfl) ?_ hHeld ?_
  rotate_left
  · (intro w hSw; (try dsimp only at hSw); go_simp; try with_reducible rfl)
  simp only [Act.put, List.setIfInBounds_toArray, List.set_cons_zero, List.set_cons_succ]
  refine take_at (i := 1) 33 (v := ?_) rfl rfl (by kernel_rfl) (by kernel_rfl) (by kernel_rfl) (fun _ _ _ h => h) (by rfl) ?_ hHeld ?_
  rotate_left
  · (intro w hSw; (try dsimp only at hSw); go_simp; try with_reducible rfl)
  simp only [Act.put, List.setIfInBounds_toArray, List.set_cons_zero, List.set_cons_succ]
  refine take_at (i := 2) 34 (v := ?_) rfl rfl (by kernel_rfl) (by kernel_rfl) (by kernel_rfl) (fun _ _ _ h => h) (by rfl) ?_ hHeld ?_
  rotate_left
  · (intro w hSw; (try dsimp only at hSw); go_simp; try with_reducible rfl)
  simp only [Act.put, List.setIfInBounds_toArray, List.set_cons_zero, List.set_cons_succ]
  refine take_at (i := 3) 35 (v := ?_) rfl rfl (by kernel_rfl) (by kernel_rfl) (by kernel_rfl) (fun _ _ _ h => h) (by rfl) ?_ hHeld ?_
  rotate_left
  · (intro w hSw; (try dsimp only at hSw); go_simp; try with_reducible rfl)
  simp only [Act.put, List.setIfInBounds_toArray, List.set_cons_zero, List.set_cons_succ]
  refine take_at (i := 4) 36 (v := ?_) rfl rfl (by kernel_rfl) (by kernel_rfl) (by kernel_rfl) (fun _ _ _ h => h) (by rfl) ?_ hHeld ?_
  rotate_left
  · (intro w hSw; (try dsimp only at hSw); go_simp; try with_reducible rfl)
  simp only [Act.put, List.setIfInBounds_toArray, List.set_cons_zero, List.set_cons_succ]
  refine take_at (i := 5) 37 (v := ?_) rfl rfl (by kernel_rfl) (by kernel_rfl) (by kernel_rfl) (fun _ _ _ h => h) (by rfl) ?_ hHeld ?_
  rotate_left
  · (intro w hSw; (try dsimp only at hSw); go_simp; try with_reducible rfl)
  simp only [Act.put, List.setIfInBounds_toArray, List.set_cons_zero, List.set_cons_succ]
  refine take_at (i := 6) 38 (v := ?_) rfl rfl (by kernel_rfl) (by kernel_rfl) (by kernel_rfl) (fun _ _ _ h => h) (by rfl) ?_ hHeld ?_
  rotate_left
  · (intro w hSw; (try dsimp only at hSw); go_simp; try with_reducible rfl)
  simp only [Act.put, List.setIfInBounds_toArray, List.set_cons_zero, List.set_cons_succ]
  refine wpAnyH_done (by kernel_rfl) ?_ _
  refine NoPanic.normal ?_
  go_wp2
  refine wp_region_noPanic ?_
  refine wp_region_held_drew (S := (fun u => u.cell? ⟨P, 0, none⟩ = some (.int .u64 (s.1 : Int)) ∧ u.cell? ⟨P, 1, none⟩ = some (.int .u64 (s.2 : Int)))) (by kernel_rfl) (by first | exact hkc | exact HK2.out | assumption) (fun hHeld => ?_)
  refine take_at (i := 0) 40 (v := ?_) rfl rfl (by kernel_rfl) (by kernel_rfl) (by kernel_rfl) (fun _ _ _ h => h) (by rfl) ?_ hHeld ?_
  rotate_left
  · (intro w hSw; (try dsimp only at hSw); go_simp; try with_reducible rfl)
  simp only [Act.put, List.setIfInBounds_toArray, List.set_cons_zero, List.set_cons_succ]
  refine take_at (i := 1) 41 (v := ?_) rfl rfl (by kernel_rfl) (by kernel_rfl) (by kernel_rfl) (fun _ _ _ h => h) (by rfl) ?_ hHeld ?_
  rotate_left
  · (intro w hSw; (try dsimp only at hSw); go_simp; try with_reducible rfl)
  simp only [Act.put, List.setIfInBounds_toArray, List.set_cons_zero, List.set_cons_succ]
  refine take_at (i := 2) 42 (v := ?_) rfl rfl (by kernel_rfl) (by kernel_rfl) (by kernel_rfl) (fun _ _ _ h => h) (by rfl) ?_ hHeld ?_
  rotate_left
  · (intro w hSw; (try dsimp only at hSw); go_simp; try with_reducible rfl)
  simp only [Act.put, List.setIfInBounds_toArray, List.set_cons_zero, List.set_cons_succ]
  refine take_at (i := 3) 43 (v := ?_) rfl rfl (by kernel_rfl) (by kernel_rfl) (by kernel_rfl) (fun _ _ _ h => h) (by rfl) ?_ hHeld ?_
  rotate_left
  · (intro w hSw; (try dsimp only at hSw); go_simp; try with_reducible rfl)
  simp only [Act.put, List.setIfInBounds_toArray, List.set_cons_zero, List.set_cons_succ]
  refine run_at (i := 4) rfl (by kernel_rfl) (by rfl) (fun K hK => ?_)
  simp only [List.getElem_toArray, List.getElem_cons_zero, List.getElem_cons_succ]
  go_simp
  (go_at_call 36; refine Calls.mono HGET.out ?_; rintro e w2 ⟨rfl, hb2⟩; have HB2 : Hid (Below w1.heap.size w1 w2) := ((Below.refl w1.heap.size w1).drew.drew).trans hb2; have HKY2 : Hid (w2.heap[P]? = _) := (HB2.out.block P (Array.getElem?_eq_some_iff.1 HKY.out).1).trans HKY.out; have HK2 : Hid (w2.cell? ⟨P, 0, none⟩ = some (.int .u64 (s.1 : Int)) ∧ w2.cell? ⟨P, 1, none⟩ = some (.int .u64 (s.2 : Int))) := ⟨(by rw [cell_of_row _ _ _ _ _ _ HKY2.out]; rfl), (by rw [cell_of_row _ _ _ _ _ _ HKY2.out]; rfl)⟩; clear hb2)
  go_wp2_with fail
  refine hK.out _ _ (by first | exact hkc | exact HK2.out | assumption) ?_
  clear hK K
  intro hHeld2
  clear hHeld
  have hHeld := hHeld2
  clear hHeld2
  try simp only [Act.put, List.setIfInBounds_toArray, List.set_cons_zero, List.set_cons_succ]
  refine take_at (i := 5) 39 (v := ?_) rfl rfl (by kernel_rfl) (by kernel_rfl) (by kernel_rfl) (fun _ _ _ h => h) (by rfl) ?_ hHeld ?_
  rotate_left
  · (intro w hSw; (try dsimp only at hSw); go_simp; try with_reducible rfl)
  simp only [Act.put, List.setIfInBounds_toArray, List.set_cons_zero, List.set_cons_succ]
  refine take_at (i := 6) 45 (v := ?_) rfl rfl (by kernel_rfl) (by kernel_rfl) (by kernel_rfl) (fun _ _ _ h => h) (by rfl) ?_ hHeld ?_
  rotate_left
  · (intro w hSw; (try dsimp only at hSw); go_simp; try with_reducible rfl)
  simp only [Act.put, List.setIfInBounds_toArray, List.set_cons_zero, List.set_cons_succ]
  refine take_at (i := 7) 46 (v := ?_) rfl rfl (by kernel_rfl) (by kernel_rfl) (by kernel_rfl) (fun _ _ _ h => h) (by rfl) ?_ hHeld ?_
  rotate_left
  · (intro w hSw; (try dsimp only at hSw); go_simp; try with_reducible rfl)
  simp only [Act.put, List.setIfInBounds_toArray, List.set_cons_zero, List.set_cons_succ]
  refine take_at (i := 8) 7 (v := ?_) rfl rfl (by kernel_rfl) (by kernel_rfl) (by kernel_rfl) (fun _ _ _ h => h) (by rfl) ?_ hHeld ?_
  rotate_left
  · (intro w hSw; (try dsimp only at hSw); go_simp; try with_reducible rfl)
  simp only [Act.put, List.setIfInBounds_toArray, List.set_cons_zero, List.set_cons_succ]
  refine take_at (i := 9) 8 (v := ?_) rfl rfl (by kernel_rfl) (by kernel_rfl) (by kernel_rfl) (fun _ _ _ h => h) (by rfl) ?_ hHeld ?_
  rotate_left
  · (intro w hSw; (try dsimp only at hSw); go_simp; try with_reducible rfl)
  simp only [Act.put, List.setIfInBounds_toArray, List.set_cons_zero, List.set_cons_succ]
  refine wpAnyH_done (by kernel_rfl) ?_ _
  refine NoPanic.normal ?_
  have HI2 : Hid _ := HI1.out.below HB2.out
  have HH : Hid (Calls _ _ _ w2 _) := ihear_t HI2.out s.1 (HSS.out.1)
  have hk2 := HK2.out
  go_wp2_with fail
  refine Calls.mono HH.out ?_
  rintro e w3 ⟨rfl, E', G', hI3, hft, hc3⟩
  have hlt3 : ∀ b, footI none p m1 m2 E b → b < P := fun b hb => by rw [HP.out]; exact Ibx.lt HI.out hb
  have hky3 : w3.heap[P]? = some (.cells #[.int .u64 (s.1 : Int), .int .u64 (s.2 : Int)] tSs (0, 0)) := (hc3.block P (Array.getElem?_eq_some_iff.1 HKY2.out).1 (fun h9 => by have := hlt3 P (h9.imp id (fun h8 => h8.imp id .inl)); omega)).trans HKY2.out
  have hk3 : w3.cell? ⟨P, 0, none⟩ = some (.int .u64 (s.1 : Int)) ∧ w3.cell? ⟨P, 1, none⟩ = some (.int .u64 (s.2 : Int)) := ⟨(by rw [cell_of_row _ _ _ _ _ _ hky3]; rfl), (by rw [cell_of_row _ _ _ _ _ _ hky3]; rfl)⟩
  have HKY3 : Hid _ := hky3
  have HI3 : Hid _ := hI3
  have HFT : Hid _ := hft
  have HLT3 : Hid _ := hlt3
  have HCH3 : Hid (Chg (footI none p m1 m2 E) w w3) := (Chg.of_below (below_next HB1.out HB2.out)).trans hc3 (fun b hb => .inl (hb.imp id (fun h8 => h8.imp id .inl)))
  have HDR : Hid (∃ bl, Calls Tryz.prog 57 #[.pointer (some ⟨p, 1, none⟩), sv s] w3.drew fun e w' => e = .returned (.bool bl) ∧ RowM w' m1 T1 (mp fB (rm (mp Bg.qt E') s)) ∧ Chg (fun b => b = m1) w3.drew w') := by
    have hI9 := hI3.below (w' := w3.drew) (Below.refl _ _).drew
    cases h9 : lk (mp Bg.qt E') s with
    | none => exact ⟨false, drop_no (o := 1) hI9.hp rfl hI9.r1 HSS.out h9⟩
    | some a => exact ⟨true, drop_in (o := 1) hI9.hp rfl hI9.r1 HSS.out (c := a.1) (t := a.2) h9⟩
  obtain ⟨bl, hdr⟩ := HDR.out
  have HDR2 : Hid (Calls _ _ _ _ _) := hdr
  clear hI3 hft hc3 hky3 hlt3 hdr HDR hk2
  go_wp2
  refine wp_region_noPanic ?_
  refine wp_region_held_drew (S := (fun u => u.cell? ⟨P, 0, none⟩ = some (.int .u64 (s.1 : Int)) ∧ u.cell? ⟨P, 1, none⟩ = some (.int .u64 (s.2 : Int)))) (by kernel_rfl) (by first | exact hk3 | exact HK4.out | assumption) (fun hHeld => ?_)
  refine take_at (i := 0) 52 (v := ?_) rfl rfl (by kernel_rfl) (by kernel_rfl) (by kernel_rfl) (fun _ _ _ h => h) (by rfl) ?_ hHeld ?_
  rotate_left
  · (intro w hSw; (try dsimp only at hSw); go_simp; try with_reducible rfl)
  simp only [Act.put, List.setIfInBounds_toArray, List.set_cons_zero, List.set_cons_succ]
  refine take_at (i := 1) 53 (v := ?_) rfl rfl (by kernel_rfl) (by kernel_rfl) (by kernel_rfl) (fun _ _ _ h => h) (by rfl) ?_ hHeld ?_
  rotate_left
  · (intro w hSw; (try dsimp only at hSw); go_simp; try with_reducible rfl)
  simp only [Act.put, List.setIfInBounds_toArray, List.set_cons_zero, List.set_cons_succ]
  refine take_at (i := 2) 54 (v := ?_) rfl rfl (by kernel_rfl) (by kernel_rfl) (by kernel_rfl) (fun _ _ _ h => h) (by rfl) ?_ hHeld ?_
  rotate_left
  · (intro w hSw; (try dsimp only at hSw); go_simp; try with_reducible rfl)
  simp only [Act.put, List.setIfInBounds_toArray, List.set_cons_zero, List.set_cons_succ]
  refine take_at (i := 3) 55 (v := ?_) rfl rfl (by kernel_rfl) (by kernel_rfl) (by kernel_rfl) (fun _ _ _ h => h) (by rfl) ?_ hHeld ?_
  rotate_left
  · (intro w hSw; (try dsimp only at hSw); go_simp; try with_reducible rfl)
  simp only [Act.put, List.setIfInBounds_toArray, List.set_cons_zero, List.set_cons_succ]
  refine run_at (i := 4) rfl (by kernel_rfl) (by rfl) (fun K hK => ?_)
  simp only [List.getElem_toArray, List.getElem_cons_zero, List.getElem_cons_succ]
  go_simp
  (go_at_call 57; refine Calls.mono HDR2.out ?_; rintro e w4 ⟨rfl, hr4, hc4⟩; have HC4 : Hid (Chg (fun b => b = m1) w3 w4) := ((Chg.refl (fun b => b = m1) w3).drew).trans hc4 (fun b hb => .inl hb); have HKY4 : Hid (w4.heap[P]? = _) := (HC4.out.block P (Array.getElem?_eq_some_iff.1 HKY3.out).1 (fun h9 => by have := HLT3.out P (HFT.out P (.inr (.inl h9))); omega)).trans HKY3.out; have HK4 : Hid (w4.cell? ⟨P, 0, none⟩ = some (.int .u64 (s.1 : Int)) ∧ w4.cell? ⟨P, 1, none⟩ = some (.int .u64 (s.2 : Int))) := ⟨(by rw [cell_of_row _ _ _ _ _ _ HKY4.out]; rfl), (by rw [cell_of_row _ _ _ _ _ _ HKY4.out]; rfl)⟩; have HI4 : Hid _ := Ibx.rm HI3.out s hr4 HC4.out; clear hr4 hc4)
  go_wp2_with fail
  refine hK.out _ _ (by first | exact hk3 | exact HK4.out | assumption) ?_
  clear hK K
  intro hHeld2
  clear hHeld
  have hHeld := hHeld2
  clear hHeld2
  try simp only [Act.put, List.setIfInBounds_toArray, List.set_cons_zero, List.set_cons_succ]
  refine wpAnyH_done (by kernel_rfl) ?_ _
  refine NoPanic.normal ?_
  have hk4 := HK4.out
  have HPUT : Hid (Calls _ _ _ w4.drew _) := putI_t (w := w4.drew) (o := 4) (p := p) tIb _ (HI4.out.below (w' := w4.drew) (Below.refl _ _).drew).hp (riseI I s.1).ms rfl rfl rfl (HI4.out.below (w' := w4.drew) (Below.refl _ _).drew).r2 HSS.out c hT HI4.out.ok.s0 (by have h9 : (riseI I s.1).ms ≤ 4096 := HI4.out.ok.s1; omega) HI4.out.lenG
  go_wp2
  refine wp_region_noPanic ?_
  refine wp_region_held_drew (S := (fun u => u.cell? ⟨P, 0, none⟩ = some (.int .u64 (s.1 : Int)) ∧ u.cell? ⟨P, 1, none⟩ = some (.int .u64 (s.2 : Int)))) (by kernel_rfl) (by first | exact hk4 | exact HK5.out | assumption) (fun hHeld => ?_)
  refine take_at (i := 0) 57 (v := ?_) rfl rfl (by kernel_rfl) (by kernel_rfl) (by kernel_rfl) (fun _ _ _ h => h) (by rfl) ?_ hHeld ?_
  rotate_left
  · (intro w hSw; (try dsimp only at hSw); go_simp; try with_reducible rfl)
  simp only [Act.put, List.setIfInBounds_toArray, List.set_cons_zero, List.set_cons_succ]
  refine take_at (i := 1) 58 (v := ?_) rfl rfl (by kernel_rfl) (by kernel_rfl) (by kernel_rfl) (fun _ _ _ h => h) (by rfl) ?_ hHeld ?_
  rotate_left
  · (intro w hSw; (try dsimp only at hSw); go_simp; try with_reducible rfl)
  simp only [Act.put, List.setIfInBounds_toArray, List.set_cons_zero, List.set_cons_succ]
  refine take_at (i := 2) 59 (v := ?_) rfl rfl (by kernel_rfl) (by kernel_rfl) (by kernel_rfl) (fun _ _ _ h => h) (by rfl) ?_ hHeld ?_
  rotate_left
  · (intro w hSw; (try dsimp only at hSw); go_simp; try with_reducible rfl)
  simp only [Act.put, List.setIfInBounds_toArray, List.set_cons_zero, List.set_cons_succ]
  refine take_at (i := 3) 60 (v := ?_) rfl rfl (by kernel_rfl) (by kernel_rfl) (by kernel_rfl) (fun _ _ _ h => h) (by rfl) ?_ hHeld ?_
  rotate_left
  · (intro w hSw; (try dsimp only at hSw); go_simp; try with_reducible rfl)
  simp only [Act.put, List.setIfInBounds_toArray, List.set_cons_zero, List.set_cons_succ]
  refine take_at (i := 4) 61 (v := ?_) rfl rfl (by kernel_rfl) (by kernel_rfl) (by kernel_rfl) (fun _ _ _ h => h) (by rfl) ?_ hHeld ?_
  rotate_left
  · (intro w hSw; (try dsimp only at hSw); go_simp; try with_reducible rfl)
  simp only [Act.put, List.setIfInBounds_toArray, List.set_cons_zero, List.set_cons_succ]
  refine run_at (i := 5) rfl (by kernel_rfl) (by rfl) (fun K hK => ?_)
  simp only [List.getElem_toArray, List.getElem_cons_zero, List.getElem_cons_succ]
  go_simp
  (go_at_call 37; refine Calls.mono HPUT.out ?_; rintro e w5 ⟨rfl, hr5, hp5, hc5⟩; have HC5 : Hid (Chg (fun b => b = p ∨ b = m2) w4 w5) := ((Chg.refl (fun b => b = p ∨ b = m2) w4).drew).trans hc5 (fun b hb => .inl hb); have HKY5 : Hid (w5.heap[P]? = _) := (HC5.out.block P (Array.getElem?_eq_some_iff.1 HKY4.out).1 (fun h9 => by have := HLT3.out P (HFT.out P (h9.elim .inl (fun h8 => .inr (.inr (.inl h8))))); omega)).trans HKY4.out; have HK5 : Hid (w5.cell? ⟨P, 0, none⟩ = some (.int .u64 (s.1 : Int)) ∧ w5.cell? ⟨P, 1, none⟩ = some (.int .u64 (s.2 : Int))) := ⟨(by rw [cell_of_row _ _ _ _ _ _ HKY5.out]; rfl), (by rw [cell_of_row _ _ _ _ _ _ HKY5.out]; rfl)⟩; have HI5 : Hid _ := Ibx.dec (s := s) HI4.out (riseI_ep he).symm (fun h9 => (mem_ks_rm.1 h9).2 rfl) c hr5 hp5 HC5.out; clear hr5 hp5 hc5)
  go_wp2_with fail
  refine hK.out _ _ (by first | exact hk4 | exact HK5.out | assumption) ?_
  clear hK K
  intro hHeld2
  clear hHeld
  have hHeld := hHeld2
  clear hHeld2
  try simp only [Act.put, List.setIfInBounds_toArray, List.set_cons_zero, List.set_cons_succ]
  refine wpAnyH_done (by kernel_rfl) ?_ _
  refine NoPanic.normal ?_
  go_wp2
  go_ret
  refine ⟨rfl, T2 + 1, _, _, HI5.out, Nat.le_refl _, (HCH3.out.trans HC4.out (fun b hb => .inl (HFT.out b (.inr (.inl hb))))).trans HC5.out (fun b hb => .inl (HFT.out b (hb.elim .inl (fun h8 => .inr (.inr (.inl h8)))))), fun b hb => HFT.out b ?_⟩
  rcases hb with hb | hb | hb | ⟨x, hx, ho, hb⟩
  · exact .inl hb
  · exact .inr (.inl hb)
  · exact .inr (.inr (.inl hb))
  · exact .inr (.inr (.inr ⟨x, (mem_rm.1 hx).1, ho, hb⟩))
end
end Go.Proofs.YtdoikcolkbjnfaaGreat
namespace Go.Proofs.YtdoikcolkbjnfaaGreat
set_option linter.unusedVariables false
set_option linter.unusedSimpArgs false
open Go.RowKit Go.Maps
def dataB (u : Un) : Bool := decide (u.kind = 1 ∧ (1 ≤ u.ep ∧ u.ep ≤ 281474976710655) ∧ (1 ≤ u.se ∧ u.se ≤ 281474976710655) ∧ ((u.path = 1 ∨ u.path = 2) ∧ (0 ≤ u.idx ∧ u.idx < 64) ∧ (u.idx < u.cnt ∧ u.cnt ≤ 64) ∧ (1 ≤ u.data.length ∧ u.data.length ≤ 1024) ∧ (u.code = 0 ∧ u.got.length = 0)))
theorem dataB_iff (u : Un) : dataB u = true ↔ dataP u.kind u.ep u.se u.path u.idx u.cnt u.data.length u.code u.got.length := by
  unfold dataB dataP nameOk
  rw [decide_eq_true_eq]
/-- a unit's session -/
def sesU (u : Un) : Ss := (u.ep.toNat, u.se.toNat)
/-- the box that its segment is put into -/
def boxU (J : Ib) (u : Un) : List Seg := (lk J.O (sesU u)).getD (List.replicate u.cnt.toNat [])
def goesU (J : Ib) (u : Un) : Bool := decide ((boxU J u).length = u.cnt.toNat) && okE (putE (some (boxU J u)) u.idx u.data)
/-- behind the epoch -/
def segI (J : Ib) (u : Un) : Ib := match lk J.H (sesU u) with
  | some c => { J with H := pt J.ms J.H (sesU u) c }
  | none => if goesU J u = true then { J with O := pt J.mo J.O (sesU u) (putL (boxU J u) u.idx u.data) } else J
def segA (J : Ib) (u : Un) : Ans := match lk J.H (sesU u) with
  | some c => ⟨5, c, none⟩
  | none => if goesU J u = true then tellA (putL (boxU J u) u.idx u.data) else ⟨2, 0, none⟩
/-- what a Take leaves, and what it answers -/
def takeI (I : Ib) (u : Un) : Ib := if dataB u = true then (if u.ep.toNat < I.ep then I else segI (riseI I u.ep.toNat) u) else I
def takeA (I : Ib) (u : Un) : Ans := if dataB u = true then (if u.ep.toNat < I.ep then ⟨1, 0, none⟩ else segA (riseI I u.ep.toNat) u) else ⟨2, 0, none⟩
/-- a unit as a value -/
abbrev unV (u : Un) (da : Option Addr) (dn dc : Nat) (ga : Option Addr) (gn gc : Nat) : Value := .agg (unC u.kind u.ep u.se u.path u.idx u.cnt da dn dc u.code ga gn gc)
section
variable {w w' : World} {p m1 m2 T1 T2 : Nat} {I : Ib} {E : List (Ss × Bg)} {G : List (Ss × (Int × Nat))}
theorem itake_t (h : Ibx none w p m1 m2 T1 T2 I E G) (u : Un) (da : Option Addr) (dn dc : Nat) (ga : Option Addr) (gn gc : Nat) (hn : dn = u.data.length) (hg : gn = u.got.length) (hx : Rd w da u.data) (hxf : 0 < u.data.length → ∀ b, footI none p m1 m2 E b → ∀ a, da = some a → a.block ≠ b) (hnil : da = none → dc = 0) (hT1 : T1 < 9223372036854775807) (hT2 : T2 < 9223372036854775807) :
    Calls Tryz.prog 15 #[.pointer (some ⟨p, 0, none⟩), unV u da dn dc ga gn gc] w fun r w' => TkPost w p m1 m2 T1 T2 E (takeI I u) (takeA I u) r w' := by
  obtain ⟨k, e, se, pa, i, c, xs, cd, l⟩ := u
  simp only at hn hg hx hxf
  unfold takeI takeA
  by_cases hd : dataB ⟨k, e, se, pa, i, c, xs, cd, l⟩ = true
  · rw [if_pos hd, if_pos hd]
    have hD := (dataB_iff _).1 hd
    simp only at hD
    rw [← hn, ← hg] at hD
    obtain ⟨rfl, hD1⟩ := hD
    obtain ⟨en, rfl⟩ : ∃ en : Nat, e = (en : Int) := ⟨e.toNat, by have := hD1.1.1; omega⟩
    obtain ⟨sn, rfl⟩ : ∃ sn : Nat, se = (sn : Int) := ⟨se.toNat, by have := hD1.2.1.1; omega⟩
    obtain ⟨cn, rfl⟩ : ∃ cn : Nat, c = (cn : Int) := ⟨c.toNat, by have := hD1.2.2.2.1; have := hD1.2.2.2.2.1; omega⟩
    have hD : dataP 1 (en : Int) (sn : Int) pa i (cn : Int) dn cd gn := ⟨rfl, hD1⟩
    have hxf := hxf (by have := hD1.2.2.2.2.2.1; omega)
    show Calls _ _ _ _ fun r w' => TkPost w p m1 m2 T1 T2 E (if en < I.ep then I else segI (riseI I en) _) (if en < I.ep then ⟨1, 0, none⟩ else segA (riseI I en) _) r w'
    by_cases he : en < I.ep
    · rw [if_pos he, if_pos he]
      exact take_stale h en sn pa i cn da dn dc cd ga gn gc hD he
    · rw [if_neg he, if_neg he]
      have he' : I.ep ≤ en := by omega
      have eS : sesU ⟨1, (en : Int), (sn : Int), pa, i, (cn : Int), xs, cd, l⟩ = (en, sn) := rfl
      unfold segI segA
      rw [eS]
      cases hH : lk (riseI I en).H (en, sn) with
      | some c => exact take_dec h en sn pa i cn da dn dc cd ga gn gc hD he' c hH hT2
      | none =>
        simp only
        unfold goesU boxU
        rw [eS]
        cases hO : lk (riseI I en).O (en, sn) with
        | some S =>
          simp only [Option.getD_some]
          show Calls _ _ _ _ fun r w' => TkPost w p m1 m2 T1 T2 E (if (decide (S.length = cn) && okE (putE (some S) i xs)) = true then _ else _) (if (decide (S.length = cn) && okE (putE (some S) i xs)) = true then _ else _) r w'
          by_cases hc : S.length = cn
          · rw [decide_eq_true hc, Bool.true_and]
            cases hok : okE (putE (some S) i xs) with
            | true => rw [if_pos rfl, if_pos rfl]; exact take_open_ok h en sn pa i cn da dn dc cd ga gn gc hD he' hH S hO hc.symm xs hn hx hxf hnil hok hT1
            | false => rw [if_neg (by simp), if_neg (by simp)]; exact take_open_no h en sn pa i cn da dn dc cd ga gn gc hD he' hH S hO hc.symm xs hn hx hxf hnil hok
          · rw [decide_eq_false hc, Bool.false_and, if_neg (by simp), if_neg (by simp)]
            exact take_mis h en sn pa i cn da dn dc cd ga gn gc hD he' hH S hO (fun e => hc e.symm)
        | none =>
          simp only [Option.getD_none]
          show Calls _ _ _ _ fun r w' => TkPost w p m1 m2 T1 T2 E (if (decide ((List.replicate cn ([] : Seg)).length = cn) && okE (putE (some (List.replicate cn [])) i xs)) = true then _ else _) (if (decide ((List.replicate cn ([] : Seg)).length = cn) && okE (putE (some (List.replicate cn [])) i xs)) = true then _ else _) r w'
          rw [decide_eq_true List.length_replicate, Bool.true_and]
          cases hok : okE (putE (some (List.replicate cn [])) i xs) with
          | true => rw [if_pos rfl, if_pos rfl]; exact take_new_ok h en sn pa i cn da dn dc cd ga gn gc hD he' hH hO xs hn hx hxf hnil hok hT1
          | false => rw [if_neg (by simp), if_neg (by simp)]; exact take_new_no h en sn pa i cn da dn dc cd ga gn gc hD he' hH hO xs hn hx hxf hnil hok
  · rw [if_neg hd, if_neg hd]
    have hD : ¬ dataP k e se pa i c dn cd gn := fun h9 => hd ((dataB_iff _).2 (by simp only; rw [← hn, ← hg]; exact h9))
    by_cases hk : k = 1
    · subst hk
      exact take_bad h e se pa i c da dn dc cd ga gn gc hD
    · exact take_kind h k e se pa i c da dn dc cd ga gn gc hk
theorem idec_t (h : Ibx none w p m1 m2 T1 T2 I E G) (s : Ss) (c : Int) (hT2 : T2 < 9223372036854775807) :
    Calls Tryz.prog 29 #[.pointer (some ⟨p, 0, none⟩), sv s, .int .i64 c] w fun e w' => e = .returned (.int .i64 (decE I s c)) ∧ DcPost w p m1 m2 T1 T2 E (decI I s c) w' := by
  have same : ∀ {r : Int}, decE I s c = r → r ≠ 0 → Calls Tryz.prog 29 #[.pointer (some ⟨p, 0, none⟩), sv s, .int .i64 c] w (fun e w' => e = .returned (.int .i64 r) ∧ Below w.heap.size w w') → Calls Tryz.prog 29 #[.pointer (some ⟨p, 0, none⟩), sv s, .int .i64 c] w fun e w' => e = .returned (.int .i64 (decE I s c)) ∧ DcPost w p m1 m2 T1 T2 E (decI I s c) w' := fun {r} e1 e2 h1 => by
    refine Calls.mono h1 ?_
    rintro e w' ⟨rfl, hb⟩
    unfold decI
    rw [e1, if_neg e2]
    exact ⟨rfl, DcPost.same h hb⟩
  have bad : (¬ (1 ≤ c ∧ c ≤ 7) ∨ numBI s.1 = false ∨ numBI s.2 = false) → decE I s c = 1 := fun h9 => if_pos h9
  by_cases h1 : c < 1
  · exact same (bad (.inl (by omega))) (by decide) (dec_lo h s c h1)
  by_cases h2 : 7 < c
  · exact same (bad (.inl (by omega))) (by decide) (dec_hi h s c h2)
  cases h3 : numBI s.1 with
  | false => exact same (bad (.inr (.inl h3))) (by decide) (dec_ep h s c (by omega) (by omega) h3)
  | true =>
    cases h4 : numBI s.2 with
    | false => exact same (bad (.inr (.inr h4))) (by decide) (dec_nu h s c (by omega) (by omega) h3 h4)
    | true =>
      have hno : ¬ (¬ (1 ≤ c ∧ c ≤ 7) ∨ numBI s.1 = false ∨ numBI s.2 = false) := by rw [h3, h4]; simp; omega
      by_cases h5 : s.1 < I.ep
      · exact same (by unfold decE; rw [if_neg hno, if_pos h5]) (by decide) (dec_old h s c (by omega) (by omega) h3 h4 h5)
      by_cases h6 : s ∈ ks I.H
      · exact same (by unfold decE; rw [if_neg hno, if_neg h5, if_pos h6]) (by decide) (dec_twice h s c (by omega) (by omega) h3 h4 (by omega) h6)
      · have e0 : decE I s c = 0 := by unfold decE; rw [if_neg hno, if_neg h5, if_neg h6]
        unfold decI
        rw [e0, if_pos rfl]
        exact dec_ok h s c (by omega) (by omega) h3 h4 (by omega) h6 hT2
end
/-- an inbox of the program: N bounds its touches, F has its blocks -/
structure IbA (w : World) (p N : Nat) (I : Ib) (F : Nat → Prop) : Prop where
  ex : ∃ m1 m2 T1 T2 E G, Ibx none w p m1 m2 T1 T2 I E G ∧ T1 ≤ N ∧ T2 ≤ N ∧ ∀ b, footI none p m1 m2 E b → F b
  lt : ∀ b, F b → b < w.heap.size
/-- what a Take leaves and answers -/
def TkA (w : World) (p N : Nat) (F : Nat → Prop) (I' : Ib) (a : Ans) (e : Ending) (w' : World) : Prop :=
  ∃ F' B ga ba gn gc bn bc rs xs, e = .returned (ansV a ga ba gn gc bn bc) ∧ AnsAt w' B a ga ba gn gc bn bc rs xs ∧ IbA w' p (N + 1) I' F' ∧ Chg F w w' ∧ (∀ b, F' b → (F b ∨ w.heap.size ≤ b) ∧ b < B) ∧ w.heap.size ≤ B
/-- what another call leaves -/
def LfA (w : World) (p N : Nat) (F : Nat → Prop) (I' : Ib) (w' : World) : Prop := ∃ F', IbA w' p (N + 1) I' F' ∧ Chg F w w' ∧ ∀ b, F' b → F b ∨ w.heap.size ≤ b
section
variable {w w' : World} {p N : Nat} {I : Ib} {F : Nat → Prop}
theorem IbA.ok (h : IbA w p N I F) : IbOk I := by
  obtain ⟨m1, m2, T1, T2, E, G, h1, -⟩ := h.ex
  exact h1.ok
theorem IbA.kept (h : IbA w p N I F) (hs : w.heap.size ≤ w'.heap.size) (hk : ∀ b, F b → w'.heap[b]? = w.heap[b]?) : IbA w' p N I F := by
  obtain ⟨m1, m2, T1, T2, E, G, h1, h2, h3, h4⟩ := h.ex
  exact ⟨⟨m1, m2, T1, T2, E, G, h1.kept hs (fun b hb => hk b (h4 b hb)), h2, h3, h4⟩, fun b hb => Nat.lt_of_lt_of_le (h.lt b hb) hs⟩
theorem IbA.below (h : IbA w p N I F) (hb : Below w.heap.size w w') : IbA w' p N I F := h.kept hb.size (fun b hf => hb.block b (h.lt b hf))
theorem IbA.chg {D : Nat → Prop} (h : IbA w p N I F) (hc : Chg D w w') (hD : ∀ b, F b → ¬ D b) : IbA w' p N I F := h.kept hc.size (fun b hf => hc.block b (h.lt b hf) (hD b hf))
theorem IbA.more (h : IbA w p N I F) {N' : Nat} (hN : N ≤ N') : IbA w p N' I F := by
  obtain ⟨m1, m2, T1, T2, E, G, h1, h2, h3, h4⟩ := h.ex
  exact ⟨⟨m1, m2, T1, T2, E, G, h1, by omega, by omega, h4⟩, h.lt⟩
theorem take_a (h : IbA w p N I F) (u : Un) (da : Option Addr) (dn dc : Nat) (ga : Option Addr) (gn gc : Nat) (hn : dn = u.data.length) (hg : gn = u.got.length) (hx : Rd w da u.data) (hxf : 0 < u.data.length → ∀ b, F b → ∀ a, da = some a → a.block ≠ b) (hnil : da = none → dc = 0) (hN : N < 4611686018427387904) :
    Calls Tryz.prog 15 #[.pointer (some ⟨p, 0, none⟩), unV u da dn dc ga gn gc] w fun r w' => TkA w p N F (takeI I u) (takeA I u) r w' := by
  obtain ⟨m1, m2, T1, T2, E, G, h1, h2, h3, h4⟩ := h.ex
  refine Calls.mono (itake_t h1 u da dn dc ga gn gc hn hg hx (fun h0 b hb => hxf h0 b (h4 b hb)) hnil (by omega) (by omega)) ?_
  rintro e w' ⟨T1', T2', E', G', B, ga', ba', gn', gc', bn', bc', rs, xs, rfl, hA, hI, ht1, ht2, hc, hf, hB⟩
  exact ⟨footI none p m1 m2 E', B, ga', ba', gn', gc', bn', bc', rs, xs, rfl, hA, ⟨⟨m1, m2, T1', T2', E', G', hI, by omega, by omega, fun b hb => hb⟩, fun b hb => hI.lt hb⟩, hc.mono h4, fun b hb => ⟨(hf b hb).1.imp (h4 b) id, (hf b hb).2⟩, hB⟩
theorem LfA.of {m1 m2 T1 T2 : Nat} {E : List (Ss × Bg)} {I' : Ib} (hp : DcPost w p m1 m2 T1 T2 E I' w') (h2 : T1 ≤ N) (h3 : T2 ≤ N) (h4 : ∀ b, footI none p m1 m2 E b → F b) : LfA w p N F I' w' := by
  obtain ⟨T2', E', G', hI, ht, hc, hf⟩ := hp
  exact ⟨footI none p m1 m2 E', ⟨⟨m1, m2, T1, T2', E', G', hI, by omega, by omega, fun b hb => hb⟩, fun b hb => hI.lt hb⟩, hc.mono h4, fun b hb => .inl (h4 b (hf b hb))⟩
theorem dec_a (h : IbA w p N I F) (s : Ss) (c : Int) (hN : N < 4611686018427387904) :
    Calls Tryz.prog 29 #[.pointer (some ⟨p, 0, none⟩), sv s, .int .i64 c] w fun e w' => e = .returned (.int .i64 (decE I s c)) ∧ LfA w p N F (decI I s c) w' := by
  obtain ⟨m1, m2, T1, T2, E, G, h1, h2, h3, h4⟩ := h.ex
  refine Calls.mono (idec_t h1 s c (by omega)) ?_
  rintro e w' ⟨rfl, hp⟩
  exact ⟨rfl, LfA.of hp h2 h3 h4⟩
theorem drop_a (h : IbA w p N I F) (s : Ss) (hs : inS s) :
    Calls Tryz.prog 46 #[.pointer (some ⟨p, 0, none⟩), sv s] w fun e w' => e = .returned (.bool (decide (s ∈ ks I.O))) ∧ LfA w p N F (dropI I s) w' := by
  obtain ⟨m1, m2, T1, T2, E, G, h1, h2, h3, h4⟩ := h.ex
  refine Calls.mono (idrop_t h1 s hs) ?_
  rintro e w' ⟨rfl, hp⟩
  exact ⟨rfl, LfA.of hp h2 h3 h4⟩
theorem epoch_a (h : IbA w p N I F) : Calls Tryz.prog 30 #[.pointer (some ⟨p, 0, none⟩)] w fun e w' => e = .returned (.int .u64 (I.ep : Int)) ∧ w' = w := by
  obtain ⟨m1, m2, T1, T2, E, G, h1, -⟩ := h.ex
  exact iepoch_t h1
theorem open_a (h : IbA w p N I F) : Calls Tryz.prog 17 #[.pointer (some ⟨p, 0, none⟩)] w fun e w' => ∃ v, e = .returned v ∧ OwnG KSs w' w.heap.size v (ks I.O) ∧ Below w.heap.size w w' := by
  obtain ⟨m1, m2, T1, T2, E, G, h1, -⟩ := h.ex
  exact iopen_t h1
theorem decd_a (h : IbA w p N I F) : Calls Tryz.prog 24 #[.pointer (some ⟨p, 0, none⟩)] w fun e w' => ∃ v, e = .returned v ∧ OwnG KSs w' w.heap.size v (ks I.H) ∧ Below w.heap.size w w' := by
  obtain ⟨m1, m2, T1, T2, E, G, h1, -⟩ := h.ex
  exact idecd_t h1
end
/-- a new inbox -/
def newI (a b : Nat) : Ib := ⟨a, b, 0, [], []⟩
theorem new_a (a b : Nat) (ha : 1 ≤ a) (ha2 : a ≤ 64) (hb : 1 ≤ b) (hb2 : b ≤ 4096) (w : World) : Calls Tryz.prog 11 #[.int .i64 (a : Int), .int .i64 (b : Int)] w fun e w' => ∃ p F, e = .returned (.tuple #[.pointer (some ⟨p, 0, none⟩), .int .i64 0]) ∧ IbA w' p 0 (newI a b) F ∧ (∀ b, F b → w.heap.size ≤ b) ∧ Below w.heap.size w w' := by
  refine Calls.mono (inew_t a b ha ha2 hb hb2 w) ?_
  rintro e w' ⟨p, m1, m2, rfl, hI, hl, hb⟩
  refine ⟨p, footI none p m1 m2 [], rfl, ⟨⟨m1, m2, 0, 0, [], [], hI, Nat.le_refl _, Nat.le_refl _, fun b hb => hb⟩, fun b hb => hI.lt hb⟩, fun b hf => ?_, hb⟩
  rcases hf with hf | hf | hf | ⟨x, hx, -⟩
  · omega
  · omega
  · omega
  · cases hx
end Go.Proofs.YtdoikcolkbjnfaaGreat
namespace Go.Proofs.YtdoikcolkbjnfaaGreat
set_option linter.unusedVariables false
set_option linter.unusedSimpArgs false
open Go.RowKit Go.Maps
section
set_option maxRecDepth 20000
set_option maxHeartbeats 800000
theorem rangesI_t (ao bo : Option Addr) (n m c1 c2 : Nat) (xs ys : List Rg) (w : World) (hn : n = xs.length) (hm : m = ys.length) (hx : RdR w ao xs) (hy : RdR w bo ys) (hl : n ≤ 8796093022208) (he : xs = ys) :
    Calls Tryz.prog 28 #[.slice ao n c1, .slice bo m c2] w fun e w' => e = .returned (.bool true) ∧ Below w.heap.size w w' := by
  subst he
  obtain rfl : n = m := by omega
  have HN : Hid _ := hn
  clear hn hm
  go_enter Tryz.func28, Tryz.ntmps28
  go_wp2
  go_loopw [5] (fun j wr => ∃ k : Nat, k ≤ n ∧ j = .int .i64 (k : Int) ∧ Below w.heap.size w wr) (fun j _ => n - (intOf j).toNat)
  case atStart => exact ⟨0, Nat.zero_le _, rfl, Below.refl _ _⟩
  case round =>
    obtain ⟨k, hk, rfl, hbw⟩ := hrel
    have hkw : IntKind.i64.wrap ((k : Int) + 1) = ((k + 1 : Nat) : Int) := by rw [IntKind.wrap_i64]; omega
    by_cases hlt : k < n
    · have hk1 : k < xs.length := by rw [← HN.out]; exact hlt
      have hlti : (k : Int) < (n : Int) := by omega
      have hk0 : (0 : Int) ≤ (k : Int) := by omega
      obtain ⟨b, o, rfl, -, -⟩ := hx k hk1
      obtain ⟨b2, o2, rfl, -, -⟩ := hy k hk1
      have hr1 : ∀ u, Below w.heap.size w u → u.rangeAt b (o + k * 2) (rv xs[k]) := fun u hu => (hx.below hu).range k hk1
      have hr2 : ∀ u, Below w.heap.size w u → u.rangeAt b2 (o2 + k * 2) (rv xs[k]) := fun u hu => (hy.below hu).range k hk1
      obtain ⟨x, hx9⟩ : ∃ x : Rg, x = xs[k] := ⟨_, rfl⟩
      rw [← hx9] at hr1 hr2
      obtain ⟨a1, a2⟩ := x
      have hl1 : ∀ u, Below w.heap.size w u → (Instr.loadAt 71 (.pointer (some ⟨b, o + k * 2, none⟩))).run Tryz.prog u = .ok (.agg #[.int .i64 a1, .int .i64 a2]) u := fun u hu => load_rgc u _ _ a1 a2 (hr1 u hu)
      have hl2 : ∀ u, Below w.heap.size w u → (Instr.loadAt 71 (.pointer (some ⟨b2, o2 + k * 2, none⟩))).run Tryz.prog u = .ok (.agg #[.int .i64 a1, .int .i64 a2]) u := fun u hu => load_rgc u _ _ a1 a2 (hr2 u hu)
      have hne : ∀ u, (binOp .neq 71 (.agg #[.int .i64 a1, .int .i64 a2]) (.agg #[.int .i64 a1, .int .i64 a2])).run Tryz.prog u = .ok (.bool false) u := fun u => by rw [neq_rgc]; simp
      have HBW : Hid _ := hbw
      clear hx9 hr1 hr2
      go_wp2_with fail
      refine wp_region_noPanic ?_
      refine wp_region_held_drew (S := (fun u => Below w.heap.size w u)) (by kernel_rfl) (by first | exact hbw.drew | assumption) (fun hHeld => ?_)
      refine take_at (i := 0) 17 (v := ?_) rfl rfl (by kernel_rfl) (by kernel_rfl) (by kernel_rfl) (fun _ _ _ h => h) (by rfl) ?_ hHeld ?_
      rotate_left
      · (intro w hSw; (try dsimp only at hSw); go_simp; try with_reducible rfl)
      simp only [Act.put, List.setIfInBounds_toArray, List.set_cons_zero, List.set_cons_succ]
      refine take_at (i := 1) 18 (v := ?_) rfl rfl (by kernel_rfl) (by kernel_rfl) (by kernel_rfl) (fun _ _ _ h => h) (by rfl) ?_ hHeld ?_
      rotate_left
      · (intro w hSw; (try dsimp only at hSw); go_simp; try with_reducible rfl)
      simp only [Act.put, List.setIfInBounds_toArray, List.set_cons_zero, List.set_cons_succ]
      refine take_at (i := 2) 19 (v := ?_) rfl rfl (by kernel_rfl) (by kernel_rfl) (by kernel_rfl) (fun _ _ _ h => h) (by rfl) ?_ hHeld ?_
      rotate_left
      · (intro w hSw; (try dsimp only at hSw); go_simp; try with_reducible rfl)
      simp only [Act.put, List.setIfInBounds_toArray, List.set_cons_zero, List.set_cons_succ]
      refine take_at (i := 3) 20 (v := .agg #[.int .i64 a1, .int .i64 a2]) rfl rfl (by kernel_rfl) (by kernel_rfl) (by kernel_rfl) (fun _ _ _ h => h) (by rfl) ?_ hHeld ?_
      · (intro w hSw; refine exec_load (by rfl) ?_; exact hl1 w hSw)
      simp only [Act.put, List.setIfInBounds_toArray, List.set_cons_zero, List.set_cons_succ]
      refine take_at (i := 4) 21 (v := ?_) rfl rfl (by kernel_rfl) (by kernel_rfl) (by kernel_rfl) (fun _ _ _ h => h) (by rfl) ?_ hHeld ?_
      rotate_left
      · (intro w hSw; (try dsimp only at hSw); go_simp; try with_reducible rfl)
      simp only [Act.put, List.setIfInBounds_toArray, List.set_cons_zero, List.set_cons_succ]
      refine take_at (i := 5) 22 (v := ?_) rfl rfl (by kernel_rfl) (by kernel_rfl) (by kernel_rfl) (fun _ _ _ h => h) (by rfl) ?_ hHeld ?_
      rotate_left
      · (intro w hSw; (try dsimp only at hSw); go_simp; try with_reducible rfl)
      simp only [Act.put, List.setIfInBounds_toArray, List.set_cons_zero, List.set_cons_succ]
      refine take_at (i := 6) 23 (v := ?_) rfl rfl (by kernel_rfl) (by kernel_rfl) (by kernel_rfl) (fun _ _ _ h => h) (by rfl) ?_ hHeld ?_
      rotate_left
      · (intro w hSw; (try dsimp only at hSw); go_simp; try with_reducible rfl)
      simp only [Act.put, List.setIfInBounds_toArray, List.set_cons_zero, List.set_cons_succ]
      refine take_at (i := 7) 24 (v := .agg #[.int .i64 a1, .int .i64 a2]) rfl rfl (by kernel_rfl) (by kernel_rfl) (by kernel_rfl) (fun _ _ _ h => h) (by rfl) ?_ hHeld ?_
      · (intro w hSw; refine exec_load (by rfl) ?_; exact hl2 w hSw)
      simp only [Act.put, List.setIfInBounds_toArray, List.set_cons_zero, List.set_cons_succ]
      refine take_at (i := 8) 25 (v := ?_) rfl rfl (by kernel_rfl) (by kernel_rfl) (by kernel_rfl) (fun _ _ _ h => h) (by rfl) ?_ hHeld ?_
      rotate_left
      · (intro w hSw; (try dsimp only at hSw); go_simp; try with_reducible rfl)
      simp only [Act.put, List.setIfInBounds_toArray, List.set_cons_zero, List.set_cons_succ]
      refine wpAnyH_done (by kernel_rfl) ?_ _
      refine NoPanic.normal ?_
      go_wp2
      go_roundw
      case rel => exact ⟨k + 1, by omega, by go_num, HBW.out.drew⟩
      case measure => simp [intOf]; omega
    · have hlti : ¬ (k : Int) < (n : Int) := by omega
      go_wp2
      go_ret
      exact ⟨rfl, hbw⟩

theorem bytesRow_get (s : ByteArray) (cap i : Nat) (h : i < s.size) : (bytesRow s cap)[i]? = some (.int .u8 (s.data.toList[i]'(by simpa using h)).toNat) := by
  unfold bytesRow
  have h' : i < s.data.size := h
  rw [Array.getElem?_append_left (by simpa using h'), Array.getElem?_map, Array.getElem?_eq_getElem h']
  simp
theorem convB (u : World) (xs : List UInt8) : ∃ cp u', (convert 9 34 (.string ⟨xs.toArray⟩)).run Tryz.prog u = .ok (.slice (some ⟨u.heap.size, 0, none⟩) xs.length cp) u' ∧ Rd u' (some ⟨u.heap.size, 0, none⟩) xs ∧ Below u.heap.size u u' := by
  have h1 := run_bytes_of_string (P := Tryz.prog) u 9 34 5 ⟨xs.toArray⟩ Tryz.underlying9 Tryz.underlying34 Tryz.underlying5
  refine ⟨_, _, h1, fun _ => ⟨_, _, rfl, fun i hi => ?_⟩, (Below.refl _ _).drew.alloc (Nat.le_refl _) _⟩
  have h2 := heap_alloc_new u.drew (.cells (bytesRow ⟨xs.toArray⟩ (grownCap u (⟨xs.toArray⟩ : ByteArray).size 0 5)) 5 ((bytesRow ⟨xs.toArray⟩ (grownCap u (⟨xs.toArray⟩ : ByteArray).size 0 5)).size, (bytesRow ⟨xs.toArray⟩ (grownCap u (⟨xs.toArray⟩ : ByteArray).size 0 5)).size + 1))
  show (u.drew.alloc _).cell? ⟨u.drew.heap.size, 0 + i, none⟩ = _
  rw [Nat.zero_add, cell_of_row _ _ _ _ _ _ h2, bytesRow_get _ _ i (by show i < xs.toArray.size; simpa using hi)]
/-- the law's unit of data -/
def oneU (e s : Nat) (i c : Int) (xs : List UInt8) : Un := ⟨1, e, s, 2, i, c, xs, 0, []⟩
theorem one_t (e s : Nat) (i c : Int) (xs : List UInt8) (w : World) : Calls Tryz.prog 14 #[.int .u64 (e : Int), .int .u64 (s : Int), .int .i64 i, .int .i64 c, .string ⟨xs.toArray⟩] w fun r w' => ∃ g cp, r = .returned (unV (oneU e s i c xs) (some ⟨g, 0, none⟩) xs.length cp none 0 0) ∧ Rd w' (some ⟨g, 0, none⟩) xs ∧ w.heap.size ≤ g ∧ Below w.heap.size w w' := by
  obtain ⟨w1, hw1⟩ : ∃ w1, w1 = w.alloc (.cells #[.int .i64 0, .int .u64 0, .int .u64 0, .int .i64 0, .int .i64 0, .int .i64 0, .slice none 0 0, .int .i64 0, .slice none 0 0] tUn) := ⟨_, rfl⟩
  obtain ⟨cp, w2, hcv, hrd, hb2⟩ := convB w1 xs
  have hb1 : Below w.heap.size w w1 := by rw [hw1]; exact al (Below.refl _ _) _
  have hz1 : w1.heap.size = w.heap.size + 1 := by rw [hw1]; simp
  obtain ⟨P, hP⟩ : ∃ P, P = w.heap.size := ⟨_, rfl⟩
  have hA : w2.heap[P]? = some (.cells (unC 0 0 0 0 0 0 none 0 0 0 none 0 0) tUn (0, 0)) := (hb2.block P (by omega)).trans (by rw [hw1, hP]; exact heap_alloc_new w _)
  have hc := unCell hA
  have hf : ∀ j, w2.frozen? ⟨P, j, none⟩ = false := fun j => by simp [World.frozen?, hA]
  have f0 := hf 0
  have f1 := hf 1
  have f2 := hf 2
  have f3 := hf 3
  have f4 := hf 4
  have f5 := hf 5
  have f6 := hf 6
  have f7 := hf 7
  have f8 := hf 8
  obtain ⟨g, hg⟩ : ∃ g, g = w1.heap.size := ⟨_, rfl⟩
  rw [← hg] at hcv hrd
  have HRD : Hid (Rd w2 (some ⟨g, 0, none⟩) xs) := hrd
  have HG : Hid (g = P + 1) := by unfold Hid; omega
  have HP : Hid (P = w.heap.size) := hP
  have HB2 : Hid (Below w.heap.size w w2) := below_next hb1 hb2
  have HW1 : Hid (w1 = _) := hw1
  rw [hw1] at hcv
  obtain ⟨N, hN⟩ : ∃ N, N = xs.length := ⟨_, rfl⟩
  rw [← hN] at hcv ⊢
  rw [hP] at hc f0 f1 f2 f3 f4 f5 f6 f7 f8
  clear hrd hb1 hb2 hz1 hP hw1 hg hA hf hN
  go_enter Tryz.func14, Tryz.ntmps14
  go_wp2
  refine bodyPost_ret (v := .agg #[.int .i64 1, .int .u64 (e : Int), .int .u64 (s : Int), .int .i64 2, .int .i64 i, .int .i64 c, .slice (some ⟨g, 0, none⟩) N cp, .int .i64 0, .slice none 0 0]) (by simp [results, Tryz.results14, go_sem, hc, f0, f1, f2, f3, f4, f5, f6, f7, f8]) rfl ?_
  have hgs := ((((((((gset1 w2 w.heap.size 0 (.int .i64 1)).trans' (gset1 _ w.heap.size 1 (.int .u64 (e : Int)))).trans' (gset1 _ w.heap.size 2 (.int .u64 (s : Int)))).trans' (gset1 _ w.heap.size 3 (.int .i64 2))).trans' (gset1 _ w.heap.size 4 (.int .i64 i))).trans' (gset1 _ w.heap.size 5 (.int .i64 c))).trans' (gset1 _ w.heap.size 6 (.slice (some ⟨g, 0, none⟩) N cp))).trans' (gset1 _ w.heap.size 7 (.int .i64 0))).trans' (gset1 _ w.heap.size 8 (.slice none 0 0))
  have hgp := HG.out
  have hpw := HP.out
  exact ⟨g, cp, rfl, Rd.grown HRD.out hgs (fun a ha e9 => by cases ha; have h9 : g = w.heap.size := Option.some.inj e9; omega), by omega, HB2.out.grown hgs HB2.out.size (fun k hk => by have := Option.some.inj hk; omega)⟩
end
end Go.Proofs.YtdoikcolkbjnfaaGreat
