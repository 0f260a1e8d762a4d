import Derived.Test.YtkdgjfjcpgiokaaGreatIxIj
namespace Go.Proofs.YtkdgjfjcpgiokaaGreat
set_option linter.unusedVariables false
set_option linter.unusedSimpArgs false
open Go.RowKit Go.Maps
def numBI (n : Nat) : Bool := decide (1 ≤ n ∧ n ≤ 281474976710655)
/-- what a Decide answers -/
def decE (I : Ib) (s : Ss) (c : Int) : Int := if ¬ (1 ≤ c ∧ c ≤ 7) ∨ numBI s.1 = false ∨ numBI s.2 = false then 1 else if s.1 < I.ep then 83 else if s ∈ ks I.H then 3 else 0
/-- what it leaves -/
def decI (I : Ib) (s : Ss) (c : Int) : Ib := if decE I s c = 0 then { riseI I s.1 with O := rm (riseI I s.1).O s, H := pt (riseI I s.1).ms (riseI I s.1).H s c } else I
def dropI (I : Ib) (s : Ss) : Ib := { I with O := rm I.O s }
/-- what a Decide or a Drop leaves -/
def DcPost (w : World) (p m1 m2 T1 T2 : Nat) (E : List (Ss × Bg)) (I' : Ib) (w' : World) : Prop :=
  ∃ T2' E' G', Ibx none w' p m1 m2 T1 T2' I' E' G' ∧ T2' ≤ T2 + 1 ∧ Chg (footI none p m1 m2 E) w w' ∧ ∀ b, footI none p m1 m2 E' b → footI none p m1 m2 E b
section
variable {w w' : World} {p m1 m2 T1 T2 : Nat} {I : Ib} {E : List (Ss × Bg)} {G : List (Ss × (Int × Nat))}
theorem DcPost.same (h : Ibx none w p m1 m2 T1 T2 I E G) (hb : Below w.heap.size w w') : DcPost w p m1 m2 T1 T2 E I w' := ⟨T2, E, G, h.below hb, Nat.le_succ _, Chg.of_below hb, fun b hb => hb⟩
set_option maxRecDepth 20000
set_option maxHeartbeats 3200000
theorem isnum_t (n : Nat) (w : World) : Calls Tryz.prog 43 #[.int .u64 (n : Int)] w fun e w' => e = .returned (.bool (numBI n)) ∧ w' = w := by
  by_cases h1 : 1 ≤ n
  · have h1i : (1 : Int) ≤ (n : Int) := by omega
    by_cases h2 : n ≤ 281474976710655
    · have h2i : (n : Int) ≤ 281474976710655 := by omega
      have HD : Hid (numBI n = true) := by unfold Hid numBI; simp [h1, h2]
      go_enter Tryz.func43, Tryz.ntmps43
      go_wp2
      go_ret
      rw [HD.out]
      exact ⟨by simp [h2], rfl⟩
    · have h2i : ¬ (n : Int) ≤ 281474976710655 := by omega
      have HD : Hid (numBI n = false) := by unfold Hid numBI; simp [h2]
      go_enter Tryz.func43, Tryz.ntmps43
      go_wp2
      go_ret
      rw [HD.out]
      exact ⟨by simp [h2], rfl⟩
  · have h1i : ¬ (1 : Int) ≤ (n : Int) := by omega
    have HD : Hid (numBI n = false) := by unfold Hid numBI; simp [h1]
    go_enter Tryz.func43, Tryz.ntmps43
    go_wp2
    go_ret
    rw [HD.out]
    exact ⟨by simp, rfl⟩
theorem dec_no {q : Option Addr} (h : I0 w q) (s : Ss) (c : Int) :
    Calls Tryz.prog 28 #[.pointer q, sv s, .int .i64 c] w fun e w' => e = .returned (.int .i64 1) ∧ Below w.heap.size w w' := by
  have HM : Hid _ := imade_no (h.below (al (Below.refl w.heap.size w) (.cells #[.int .u64 (s.1 : Int), .int .u64 (s.2 : Int)] tSs)))
  clear h
  go_enter Tryz.func28, Tryz.ntmps28
  go_wp2_with (go_at_call 33; refine Calls.mono HM.out ?_; rintro e w' ⟨rfl, hq⟩; have hq := hq.symm; subst hq)
  go_ret
  exact ⟨rfl, al (Below.refl _ _) _⟩
theorem drop_none {q : Option Addr} (h : I0 w q) (s : Ss) :
    Calls Tryz.prog 29 #[.pointer q, sv s] w fun e w' => e = .returned (.bool false) ∧ Below w.heap.size w w' := by
  have HM : Hid _ := imade_no (h.below (w' := (w.alloc (.cells #[.int .u64 (s.1 : Int), .int .u64 (s.2 : Int)] tSs)).drew) ((al (Below.refl w.heap.size w) _).drew))
  clear h
  go_enter Tryz.func29, Tryz.ntmps29
  go_wp2
  refine wp_region_noPanic ?_
  refine wp_region_held_drew (S := (fun u => True)) (by kernel_rfl) (by trivial) (fun hHeld => ?_)
  refine take_at (i := 0) 5 (v := ?_) rfl rfl (by kernel_rfl) (by kernel_rfl) (by kernel_rfl) (fun _ _ _ h => h) (by rfl) ?_ hHeld ?_
  rotate_left
  · (intro w hSw; (try dsimp only at hSw); go_simp; try with_reducible rfl)
  simp only [Act.put, List.setIfInBounds_toArray, List.set_cons_zero, List.set_cons_succ]
  refine run_at (i := 1) rfl (by kernel_rfl) (by rfl) (fun K hK => ?_)
  simp only [List.getElem_toArray, List.getElem_cons_zero, List.getElem_cons_succ]
  go_simp
  (go_at_call 33; refine Calls.mono HM.out ?_; rintro e w' ⟨rfl, hq⟩; have hq := hq.symm; subst hq)
  go_wp2_with fail
  refine hK.out _ _ (by trivial) ?_
  clear hK K
  intro hHeld2
  clear hHeld
  have hHeld := hHeld2
  clear hHeld2
  try simp only [Act.put, List.setIfInBounds_toArray, List.set_cons_zero, List.set_cons_succ]
  refine take_at (i := 2) 7 (v := ?_) rfl rfl (by kernel_rfl) (by kernel_rfl) (by kernel_rfl) (fun _ _ _ h => h) (by rfl) ?_ hHeld ?_
  rotate_left
  · (intro w hSw; (try dsimp only at hSw); go_simp; try with_reducible rfl)
  simp only [Act.put, List.setIfInBounds_toArray, List.set_cons_zero, List.set_cons_succ]
  refine skip_at (i := 3) 8 rfl rfl (by kernel_rfl) (by kernel_rfl) (by kernel_rfl) (fun _ _ _ h => h) (by rfl) hHeld ?_
  simp only [Act.put, List.setIfInBounds_toArray, List.set_cons_zero, List.set_cons_succ]
  refine skip_at (i := 4) 9 rfl rfl (by kernel_rfl) (by kernel_rfl) (by kernel_rfl) (fun _ _ _ h => h) (by rfl) hHeld ?_
  simp only [Act.put, List.setIfInBounds_toArray, List.set_cons_zero, List.set_cons_succ]
  refine skip_at (i := 5) 10 rfl rfl (by kernel_rfl) (by kernel_rfl) (by kernel_rfl) (fun _ _ _ h => h) (by rfl) hHeld ?_
  simp only [Act.put, List.setIfInBounds_toArray, List.set_cons_zero, List.set_cons_succ]
  refine skip_at (i := 6) 11 rfl rfl (by kernel_rfl) (by kernel_rfl) (by kernel_rfl) (fun _ _ _ h => h) (by rfl) hHeld ?_
  simp only [Act.put, List.setIfInBounds_toArray, List.set_cons_zero, List.set_cons_succ]
  refine skip_at (i := 7) 12 rfl rfl (by kernel_rfl) (by kernel_rfl) (by kernel_rfl) (fun _ _ _ h => h) (by rfl) hHeld ?_
  simp only [Act.put, List.setIfInBounds_toArray, List.set_cons_zero, List.set_cons_succ]
  refine take_at (i := 8) 13 (v := ?_) rfl rfl (by kernel_rfl) (by kernel_rfl) (by kernel_rfl) (fun _ _ _ h => h) (by rfl) ?_ hHeld ?_
  rotate_left
  · (intro w hSw; (try dsimp only at hSw); go_simp; try with_reducible rfl)
  simp only [Act.put, List.setIfInBounds_toArray, List.set_cons_zero, List.set_cons_succ]
  refine take_at (i := 9) 4 (v := ?_) rfl rfl (by kernel_rfl) (by kernel_rfl) (by kernel_rfl) (fun _ _ _ h => h) (by rfl) ?_ hHeld ?_
  rotate_left
  · (intro w hSw; (try dsimp only at hSw); go_simp; try with_reducible rfl)
  simp only [Act.put, List.setIfInBounds_toArray, List.set_cons_zero, List.set_cons_succ]
  refine wpAnyH_done (by kernel_rfl) ?_ _
  refine NoPanic.normal ?_
  go_wp2
  go_ret
  exact ⟨rfl, (al (Below.refl _ _) _).drew⟩
theorem idrop_t (h : Ibx none w p m1 m2 T1 T2 I E G) (s : Ss) (hs : inS s) :
    Calls Tryz.prog 29 #[.pointer (some ⟨p, 0, none⟩), sv s] w fun e w' => e = .returned (.bool (decide (s ∈ ks I.O))) ∧ DcPost w p m1 m2 T1 T2 E (dropI I s) w' := by
  obtain ⟨w1, hw1⟩ : ∃ w1, w1 = w.alloc (.cells #[.int .u64 (s.1 : Int), .int .u64 (s.2 : Int)] tSs) := ⟨_, rfl⟩
  have hb1 : Below w.heap.size w w1 := by rw [hw1]; exact al (Below.refl _ _) _
  have hI1 := h.below hb1
  have hI9 := hI1.below (w' := w1.drew) (Below.refl _ _).drew
  have HM : Hid _ := imade_t hI9
  obtain ⟨P, hP⟩ : ∃ P, P = w.heap.size := ⟨_, rfl⟩
  have hky : w1.heap[P]? = some (.cells #[.int .u64 (s.1 : Int), .int .u64 (s.2 : Int)] tSs (0, 0)) := by rw [hw1, hP]; exact heap_alloc_new w _
  have hkc : w1.cell? ⟨P, 0, none⟩ = some (.int .u64 (s.1 : Int)) ∧ w1.cell? ⟨P, 1, none⟩ = some (.int .u64 (s.2 : Int)) := ⟨by rw [cell_of_row _ _ _ _ _ _ hky]; rfl, by rw [cell_of_row _ _ _ _ _ _ hky]; rfl⟩
  have HDR : Hid (Calls Tryz.prog 44 #[.pointer (some ⟨p, 1, none⟩), sv s] w1.drew fun e w' => e = .returned (.bool (decide (s ∈ ks I.O))) ∧ RowM w' m1 T1 (mp fB (rm (mp Bg.qt E) s)) ∧ Chg (fun b => b = m1) w1.drew w') := by
    have hkk : ks (mp Bg.qt E) = ks I.O := by rw [ks_mp, h.ksO]
    cases h9 : lk (mp Bg.qt E) s with
    | none =>
      rw [decide_eq_false (by rw [← hkk]; exact lk_none.1 h9)]
      exact drop_no (o := 1) hI9.hp rfl hI9.r1 hs h9
    | some a =>
      rw [decide_eq_true (by rw [← hkk]; exact mem_ks (lk_mem h9))]
      exact drop_in (o := 1) hI9.hp rfl hI9.r1 hs (c := a.1) (t := a.2) h9
  obtain ⟨bl, hbl⟩ : ∃ bl, bl = decide (s ∈ ks I.O) := ⟨_, rfl⟩
  rw [← hbl] at HDR ⊢
  have HI : Hid _ := h
  have HI1 : Hid _ := hI1
  have HB1 : Hid _ := hb1
  have HKY : Hid _ := hky
  have HW1 : Hid (w1 = _) := hw1
  have HP : Hid _ := hP
  have HLP : Hid (m1 < P) := by unfold Hid; rw [hP]; exact h.lt (.inr (.inl rfl))
  clear h hI1 hI9 hky hb1 hw1 hP hbl
  go_enter Tryz.func29, Tryz.ntmps29
  go_wp2
  rw [← HW1.out, ← HP.out]
  refine wp_region_noPanic ?_
  refine wp_region_held_drew (S := (fun u => u.cell? ⟨P, 0, none⟩ = some (.int .u64 (s.1 : Int)) ∧ u.cell? ⟨P, 1, none⟩ = some (.int .u64 (s.2 : Int)))) (by kernel_rfl) (by first | exact hkc | exact HK4.out | assumption) (fun hHeld => ?_)
  refine take_at (i := 0) 5 (v := ?_) rfl rfl (by kernel_rfl) (by kernel_rfl) (by kernel_rfl) (fun _ _ _ h => h) (by rfl) ?_ hHeld ?_
  rotate_left
  · (intro w hSw; (try dsimp only at hSw); go_simp; try with_reducible rfl)
  simp only [Act.put, List.setIfInBounds_toArray, List.set_cons_zero, List.set_cons_succ]
  refine run_at (i := 1) rfl (by kernel_rfl) (by rfl) (fun K hK => ?_)
  simp only [List.getElem_toArray, List.getElem_cons_zero, List.getElem_cons_succ]
  go_simp
  first | (go_at_call 33; refine Calls.mono HM.out ?_; rintro e w' ⟨rfl, hq⟩; have hq := hq.symm; subst hq) | (go_at_call 44; refine Calls.mono HDR.out ?_; rintro e w4 ⟨rfl, hr4, hc4⟩; have HC4 : Hid (Chg (fun b => b = m1) w1 w4) := ((Chg.refl (fun b => b = m1) w1).drew).trans hc4 (fun b hb => .inl hb); have HKY4 : Hid (w4.heap[P]? = _) := (HC4.out.block P (Array.getElem?_eq_some_iff.1 HKY.out).1 (fun h9 => by have := HLP.out; omega)).trans HKY.out; have HK4 : Hid (w4.cell? ⟨P, 0, none⟩ = some (.int .u64 (s.1 : Int)) ∧ w4.cell? ⟨P, 1, none⟩ = some (.int .u64 (s.2 : Int))) := ⟨(by rw [cell_of_row _ _ _ _ _ _ HKY4.out]; rfl), (by rw [cell_of_row _ _ _ _ _ _ HKY4.out]; rfl)⟩; have HI4 : Hid _ := Ibx.rm HI1.out s hr4 HC4.out; clear hr4 hc4)
  go_wp2_with fail
  refine hK.out _ _ (by first | exact hkc | exact HK4.out | assumption) ?_
  clear hK K
  intro hHeld2
  clear hHeld
  have hHeld := hHeld2
  clear hHeld2
  try simp only [Act.put, List.setIfInBounds_toArray, List.set_cons_zero, List.set_cons_succ]
  refine take_at (i := 2) 7 (v := ?_) rfl rfl (by kernel_rfl) (by kernel_rfl) (by kernel_rfl) (fun _ _ _ h => h) (by rfl) ?_ hHeld ?_
  rotate_left
  · (intro w hSw; (try dsimp only at hSw); go_simp; try with_reducible rfl)
  simp only [Act.put, List.setIfInBounds_toArray, List.set_cons_zero, List.set_cons_succ]
  refine take_at (i := 3) 8 (v := ?_) rfl rfl (by kernel_rfl) (by kernel_rfl) (by kernel_rfl) (fun _ _ _ h => h) (by rfl) ?_ hHeld ?_
  rotate_left
  · (intro w hSw; (try dsimp only at hSw); go_simp; try with_reducible rfl)
  simp only [Act.put, List.setIfInBounds_toArray, List.set_cons_zero, List.set_cons_succ]
  refine take_at (i := 4) 9 (v := ?_) rfl rfl (by kernel_rfl) (by kernel_rfl) (by kernel_rfl) (fun _ _ _ h => h) (by rfl) ?_ hHeld ?_
  rotate_left
  · (intro w hSw; (try dsimp only at hSw); go_simp; try with_reducible rfl)
  simp only [Act.put, List.setIfInBounds_toArray, List.set_cons_zero, List.set_cons_succ]
  refine take_at (i := 5) 10 (v := ?_) rfl rfl (by kernel_rfl) (by kernel_rfl) (by kernel_rfl) (fun _ _ _ h => h) (by rfl) ?_ hHeld ?_
  rotate_left
  · (intro w hSw; (try dsimp only at hSw); go_simp; try with_reducible rfl)
  simp only [Act.put, List.setIfInBounds_toArray, List.set_cons_zero, List.set_cons_succ]
  refine take_at (i := 6) 11 (v := ?_) rfl rfl (by kernel_rfl) (by kernel_rfl) (by kernel_rfl) (fun _ _ _ h => h) (by rfl) ?_ hHeld ?_
  rotate_left
  · (intro w hSw; (try dsimp only at hSw); go_simp; try with_reducible rfl)
  simp only [Act.put, List.setIfInBounds_toArray, List.set_cons_zero, List.set_cons_succ]
  refine run_at (i := 7) rfl (by kernel_rfl) (by rfl) (fun K hK => ?_)
  simp only [List.getElem_toArray, List.getElem_cons_zero, List.getElem_cons_succ]
  go_simp
  first | (go_at_call 33; refine Calls.mono HM.out ?_; rintro e w' ⟨rfl, hq⟩; have hq := hq.symm; subst hq) | (go_at_call 44; refine Calls.mono HDR.out ?_; rintro e w4 ⟨rfl, hr4, hc4⟩; have HC4 : Hid (Chg (fun b => b = m1) w1 w4) := ((Chg.refl (fun b => b = m1) w1).drew).trans hc4 (fun b hb => .inl hb); have HKY4 : Hid (w4.heap[P]? = _) := (HC4.out.block P (Array.getElem?_eq_some_iff.1 HKY.out).1 (fun h9 => by have := HLP.out; omega)).trans HKY.out; have HK4 : Hid (w4.cell? ⟨P, 0, none⟩ = some (.int .u64 (s.1 : Int)) ∧ w4.cell? ⟨P, 1, none⟩ = some (.int .u64 (s.2 : Int))) := ⟨(by rw [cell_of_row _ _ _ _ _ _ HKY4.out]; rfl), (by rw [cell_of_row _ _ _ _ _ _ HKY4.out]; rfl)⟩; have HI4 : Hid _ := Ibx.rm HI1.out s hr4 HC4.out; clear hr4 hc4)
  go_wp2_with fail
  refine hK.out _ _ (by first | exact hkc | exact HK4.out | assumption) ?_
  clear hK K
  intro hHeld2
  clear hHeld
  have hHeld := hHeld2
  clear hHeld2
  try simp only [Act.put, List.setIfInBounds_toArray, List.set_cons_zero, List.set_cons_succ]
  refine take_at (i := 8) 13 (v := ?_) rfl rfl (by kernel_rfl) (by kernel_rfl) (by kernel_rfl) (fun _ _ _ h => h) (by rfl) ?_ hHeld ?_
  rotate_left
  · (intro w hSw; (try dsimp only at hSw); go_simp; try with_reducible rfl)
  simp only [Act.put, List.setIfInBounds_toArray, List.set_cons_zero, List.set_cons_succ]
  refine take_at (i := 9) 4 (v := ?_) rfl rfl (by kernel_rfl) (by kernel_rfl) (by kernel_rfl) (fun _ _ _ h => h) (by rfl) ?_ hHeld ?_
  rotate_left
  · (intro w hSw; (try dsimp only at hSw); go_simp; try with_reducible rfl)
  simp only [Act.put, List.setIfInBounds_toArray, List.set_cons_zero, List.set_cons_succ]
  refine wpAnyH_done (by kernel_rfl) ?_ _
  refine NoPanic.normal ?_
  go_wp2
  go_ret
  refine ⟨rfl, T2, _, _, HI4.out, Nat.le_succ _, (Chg.of_below HB1.out).trans HC4.out (fun b hb => .inl (.inr (.inl hb))), fun b hb => ?_⟩
  rcases hb with hb | hb | hb | ⟨x, hx, ho, hb⟩
  · exact .inl hb
  · exact .inr (.inl hb)
  · exact .inr (.inr (.inl hb))
  · exact .inr (.inr (.inr ⟨x, (mem_rm.1 hx).1, ho, hb⟩))
theorem dec_lo (h : Ibx none w p m1 m2 T1 T2 I E G) (s : Ss) (c : Int) (hc : c < 1) :
    Calls Tryz.prog 28 #[.pointer (some ⟨p, 0, none⟩), sv s, .int .i64 c] w fun e w' => e = .returned (.int .i64 1) ∧ Below w.heap.size w w' := by
  have HM : Hid _ := imade_t (h.below (al (Below.refl w.heap.size w) (.cells #[.int .u64 (s.1 : Int), .int .u64 (s.2 : Int)] tSs)))
  clear h
  go_enter Tryz.func28, Tryz.ntmps28
  go_wp2_with (first | (go_at_call 33; refine Calls.mono HM.out ?_; rintro e w' ⟨rfl, hq⟩; have hq := hq.symm; subst hq) | (go_at_call 43; refine Calls.mono (isnum_t _ _) ?_; rintro e w' ⟨rfl, hq⟩; have hq := hq.symm; subst hq; skip))
  go_ret
  exact ⟨rfl, al (Below.refl _ _) _⟩
theorem dec_hi (h : Ibx none w p m1 m2 T1 T2 I E G) (s : Ss) (c : Int) (hc : 7 < c) :
    Calls Tryz.prog 28 #[.pointer (some ⟨p, 0, none⟩), sv s, .int .i64 c] w fun e w' => e = .returned (.int .i64 1) ∧ Below w.heap.size w w' := by
  have HM : Hid _ := imade_t (h.below (al (Below.refl w.heap.size w) (.cells #[.int .u64 (s.1 : Int), .int .u64 (s.2 : Int)] tSs)))
  clear h
  have hc1 : ¬ c < 1 := by omega
  go_enter Tryz.func28, Tryz.ntmps28
  go_wp2_with (first | (go_at_call 33; refine Calls.mono HM.out ?_; rintro e w' ⟨rfl, hq⟩; have hq := hq.symm; subst hq) | (go_at_call 43; refine Calls.mono (isnum_t _ _) ?_; rintro e w' ⟨rfl, hq⟩; have hq := hq.symm; subst hq; skip))
  go_ret
  exact ⟨rfl, al (Below.refl _ _) _⟩
theorem dec_ep (h : Ibx none w p m1 m2 T1 T2 I E G) (s : Ss) (c : Int) (h0 : 1 ≤ c) (hc : c ≤ 7) (hn : numBI s.1 = false) :
    Calls Tryz.prog 28 #[.pointer (some ⟨p, 0, none⟩), sv s, .int .i64 c] w fun e w' => e = .returned (.int .i64 1) ∧ Below w.heap.size w w' := by
  have HM : Hid _ := imade_t (h.below (al (Below.refl w.heap.size w) (.cells #[.int .u64 (s.1 : Int), .int .u64 (s.2 : Int)] tSs)))
  clear h
  have hc1 : ¬ c < 1 := by omega
  have hc2 : ¬ 7 < c := by omega
  go_enter Tryz.func28, Tryz.ntmps28
  go_wp2_with (first | (go_at_call 33; refine Calls.mono HM.out ?_; rintro e w' ⟨rfl, hq⟩; have hq := hq.symm; subst hq) | (go_at_call 43; refine Calls.mono (isnum_t _ _) ?_; rintro e w' ⟨rfl, hq⟩; have hq := hq.symm; subst hq; rw [hn]))
  go_ret
  exact ⟨rfl, al (Below.refl _ _) _⟩
theorem dec_nu (h : Ibx none w p m1 m2 T1 T2 I E G) (s : Ss) (c : Int) (h0 : 1 ≤ c) (hc : c ≤ 7) (hn : numBI s.1 = true) (hn2 : numBI s.2 = false) :
    Calls Tryz.prog 28 #[.pointer (some ⟨p, 0, none⟩), sv s, .int .i64 c] w fun e w' => e = .returned (.int .i64 1) ∧ Below w.heap.size w w' := by
  have HM : Hid _ := imade_t (h.below (al (Below.refl w.heap.size w) (.cells #[.int .u64 (s.1 : Int), .int .u64 (s.2 : Int)] tSs)))
  clear h
  have hc1 : ¬ c < 1 := by omega
  have hc2 : ¬ 7 < c := by omega
  go_enter Tryz.func28, Tryz.ntmps28
  go_wp2_with (first | (go_at_call 33; refine Calls.mono HM.out ?_; rintro e w' ⟨rfl, hq⟩; have hq := hq.symm; subst hq) | (go_at_call 43; refine Calls.mono (isnum_t _ _) ?_; rintro e w' ⟨rfl, hq⟩; have hq := hq.symm; subst hq; first | rw [hn] | rw [hn2]))
  go_ret
  exact ⟨rfl, al (Below.refl _ _) _⟩
theorem dec_old (h : Ibx none w p m1 m2 T1 T2 I E G) (s : Ss) (c : Int) (h0 : 1 ≤ c) (hc : c ≤ 7) (hn : numBI s.1 = true) (hn2 : numBI s.2 = true) (he : s.1 < I.ep) :
    Calls Tryz.prog 28 #[.pointer (some ⟨p, 0, none⟩), sv s, .int .i64 c] w fun e w' => e = .returned (.int .i64 83) ∧ Below w.heap.size w w' := by
  obtain ⟨w1, hw1⟩ : ∃ w1, w1 = w.alloc (.cells #[.int .u64 (s.1 : Int), .int .u64 (s.2 : Int)] tSs) := ⟨_, rfl⟩
  have hb1 : Below w.heap.size w w1 := by rw [hw1]; exact al (Below.refl _ _) _
  have hI1 := h.below hb1
  have HM : Hid _ := imade_t hI1
  obtain ⟨P, hP⟩ : ∃ P, P = w.heap.size := ⟨_, rfl⟩
  have hky : w1.heap[P]? = some (.cells #[.int .u64 (s.1 : Int), .int .u64 (s.2 : Int)] tSs (0, 0)) := by rw [hw1, hP]; exact heap_alloc_new w _
  have hkc : w1.cell? ⟨P, 0, none⟩ = some (.int .u64 (s.1 : Int)) ∧ w1.cell? ⟨P, 1, none⟩ = some (.int .u64 (s.2 : Int)) := ⟨by rw [cell_of_row _ _ _ _ _ _ hky]; rfl, by rw [cell_of_row _ _ _ _ _ _ hky]; rfl⟩
  have hep := hI1.cell.1
  obtain ⟨ep, hep2⟩ : ∃ ep, ep = I.ep := ⟨_, rfl⟩
  rw [← hep2] at hep
  have hS3 : w1.cell? ⟨P, 0, none⟩ = some (.int .u64 (s.1 : Int)) ∧ w1.cell? ⟨P, 1, none⟩ = some (.int .u64 (s.2 : Int)) ∧ w1.cell? ⟨p, 0, none⟩ = some (.int .u64 (ep : Int)) := ⟨hkc.1, hkc.2, hep⟩
  have HI : Hid _ := h
  have HI1 : Hid _ := hI1
  have HP : Hid _ := hP
  have HKY : Hid _ := hky
  have HB1 : Hid _ := hb1
  have HW1 : Hid (w1 = _) := hw1
  have HEP : Hid _ := hep2
  have hc1 : ¬ c < 1 := by omega
  have hc2 : ¬ 7 < c := by omega
  have hlt : (s.1 : Int) < (ep : Int) := by omega
  clear h hI1 hky hb1 hw1 hP hep2 hep
  go_enter Tryz.func28, Tryz.ntmps28
  go_wp2_with fail
  rw [← HW1.out, ← HP.out]
  refine Calls.mono HM.out ?_
  rintro e w' ⟨rfl, hq⟩
  have hq := hq.symm
  subst hq
  go_wp2_with (go_at_call 43; refine Calls.mono (isnum_t _ _) ?_; rintro e w' ⟨rfl, hq⟩; have hq := hq.symm; subst hq; first | rw [hn] | rw [hn2])
  refine wp_region_noPanic ?_
  refine wp_region_held_drew (S := (fun u => u.cell? ⟨P, 0, none⟩ = some (.int .u64 (s.1 : Int)) ∧ u.cell? ⟨P, 1, none⟩ = some (.int .u64 (s.2 : Int)) ∧ u.cell? ⟨p, 0, none⟩ = some (.int .u64 (ep : Int)))) (by kernel_rfl) (by first | exact hS3 | assumption) (fun hHeld => ?_)
  refine take_at (i := 0) 32 (v := ?_) rfl rfl (by kernel_rfl) (by kernel_rfl) (by kernel_rfl) (fun _ _ _ h => h) (by rfl) ?_ hHeld ?_
  rotate_left
  · (intro w hSw; (try dsimp only at hSw); go_simp; try with_reducible rfl)
  simp only [Act.put, List.setIfInBounds_toArray, List.set_cons_zero, List.set_cons_succ]
  refine take_at (i := 1) 33 (v := ?_) rfl rfl (by kernel_rfl) (by kernel_rfl) (by kernel_rfl) (fun _ _ _ h => h) (by rfl) ?_ hHeld ?_
  rotate_left
  · (intro w hSw; (try dsimp only at hSw); go_simp; try with_reducible rfl)
  simp only [Act.put, List.setIfInBounds_toArray, List.set_cons_zero, List.set_cons_succ]
  refine take_at (i := 2) 34 (v := ?_) rfl rfl (by kernel_rfl) (by kernel_rfl) (by kernel_rfl) (fun _ _ _ h => h) (by rfl) ?_ hHeld ?_
  rotate_left
  · (intro w hSw; (try dsimp only at hSw); go_simp; try with_reducible rfl)
  simp only [Act.put, List.setIfInBounds_toArray, List.set_cons_zero, List.set_cons_succ]
  refine take_at (i := 3) 35 (v := ?_) rfl rfl (by kernel_rfl) (by kernel_rfl) (by kernel_rfl) (fun _ _ _ h => h) (by rfl) ?_ hHeld ?_
  rotate_left
  · (intro w hSw; (try dsimp only at hSw); go_simp; try with_reducible rfl)
  simp only [Act.put, List.setIfInBounds_toArray, List.set_cons_zero, List.set_cons_succ]
  refine take_at (i := 4) 36 (v := ?_) rfl rfl (by kernel_rfl) (by kernel_rfl) (by kernel_rfl) (fun _ _ _ h => h) (by rfl) ?_ hHeld ?_
  rotate_left
  · (intro w hSw; (try dsimp only at hSw); go_simp; try with_reducible rfl)
  simp only [Act.put, List.setIfInBounds_toArray, List.set_cons_zero, List.set_cons_succ]
  refine take_at (i := 5) 37 (v := ?_) rfl rfl (by kernel_rfl) (by kernel_rfl) (by kernel_rfl) (fun _ _ _ h => h) (by rfl) ?_ hHeld ?_
  rotate_left
  · (intro w hSw; (try dsimp only at hSw); go_simp; try with_reducible rfl)
  simp only [Act.put, List.setIfInBounds_toArray, List.set_cons_zero, List.set_cons_succ]
  refine take_at (i := 6) 38 (v := ?_) rfl rfl (by kernel_rfl) (by kernel_rfl) (by kernel_rfl) (fun _ _ _ h => h) (by rfl) ?_ hHeld ?_
  rotate_left
  · (intro w hSw; (try dsimp only at hSw); go_simp; try with_reducible rfl)
  simp only [Act.put, List.setIfInBounds_toArray, List.set_cons_zero, List.set_cons_succ]
  refine wpAnyH_done (by kernel_rfl) ?_ _
  refine NoPanic.normal ?_
  go_wp2
  go_ret
  exact ⟨rfl, HB1.out.drew⟩
theorem dec_twice (h : Ibx none w p m1 m2 T1 T2 I E G) (s : Ss) (c : Int) (h0 : 1 ≤ c) (hc : c ≤ 7) (hn : numBI s.1 = true) (hn2 : numBI s.2 = true) (he : I.ep ≤ s.1) (hH : s ∈ ks I.H) :
    Calls Tryz.prog 28 #[.pointer (some ⟨p, 0, none⟩), sv s, .int .i64 c] w fun e w' => e = .returned (.int .i64 3) ∧ Below w.heap.size w w' := by
  obtain ⟨w1, hw1⟩ : ∃ w1, w1 = w.alloc (.cells #[.int .u64 (s.1 : Int), .int .u64 (s.2 : Int)] tSs) := ⟨_, rfl⟩
  have hb1 : Below w.heap.size w w1 := by rw [hw1]; exact al (Below.refl _ _) _
  have hI1 := h.below hb1
  have HM : Hid _ := imade_t hI1
  obtain ⟨P, hP⟩ : ∃ P, P = w.heap.size := ⟨_, rfl⟩
  have hky : w1.heap[P]? = some (.cells #[.int .u64 (s.1 : Int), .int .u64 (s.2 : Int)] tSs (0, 0)) := by rw [hw1, hP]; exact heap_alloc_new w _
  have hkc : w1.cell? ⟨P, 0, none⟩ = some (.int .u64 (s.1 : Int)) ∧ w1.cell? ⟨P, 1, none⟩ = some (.int .u64 (s.2 : Int)) := ⟨by rw [cell_of_row _ _ _ _ _ _ hky]; rfl, by rw [cell_of_row _ _ _ _ _ _ hky]; rfl⟩
  have hep := hI1.cell.1
  obtain ⟨ep, hep2⟩ : ∃ ep, ep = I.ep := ⟨_, rfl⟩
  rw [← hep2] at hep
  have hS3 : w1.cell? ⟨P, 0, none⟩ = some (.int .u64 (s.1 : Int)) ∧ w1.cell? ⟨P, 1, none⟩ = some (.int .u64 (s.2 : Int)) ∧ w1.cell? ⟨p, 0, none⟩ = some (.int .u64 (ep : Int)) := ⟨hkc.1, hkc.2, hep⟩
  have HI : Hid _ := h
  have HI1 : Hid _ := hI1
  have HP : Hid _ := hP
  have HKY : Hid _ := hky
  have HB1 : Hid _ := hb1
  have HW1 : Hid (w1 = _) := hw1
  have HEP : Hid _ := hep2
  have hc1 : ¬ c < 1 := by omega
  have hc2 : ¬ 7 < c := by omega
  have hlt : ¬ (s.1 : Int) < (ep : Int) := by omega
  have HSS : Hid (inS s) := by
    have h1 := hn
    have h2 := hn2
    unfold numBI at h1 h2
    simp only [decide_eq_true_eq] at h1 h2
    exact ⟨by omega, by omega⟩
  obtain ⟨c9, t9, hlk⟩ : ∃ c9 t9, lk G s = some (c9, t9) := by
    cases h9 : lk G s with
    | none => exact absurd hH (by rw [← h.ksH]; exact lk_none.1 h9)
    | some a => exact ⟨a.1, a.2, rfl⟩
  have HGET : Hid (Calls _ _ _ w1.drew.drew _) := getI_in (o := 4) (p := p) ((hI1.below (w' := w1.drew.drew) (Below.refl _ _).drew.drew).cell.2.2.2.2.2.2) (hI1.below (w' := w1.drew.drew) (Below.refl _ _).drew.drew).r2 HSS.out hlk
  clear h hI1 hky hb1 hw1 hP hep2 hep
  go_enter Tryz.func28, Tryz.ntmps28
  go_wp2_with fail
  rw [← HW1.out, ← HP.out]
  refine Calls.mono HM.out ?_
  rintro e w' ⟨rfl, hq⟩
  have hq := hq.symm
  subst hq
  go_wp2_with (go_at_call 43; refine Calls.mono (isnum_t _ _) ?_; rintro e w' ⟨rfl, hq⟩; have hq := hq.symm; subst hq; first | rw [hn] | rw [hn2])
  refine wp_region_noPanic ?_
  refine wp_region_held_drew (S := (fun u => u.cell? ⟨P, 0, none⟩ = some (.int .u64 (s.1 : Int)) ∧ u.cell? ⟨P, 1, none⟩ = some (.int .u64 (s.2 : Int)) ∧ u.cell? ⟨p, 0, none⟩ = some (.int .u64 (ep : Int)))) (by kernel_rfl) (by first | exact hS3 | assumption) (fun hHeld => ?_)
  refine take_at (i := 0) 32 (v := ?_) rfl rfl (by kernel_rfl) (by kernel_rfl) (by kernel_rfl) (fun _ _ _ h => h) (by rfl) ?_ hHeld ?_
  rotate_left
  · (intro w hSw; (try dsimp only at hSw); go_simp; try with_reducible rfl)
  simp only [Act.put, List.setIfInBounds_toArray, List.set_cons_zero, List.set_cons_succ]
  refine take_at (i := 1) 33 (v := ?_) rfl rfl (by kernel_rfl) (by kernel_rfl) (by kernel_rfl) (fun _ _ _ h => h) (by rfl) ?_ hHeld ?_
  rotate_left
  · (intro w hSw; (try dsimp only at hSw); go_simp; try with_reducible rfl)
  simp only [Act.put, List.setIfInBounds_toArray, List.set_cons_zero, List.set_cons_succ]
  refine take_at (i := 2) 34 (v := ?_) rfl rfl (by kernel_rfl) (by kernel_rfl) (by kernel_rfl) (fun _ _ _ h => h) (by rfl) ?_ hHeld ?_
  rotate_left
  · (intro w hSw; (try dsimp only at hSw); go_simp; try with_reducible rfl)
  simp only [Act.put, List.setIfInBounds_toArray, List.set_cons_zero, List.set_cons_succ]
  refine take_at (i := 3) 35 (v := ?_) rfl rfl (by kernel_rfl) (by kernel_rfl) (by kernel_rfl) (fun _ _ _ h => h) (by rfl) ?_ hHeld ?_
  rotate_left
  · (intro w hSw; (try dsimp only at hSw); go_simp; try with_reducible rfl)
  simp only [Act.put, List.setIfInBounds_toArray, List.set_cons_zero, List.set_cons_succ]
  refine take_at (i := 4) 36 (v := ?_) rfl rfl (by kernel_rfl) (by kernel_rfl) (by kernel_rfl) (fun _ _ _ h => h) (by rfl) ?_ hHeld ?_
  rotate_left
  · (intro w hSw; (try dsimp only at hSw); go_simp; try with_reducible rfl)
  simp only [Act.put, List.setIfInBounds_toArray, List.set_cons_zero, List.set_cons_succ]
  refine take_at (i := 5) 37 (v := ?_) rfl rfl (by kernel_rfl) (by kernel_rfl) (by kernel_rfl) (fun _ _ _ h => h) (by rfl) ?_ hHeld ?_
  rotate_left
  · (intro w hSw; (try dsimp only at hSw); go_simp; try with_reducible rfl)
  simp only [Act.put, List.setIfInBounds_toArray, List.set_cons_zero, List.set_cons_succ]
  refine take_at (i := 6) 38 (v := ?_) rfl rfl (by kernel_rfl) (by kernel_rfl) (by kernel_rfl) (fun _ _ _ h => h) (by rfl) ?_ hHeld ?_
  rotate_left
  · (intro w hSw; (try dsimp only at hSw); go_simp; try with_reducible rfl)
  simp only [Act.put, List.setIfInBounds_toArray, List.set_cons_zero, List.set_cons_succ]
  refine wpAnyH_done (by kernel_rfl) ?_ _
  refine NoPanic.normal ?_
  go_wp2
  refine wp_region_noPanic ?_
  refine wp_region_held_drew (S := (fun u => u.cell? ⟨P, 0, none⟩ = some (.int .u64 (s.1 : Int)) ∧ u.cell? ⟨P, 1, none⟩ = some (.int .u64 (s.2 : Int)))) (by kernel_rfl) (by first | exact hkc | exact HK2.out | assumption) (fun hHeld => ?_)
  refine take_at (i := 0) 40 (v := ?_) rfl rfl (by kernel_rfl) (by kernel_rfl) (by kernel_rfl) (fun _ _ _ h => h) (by rfl) ?_ hHeld ?_
  rotate_left
  · (intro w hSw; (try dsimp only at hSw); go_simp; try with_reducible rfl)
  simp only [Act.put, List.setIfInBounds_toArray, List.set_cons_zero, List.set_cons_succ]
  refine take_at (i := 1) 41 (v := ?_) rfl rfl (by kernel_rfl) (by kernel_rfl) (by kernel_rfl) (fun _ _ _ h => h) (by rfl) ?_ hHeld ?_
  rotate_left
  · (intro w hSw; (try dsimp only at hSw); go_simp; try with_reducible rfl)
  simp only [Act.put, List.setIfInBounds_toArray, List.set_cons_zero, List.set_cons_succ]
  refine take_at (i := 2) 42 (v := ?_) rfl rfl (by kernel_rfl) (by kernel_rfl) (by kernel_rfl) (fun _ _ _ h => h) (by rfl) ?_ hHeld ?_
  rotate_left
  · (intro w hSw; (try dsimp only at hSw); go_simp; try with_reducible rfl)
  simp only [Act.put, List.setIfInBounds_toArray, List.set_cons_zero, List.set_cons_succ]
  refine take_at (i := 3) 43 (v := ?_) rfl rfl (by kernel_rfl) (by kernel_rfl) (by kernel_rfl) (fun _ _ _ h => h) (by rfl) ?_ hHeld ?_
  rotate_left
  · (intro w hSw; (try dsimp only at hSw); go_simp; try with_reducible rfl)
  simp only [Act.put, List.setIfInBounds_toArray, List.set_cons_zero, List.set_cons_succ]
  refine run_at (i := 4) rfl (by kernel_rfl) (by rfl) (fun K hK => ?_)
  simp only [List.getElem_toArray, List.getElem_cons_zero, List.getElem_cons_succ]
  go_simp
  (go_at_call 36; refine Calls.mono HGET.out ?_; rintro e w2 ⟨rfl, hb2⟩; have HB2 : Hid (Below w1.heap.size w1 w2) := ((Below.refl w1.heap.size w1).drew.drew).trans hb2; have HKY2 : Hid (w2.heap[P]? = _) := (HB2.out.block P (Array.getElem?_eq_some_iff.1 HKY.out).1).trans HKY.out; have HK2 : Hid (w2.cell? ⟨P, 0, none⟩ = some (.int .u64 (s.1 : Int)) ∧ w2.cell? ⟨P, 1, none⟩ = some (.int .u64 (s.2 : Int))) := ⟨(by rw [cell_of_row _ _ _ _ _ _ HKY2.out]; rfl), (by rw [cell_of_row _ _ _ _ _ _ HKY2.out]; rfl)⟩; clear hb2)
  go_wp2_with fail
  refine hK.out _ _ (by first | exact hkc | exact HK2.out | assumption) ?_
  clear hK K
  intro hHeld2
  clear hHeld
  have hHeld := hHeld2
  clear hHeld2
  try simp only [Act.put, List.setIfInBounds_toArray, List.set_cons_zero, List.set_cons_succ]
  refine take_at (i := 5) 39 (v := ?_) rfl rfl (by kernel_rfl) (by kernel_rfl) (by kernel_rfl) (fun _ _ _ h => h) (by rfl) ?_ hHeld ?_
  rotate_left
  · (intro w hSw; (try dsimp only at hSw); go_simp; try with_reducible rfl)
  simp only [Act.put, List.setIfInBounds_toArray, List.set_cons_zero, List.set_cons_succ]
  refine take_at (i := 6) 45 (v := ?_) rfl rfl (by kernel_rfl) (by kernel_rfl) (by kernel_rfl) (fun _ _ _ h => h) (by rfl) ?_ hHeld ?_
  rotate_left
  · (intro w hSw; (try dsimp only at hSw); go_simp; try with_reducible rfl)
  simp only [Act.put, List.setIfInBounds_toArray, List.set_cons_zero, List.set_cons_succ]
  refine take_at (i := 7) 46 (v := ?_) rfl rfl (by kernel_rfl) (by kernel_rfl) (by kernel_rfl) (fun _ _ _ h => h) (by rfl) ?_ hHeld ?_
  rotate_left
  · (intro w hSw; (try dsimp only at hSw); go_simp; try with_reducible rfl)
  simp only [Act.put, List.setIfInBounds_toArray, List.set_cons_zero, List.set_cons_succ]
  refine take_at (i := 8) 7 (v := ?_) rfl rfl (by kernel_rfl) (by kernel_rfl) (by kernel_rfl) (fun _ _ _ h => h) (by rfl) ?_ hHeld ?_
  rotate_left
  · (intro w hSw; (try dsimp only at hSw); go_simp; try with_reducible rfl)
  simp only [Act.put, List.setIfInBounds_toArray, List.set_cons_zero, List.set_cons_succ]
  refine take_at (i := 9) 8 (v := ?_) rfl rfl (by kernel_rfl) (by kernel_rfl) (by kernel_rfl) (fun _ _ _ h => h) (by rfl) ?_ hHeld ?_
  rotate_left
  · (intro w hSw; (try dsimp only at hSw); go_simp; try with_reducible rfl)
  simp only [Act.put, List.setIfInBounds_toArray, List.set_cons_zero, List.set_cons_succ]
  refine wpAnyH_done (by kernel_rfl) ?_ _
  refine NoPanic.normal ?_
  go_wp2
  go_ret
  exact ⟨rfl, below_next HB1.out HB2.out⟩
theorem dec_ok (h : Ibx none w p m1 m2 T1 T2 I E G) (s : Ss) (c : Int) (h0 : 1 ≤ c) (hc : c ≤ 7) (hn : numBI s.1 = true) (hn2 : numBI s.2 = true) (he : I.ep ≤ s.1) (hH : s ∉ ks I.H) (hT : T2 < 9223372036854775807) :
    Calls Tryz.prog 28 #[.pointer (some ⟨p, 0, none⟩), sv s, .int .i64 c] w fun e w' => e = .returned (.int .i64 0) ∧ DcPost w p m1 m2 T1 T2 E { riseI I s.1 with O := rm (riseI I s.1).O s, H := pt (riseI I s.1).ms (riseI I s.1).H s c } w' := by
  obtain ⟨w1, hw1⟩ : ∃ w1, w1 = w.alloc (.cells #[.int .u64 (s.1 : Int), .int .u64 (s.2 : Int)] tSs) := ⟨_, rfl⟩
  have hb1 : Below w.heap.size w w1 := by rw [hw1]; exact al (Below.refl _ _) _
  have hI1 := h.below hb1
  have HM : Hid _ := imade_t hI1
  obtain ⟨P, hP⟩ : ∃ P, P = w.heap.size := ⟨_, rfl⟩
  have hky : w1.heap[P]? = some (.cells #[.int .u64 (s.1 : Int), .int .u64 (s.2 : Int)] tSs (0, 0)) := by rw [hw1, hP]; exact heap_alloc_new w _
  have hkc : w1.cell? ⟨P, 0, none⟩ = some (.int .u64 (s.1 : Int)) ∧ w1.cell? ⟨P, 1, none⟩ = some (.int .u64 (s.2 : Int)) := ⟨by rw [cell_of_row _ _ _ _ _ _ hky]; rfl, by rw [cell_of_row _ _ _ _ _ _ hky]; rfl⟩
  have hep := hI1.cell.1
  obtain ⟨ep, hep2⟩ : ∃ ep, ep = I.ep := ⟨_, rfl⟩
  rw [← hep2] at hep
  have hS3 : w1.cell? ⟨P, 0, none⟩ = some (.int .u64 (s.1 : Int)) ∧ w1.cell? ⟨P, 1, none⟩ = some (.int .u64 (s.2 : Int)) ∧ w1.cell? ⟨p, 0, none⟩ = some (.int .u64 (ep : Int)) := ⟨hkc.1, hkc.2, hep⟩
  have HI : Hid _ := h
  have HI1 : Hid _ := hI1
  have HP : Hid _ := hP
  have HKY : Hid _ := hky
  have HB1 : Hid _ := hb1
  have HW1 : Hid (w1 = _) := hw1
  have HEP : Hid _ := hep2
  have hc1 : ¬ c < 1 := by omega
  have hc2 : ¬ 7 < c := by omega
  have hlt : ¬ (s.1 : Int) < (ep : Int) := by omega
  have HSS : Hid (inS s) := by
    have h1 := hn
    have h2 := hn2
    unfold numBI at h1 h2
    simp only [decide_eq_true_eq] at h1 h2
    exact ⟨by omega, by omega⟩
  have hlk : lk G s = none := lk_none.2 (by rw [h.ksH]; exact hH)
  have HGET : Hid (Calls _ _ _ w1.drew.drew _) := getI_no (o := 4) (p := p) ((hI1.below (w' := w1.drew.drew) (Below.refl _ _).drew.drew).cell.2.2.2.2.2.2) (hI1.below (w' := w1.drew.drew) (Below.refl _ _).drew.drew).r2 HSS.out hlk
  clear h hI1 hky hb1 hw1 hP hep2 hep
  go_enter Tryz.func28, Tryz.ntmps28
  go_wp2_with fail
  rw [← HW1.out, ← HP.out]
  refine Calls.mono HM.out ?_
  rintro e w' ⟨rfl, hq⟩
  have hq := hq.symm
  subst hq
  go_wp2_with (go_at_call 43; refine Calls.mono (isnum_t _ _) ?_; rintro e w' ⟨rfl, hq⟩; have hq := hq.symm; subst hq; first | rw [hn] | rw [hn2])
  refine wp_region_noPanic ?_
  refine wp_region_held_drew (S := (fun u => u.cell? ⟨P, 0, none⟩ = some (.int .u64 (s.1 : Int)) ∧ u.cell? ⟨P, 1, none⟩ = some (.int .u64 (s.2 : Int)) ∧ u.cell? ⟨p, 0, none⟩ = some (.int .u64 (ep : Int)))) (by kernel_rfl) (by first | exact hS3 | assumption) (fun hHeld => ?_)
  refine take_at (i := 0) 32 (v := ?_) rfl rfl (by kernel_rfl) (by kernel_rfl) (by kernel_rfl) (fun _ _ _ h => h) (by rfl) ?_ hHeld ?_
  rotate_left
  · (intro w hSw; (try dsimp only at hSw); go_simp; try with_reducible rfl)
  simp only [Act.put, List.setIfInBounds_toArray, List.set_cons_zero, List.set_cons_succ]
  refine take_at (i := 1) 33 (v := ?_) rfl rfl (by kernel_rfl) (by kernel_rfl) (by kernel_rfl) (fun _ _ _ h => h) (by rfl) ?_ hHeld ?_
  rotate_left
  · (intro w hSw; (try dsimp only at hSw); go_simp; try with_reducible rfl)
  simp only [Act.put, List.setIfInBounds_toArray, List.set_cons_zero, List.set_cons_succ]
  refine take_at (i := 2) 34 (v := ?_) rfl rfl (by kernel_rfl) (by kernel_rfl) (by kernel_rfl) (fun _ _ _ h => h) (by rfl) ?_ hHeld ?_
  rotate_left
  · (intro w hSw; (try dsimp only at hSw); go_simp; try with_reducible rfl)
  simp only [Act.put, List.setIfInBounds_toArray, List.set_cons_zero, List.set_cons_succ]
  refine take_at (i := 3) 35 (v := ?_) rfl rfl (by kernel_rfl) (by kernel_rfl) (by kernel_rfl) (fun _ _ _ h => h) (by rfl) ?_ hHeld ?_
  rotate_left
  · (intro w hSw; (try dsimp only at hSw); go_simp; try with_reducible rfl)
  simp only [Act.put, List.setIfInBounds_toArray, List.set_cons_zero, List.set_cons_succ]
  refine take_at (i := 4) 36 (v := ?_) rfl rfl (by kernel_rfl) (by kernel_rfl) (by kernel_rfl) (fun _ _ _ h => h) (by rfl) ?_ hHeld ?_
  rotate_left
  · (intro w hSw; (try dsimp only at hSw); go_simp; try with_reducible rfl)
  simp only [Act.put, List.setIfInBounds_toArray, List.set_cons_zero, List.set_cons_succ]
  refine take_at (i := 5) 37 (v := ?_) rfl rfl (by kernel_rfl) (by kernel_rfl) (by kernel_rfl) (fun _ _ _ h => h) (by rfl) ?_ hHeld ?_
  rotate_left
  · (intro w hSw; (try dsimp only at hSw); go_simp; try with_reducible rfl)
  simp only [Act.put, List.setIfInBounds_toArray, List.set_cons_zero, List.set_cons_succ]
  refine take_at (i := 6) 38 (v := ?_) rfl rfl (by kernel_rfl) (by kernel_rfl) (by kernel_rfl) (fun _ _ _ h => h) (by rfl) ?_ hHeld ?_
  rotate_left
  · (intro w hSw; (try dsimp only at hSw); go_simp; try with_reducible rfl)
  simp only [Act.put, List.setIfInBounds_toArray, List.set_cons_zero, List.set_cons_succ]
  refine wpAnyH_done (by kernel_rfl) ?_ _
  refine NoPanic.normal ?_
  go_wp2
  refine wp_region_noPanic ?_
  refine wp_region_held_drew (S := (fun u => u.cell? ⟨P, 0, none⟩ = some (.int .u64 (s.1 : Int)) ∧ u.cell? ⟨P, 1, none⟩ = some (.int .u64 (s.2 : Int)))) (by kernel_rfl) (by first | exact hkc | exact HK2.out | assumption) (fun hHeld => ?_)
  refine take_at (i := 0) 40 (v := ?_) rfl rfl (by kernel_rfl) (by kernel_rfl) (by kernel_rfl) (fun _ _ _ h => h) (by rfl) ?_ hHeld ?_
  rotate_left
  · (intro w hSw; (try dsimp only at hSw); go_simp; try with_reducible rfl)
  simp only [Act.put, List.setIfInBounds_toArray, List.set_cons_zero, List.set_cons_succ]
  refine take_at (i := 1) 41 (v := ?_) rfl rfl (by kernel_rfl) (by kernel_rfl) (by kernel_rfl) (fun _ _ _ h => h) (by rfl) ?_ hHeld ?_
  rotate_left
  · (intro w hSw; (try dsimp only at hSw); go_simp; try with_reducible rfl)
  simp only [Act.put, List.setIfInBounds_toArray, List.set_cons_zero, List.set_cons_succ]
  refine take_at (i := 2) 42 (v := ?_) rfl rfl (by kernel_rfl) (by kernel_rfl) (by kernel_rfl) (fun _ _ _ h => h) (by rfl) ?_ hHeld ?_
  rotate_left
  · (intro w hSw; (try dsimp only at hSw); go_simp; try with_reducible rfl)
  simp only [Act.put, List.setIfInBounds_toArray, List.set_cons_zero, List.set_cons_succ]
  refine take_at (i := 3) 43 (v := ?_) rfl rfl (by kernel_rfl) (by kernel_rfl) (by kernel_rfl) (fun _ _ _ h => h) (by rfl) ?_ hHeld ?_
  rotate_left
  · (intro w hSw; (try dsimp only at hSw); go_simp; try with_reducible rfl)
  simp only [Act.put, List.setIfInBounds_toArray, List.set_cons_zero, List.set_cons_succ]
  refine run_at (i := 4) rfl (by kernel_rfl) (by rfl) (fun K hK => ?_)
  simp only [List.getElem_toArray, List.getElem_cons_zero, List.getElem_cons_succ]
  go_simp
  (go_at_call 36; refine Calls.mono HGET.out ?_; rintro e w2 ⟨rfl, hb2⟩; have HB2 : Hid (Below w1.heap.size w1 w2) := ((Below.refl w1.heap.size w1).drew.drew).trans hb2; have HKY2 : Hid (w2.heap[P]? = _) := (HB2.out.block P (Array.getElem?_eq_some_iff.1 HKY.out).1).trans HKY.out; have HK2 : Hid (w2.cell? ⟨P, 0, none⟩ = some (.int .u64 (s.1 : Int)) ∧ w2.cell? ⟨P, 1, none⟩ = some (.int .u64 (s.2 : Int))) := ⟨(by rw [cell_of_row _ _ _ _ _ _ HKY2.out]; rfl), (by rw [cell_of_row _ _ _ _ _ _ HKY2.out]; rfl)⟩; clear hb2)
  go_wp2_with fail
  refine hK.out _ _ (by first | exact hkc | exact HK2.out | assumption) ?_
  clear hK K
  intro hHeld2
  clear hHeld
  have hHeld := hHeld2
  clear hHeld2
  try simp only [Act.put, List.setIfInBounds_toArray, List.set_cons_zero, List.set_cons_succ]
  refine take_at (i := 5) 39 (v := ?_) rfl rfl (by kernel_rfl) (by kernel_rfl) (by kernel_rfl) (fun _ _ _ h => h) (by rfl) ?_ hHeld ?_
  rotate_left
  · (intro w hSw; (try dsimp only at hSw); go_simp; try with_reducible rfl)
  simp only [Act.put, List.setIfInBounds_toArray, List.set_cons_zero, List.set_cons_succ]
  refine take_at (i := 6) 45 (v := ?_) rfl rfl (by kernel_rfl) (by kernel_rfl) (by kernel_rfl) (fun _ _ _ h => h) (by rfl) ?_ hHeld ?_
  rotate_left
  · (intro w hSw; (try dsimp only at hSw); go_simp; try with_reducible rfl)
  simp only [Act.put, List.setIfInBounds_toArray, List.set_cons_zero, List.set_cons_succ]
  refine take_at (i := 7) 46 (v := ?_) rfl rfl (by kernel_rfl) (by kernel_rfl) (by kernel_rfl) (fun _ _ _ h => h) (by rfl) ?_ hHeld ?_
  rotate_left
  · (intro w hSw; (try dsimp only at hSw); go_simp; try with_reducible rfl)
  simp only [Act.put, List.setIfInBounds_toArray, List.set_cons_zero, List.set_cons_succ]
  refine take_at (i := 8) 7 (v := ?_) rfl rfl (by kernel_rfl) (by kernel_rfl) (by kernel_rfl) (fun _ _ _ h => h) (by rfl) ?_ hHeld ?_
  rotate_left
  · (intro w hSw; (try dsimp only at hSw); go_simp; try with_reducible rfl)
  simp only [Act.put, List.setIfInBounds_toArray, List.set_cons_zero, List.set_cons_succ]
  refine take_at (i := 9) 8 (v := ?_) rfl rfl (by kernel_rfl) (by kernel_rfl) (by kernel_rfl) (fun _ _ _ h => h) (by rfl) ?_ hHeld ?_
  rotate_left
  · (intro w hSw; (try dsimp only at hSw); go_simp; try with_reducible rfl)
  simp only [Act.put, List.setIfInBounds_toArray, List.set_cons_zero, List.set_cons_succ]
  refine wpAnyH_done (by kernel_rfl) ?_ _
  refine NoPanic.normal ?_
  have HI2 : Hid _ := HI1.out.below HB2.out
  have HH : Hid (Calls _ _ _ w2 _) := ihear_t HI2.out s.1 (HSS.out.1)
  have hk2 := HK2.out
  go_wp2_with fail
  refine Calls.mono HH.out ?_
  rintro e w3 ⟨rfl, E', G', hI3, hft, hc3⟩
  have hlt3 : ∀ b, footI none p m1 m2 E b → b < P := fun b hb => by rw [HP.out]; exact Ibx.lt HI.out hb
  have hky3 : w3.heap[P]? = some (.cells #[.int .u64 (s.1 : Int), .int .u64 (s.2 : Int)] tSs (0, 0)) := (hc3.block P (Array.getElem?_eq_some_iff.1 HKY2.out).1 (fun h9 => by have := hlt3 P (h9.imp id (fun h8 => h8.imp id .inl)); omega)).trans HKY2.out
  have hk3 : w3.cell? ⟨P, 0, none⟩ = some (.int .u64 (s.1 : Int)) ∧ w3.cell? ⟨P, 1, none⟩ = some (.int .u64 (s.2 : Int)) := ⟨(by rw [cell_of_row _ _ _ _ _ _ hky3]; rfl), (by rw [cell_of_row _ _ _ _ _ _ hky3]; rfl)⟩
  have HKY3 : Hid _ := hky3
  have HI3 : Hid _ := hI3
  have HFT : Hid _ := hft
  have HLT3 : Hid _ := hlt3
  have HCH3 : Hid (Chg (footI none p m1 m2 E) w w3) := (Chg.of_below (below_next HB1.out HB2.out)).trans hc3 (fun b hb => .inl (hb.imp id (fun h8 => h8.imp id .inl)))
  have HDR : Hid (∃ bl, Calls Tryz.prog 44 #[.pointer (some ⟨p, 1, none⟩), sv s] w3.drew fun e w' => e = .returned (.bool bl) ∧ RowM w' m1 T1 (mp fB (rm (mp Bg.qt E') s)) ∧ Chg (fun b => b = m1) w3.drew w') := by
    have hI9 := hI3.below (w' := w3.drew) (Below.refl _ _).drew
    cases h9 : lk (mp Bg.qt E') s with
    | none => exact ⟨false, drop_no (o := 1) hI9.hp rfl hI9.r1 HSS.out h9⟩
    | some a => exact ⟨true, drop_in (o := 1) hI9.hp rfl hI9.r1 HSS.out (c := a.1) (t := a.2) h9⟩
  obtain ⟨bl, hdr⟩ := HDR.out
  have HDR2 : Hid (Calls _ _ _ _ _) := hdr
  clear hI3 hft hc3 hky3 hlt3 hdr HDR hk2
  go_wp2
  refine wp_region_noPanic ?_
  refine wp_region_held_drew (S := (fun u => u.cell? ⟨P, 0, none⟩ = some (.int .u64 (s.1 : Int)) ∧ u.cell? ⟨P, 1, none⟩ = some (.int .u64 (s.2 : Int)))) (by kernel_rfl) (by first | exact hk3 | exact HK4.out | assumption) (fun hHeld => ?_)
  refine take_at (i := 0) 52 (v := ?_) rfl rfl (by kernel_rfl) (by kernel_rfl) (by kernel_rfl) (fun _ _ _ h => h) (by rfl) ?_ hHeld ?_
  rotate_left
  · (intro w hSw; (try dsimp only at hSw); go_simp; try with_reducible rfl)
  simp only [Act.put, List.setIfInBounds_toArray, List.set_cons_zero, List.set_cons_succ]
  refine take_at (i := 1) 53 (v := ?_) rfl rfl (by kernel_rfl) (by kernel_rfl) (by kernel_rfl) (fun _ _ _ h => h) (by rfl) ?_ hHeld ?_
  rotate_left
  · (intro w hSw; (try dsimp only at hSw); go_simp; try with_reducible rfl)
  simp only [Act.put, List.setIfInBounds_toArray, List.set_cons_zero, List.set_cons_succ]
  refine take_at (i := 2) 54 (v := ?_) rfl rfl (by kernel_rfl) (by kernel_rfl) (by kernel_rfl) (fun _ _ _ h => h) (by rfl) ?_ hHeld ?_
  rotate_left
  · (intro w hSw; (try dsimp only at hSw); go_simp; try with_reducible rfl)
  simp only [Act.put, List.setIfInBounds_toArray, List.set_cons_zero, List.set_cons_succ]
  refine take_at (i := 3) 55 (v := ?_) rfl rfl (by kernel_rfl) (by kernel_rfl) (by kernel_rfl) (fun _ _ _ h => h) (by rfl) ?_ hHeld ?_
  rotate_left
  · (intro w hSw; (try dsimp only at hSw); go_simp; try with_reducible rfl)
  simp only [Act.put, List.setIfInBounds_toArray, List.set_cons_zero, List.set_cons_succ]
  refine run_at (i := 4) rfl (by kernel_rfl) (by rfl) (fun K hK => ?_)
  simp only [List.getElem_toArray, List.getElem_cons_zero, List.getElem_cons_succ]
  go_simp
  (go_at_call 44; refine Calls.mono HDR2.out ?_; rintro e w4 ⟨rfl, hr4, hc4⟩; have HC4 : Hid (Chg (fun b => b = m1) w3 w4) := ((Chg.refl (fun b => b = m1) w3).drew).trans hc4 (fun b hb => .inl hb); have HKY4 : Hid (w4.heap[P]? = _) := (HC4.out.block P (Array.getElem?_eq_some_iff.1 HKY3.out).1 (fun h9 => by have := HLT3.out P (HFT.out P (.inr (.inl h9))); omega)).trans HKY3.out; have HK4 : Hid (w4.cell? ⟨P, 0, none⟩ = some (.int .u64 (s.1 : Int)) ∧ w4.cell? ⟨P, 1, none⟩ = some (.int .u64 (s.2 : Int))) := ⟨(by rw [cell_of_row _ _ _ _ _ _ HKY4.out]; rfl), (by rw [cell_of_row _ _ _ _ _ _ HKY4.out]; rfl)⟩; have HI4 : Hid _ := Ibx.rm HI3.out s hr4 HC4.out; clear hr4 hc4)
  go_wp2_with fail
  refine hK.out _ _ (by first | exact hk3 | exact HK4.out | assumption) ?_
  clear hK K
  intro hHeld2
  clear hHeld
  have hHeld := hHeld2
  clear hHeld2
  try simp only [Act.put, List.setIfInBounds_toArray, List.set_cons_zero, List.set_cons_succ]
  refine wpAnyH_done (by kernel_rfl) ?_ _
  refine NoPanic.normal ?_
  have hk4 := HK4.out
  have HPUT : Hid (Calls _ _ _ w4.drew _) := putI_t (w := w4.drew) (o := 4) (p := p) tIb _ (HI4.out.below (w' := w4.drew) (Below.refl _ _).drew).hp (riseI I s.1).ms rfl rfl rfl (HI4.out.below (w' := w4.drew) (Below.refl _ _).drew).r2 HSS.out c hT HI4.out.ok.s0 (by have h9 : (riseI I s.1).ms ≤ 4096 := HI4.out.ok.s1; omega) HI4.out.lenG
  go_wp2
  refine wp_region_noPanic ?_
  refine wp_region_held_drew (S := (fun u => u.cell? ⟨P, 0, none⟩ = some (.int .u64 (s.1 : Int)) ∧ u.cell? ⟨P, 1, none⟩ = some (.int .u64 (s.2 : Int)))) (by kernel_rfl) (by first | exact hk4 | exact HK5.out | assumption) (fun hHeld => ?_)
  refine take_at (i := 0) 57 (v := ?_) rfl rfl (by kernel_rfl) (by kernel_rfl) (by kernel_rfl) (fun _ _ _ h => h) (by rfl) ?_ hHeld ?_
  rotate_left
  · (intro w hSw; (try dsimp only at hSw); go_simp; try with_reducible rfl)
  simp only [Act.put, List.setIfInBounds_toArray, List.set_cons_zero, List.set_cons_succ]
  refine take_at (i := 1) 58 (v := ?_) rfl rfl (by kernel_rfl) (by kernel_rfl) (by kernel_rfl) (fun _ _ _ h => h) (by rfl) ?_ hHeld ?_
  rotate_left
  · (intro w hSw; (try dsimp only at hSw); go_simp; try with_reducible rfl)
  simp only [Act.put, List.setIfInBounds_toArray, List.set_cons_zero, List.set_cons_succ]
  refine take_at (i := 2) 59 (v := ?_) rfl rfl (by kernel_rfl) (by kernel_rfl) (by kernel_rfl) (fun _ _ _ h => h) (by rfl) ?_ hHeld ?_
  rotate_left
  · (intro w hSw; (try dsimp only at hSw); go_simp; try with_reducible rfl)
  simp only [Act.put, List.setIfInBounds_toArray, List.set_cons_zero, List.set_cons_succ]
  refine take_at (i := 3) 60 (v := ?_) rfl rfl (by kernel_rfl) (by kernel_rfl) (by kernel_rfl) (fun _ _ _ h => h) (by rfl) ?_ hHeld ?_
  rotate_left
  · (intro w hSw; (try dsimp only at hSw); go_simp; try with_reducible rfl)
  simp only [Act.put, List.setIfInBounds_toArray, List.set_cons_zero, List.set_cons_succ]
  refine take_at (i := 4) 61 (v := ?_) rfl rfl (by kernel_rfl) (by kernel_rfl) (by kernel_rfl) (fun _ _ _ h => h) (by rfl) ?_ hHeld ?_
  rotate_left
  · (intro w hSw; (try dsimp only at hSw); go_simp; try with_reducible rfl)
  simp only [Act.put, List.setIfInBounds_toArray, List.set_cons_zero, List.set_cons_succ]
  refine run_at (i := 5) rfl (by kernel_rfl) (by rfl) (fun K hK => ?_)
  simp only [List.getElem_toArray, List.getElem_cons_zero, List.getElem_cons_succ]
  go_simp
  (go_at_call 37; refine Calls.mono HPUT.out ?_; rintro e w5 ⟨rfl, hr5, hp5, hc5⟩; have HC5 : Hid (Chg (fun b => b = p ∨ b = m2) w4 w5) := ((Chg.refl (fun b => b = p ∨ b = m2) w4).drew).trans hc5 (fun b hb => .inl hb); have HKY5 : Hid (w5.heap[P]? = _) := (HC5.out.block P (Array.getElem?_eq_some_iff.1 HKY4.out).1 (fun h9 => by have := HLT3.out P (HFT.out P (h9.elim .inl (fun h8 => .inr (.inr (.inl h8))))); omega)).trans HKY4.out; have HK5 : Hid (w5.cell? ⟨P, 0, none⟩ = some (.int .u64 (s.1 : Int)) ∧ w5.cell? ⟨P, 1, none⟩ = some (.int .u64 (s.2 : Int))) := ⟨(by rw [cell_of_row _ _ _ _ _ _ HKY5.out]; rfl), (by rw [cell_of_row _ _ _ _ _ _ HKY5.out]; rfl)⟩; have HI5 : Hid _ := Ibx.dec (s := s) HI4.out (riseI_ep he).symm (fun h9 => (mem_ks_rm.1 h9).2 rfl) c hr5 hp5 HC5.out; clear hr5 hp5 hc5)
  go_wp2_with fail
  refine hK.out _ _ (by first | exact hk4 | exact HK5.out | assumption) ?_
  clear hK K
  intro hHeld2
  clear hHeld
  have hHeld := hHeld2
  clear hHeld2
  try simp only [Act.put, List.setIfInBounds_toArray, List.set_cons_zero, List.set_cons_succ]
  refine wpAnyH_done (by kernel_rfl) ?_ _
  refine NoPanic.normal ?_
  go_wp2
  go_ret
  refine ⟨rfl, T2 + 1, _, _, HI5.out, Nat.le_refl _, (HCH3.out.trans HC4.out (fun b hb => .inl (HFT.out b (.inr (.inl hb))))).trans HC5.out (fun b hb => .inl (HFT.out b (hb.elim .inl (fun h8 => .inr (.inr (.inl h8)))))), fun b hb => HFT.out b ?_⟩
  rcases hb with hb | hb | hb | ⟨x, hx, ho, hb⟩
  · exact .inl hb
  · exact .inr (.inl hb)
  · exact .inr (.inr (.inl hb))
  · exact .inr (.inr (.inr ⟨x, (mem_rm.1 hx).1, ho, hb⟩))
end
end Go.Proofs.YtkdgjfjcpgiokaaGreat
