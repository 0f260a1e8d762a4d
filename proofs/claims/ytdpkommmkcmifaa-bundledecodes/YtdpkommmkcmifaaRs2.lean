import Derived.Test.YtdpkommmkcmifaaRs
namespace Go.Proofs.Ytdpkommmkcmifaa
set_option linter.unusedVariables false
set_option linter.unusedSimpArgs false
open Go.RowKit
set_option maxRecDepth 20000 in
set_option maxHeartbeats 800000 in
theorem readPrevious_any (ao : Option Addr) (cap : Nat) (xs : List UInt8) (w : World) (hx : Rd w ao xs) (hnil : ao = none → cap = 0) (hl : xs.length ≤ 140737488355328) :
    Calls Try.prog 88 #[.slice ao xs.length cap] w fun e w' => e = .returned (.agg #[.int .u64 ((prevS xs).1 : Nat), .int .u64 ((prevS xs).2.1 : Nat), .int .i64 (prevS xs).2.2]) ∧ Below w.heap.size w w' := by
  obtain ⟨W0, hW0⟩ : ∃ W0 : World, W0 = w.alloc (.cells #[.int .u64 0, .int .u64 0, .int .i64 0] 141) := ⟨_, rfl⟩
  have hR : W0.heap[w.heap.size]? = some (.cells #[.int .u64 0, .int .u64 0, .int .i64 0] 141 (0, 0)) := by rw [hW0]; exact heap_alloc_new w _
  have hb0 : Below w.heap.size w W0 := by rw [hW0]; exact al (Below.refl _ _) _
  have hs0 : W0.heap.size = w.heap.size + 1 := by rw [hW0]; simp
  have HN : Hid (ao = none → cap = 0) := hnil
  clear hnil
  go_enter Try.func88, Try.ntmps88
  go_wp2_with fail
  rw [← hW0]
  clear hW0
  refine (new_s ao cap xs W0 (hx.below hb0) HN.out hl).mono ?_
  rintro e w1 ⟨p, rfl, hrs1, hb1⟩
  have hpl := hrs1.ge
  have hR1 := box_on hR hb1
  go_wp2_with fail
  refine (readEID_s w1 hrs1).mono ?_
  rintro e w2 ⟨rfl, hrs2, hg2⟩
  have hR2 := gr_box hg2 (by omega) hR1
  obtain ⟨n, hn⟩ : ∃ n, n = (eidS xs 0).1 := ⟨_, rfl⟩
  obtain ⟨n', hn'⟩ : ∃ n, n = (eidS xs 0).2.1 := ⟨_, rfl⟩
  obtain ⟨k, hk⟩ : ∃ n, n = (eidS xs 0).2.2.1 := ⟨_, rfl⟩
  obtain ⟨f, hf⟩ : ∃ n, n = (eidS xs 0).2.2.2 := ⟨_, rfl⟩
  have HA : Hid (prevS xs = (n, n', rEnd (xs.drop k) f)) := by unfold Hid prevS; rw [hn, hn', hk, hf]
  rw [← hn, ← hn']
  rw [← hk, ← hf] at hrs2
  clear hn hn' hk hf
  obtain ⟨r0, r1, r2, e0, e1, e2⟩ := boxc3 hR2
  have hrs3 := (hrs2.set w.heap.size 0 (.int .u64 n) (by omega)).set w.heap.size 1 (.int .u64 n') (by omega)
  have hR3 := heap_set1 (i := 1) (v := .int .u64 n') (heap_set1 (i := 0) (v := .int .u64 n) hR2)
  go_wp2_with fail
  refine (end_s _ hrs3).mono ?_
  rintro e w4 ⟨rfl, hrs4, hg4⟩
  have hR4 := gr_box hg4 (by omega) hR3
  have hR5 := heap_set1 (i := 2) (v := .int .i64 (rEnd (xs.drop k) f)) hR4
  obtain ⟨r0, r1, r2, e0, e1, e2⟩ := boxc3 hR4
  have hb01 := below_next hb0 hb1
  have hbw2 := hb01.grown hg2 hb01.size (fun j hj => by cases hj; omega)
  have hbw3 := Below.setCell (p := ⟨w.heap.size, 1, none⟩) (Below.setCell (p := ⟨w.heap.size, 0, none⟩) hbw2 (Nat.le_refl _) (.int .u64 n)) (Nat.le_refl _) (.int .u64 n')
  have hbw4 : Below w.heap.size w w4 := hbw3.grown hg4 hbw3.size (fun j hj => by cases hj; omega)
  go_wp2
  have hfin := heap_set3 (v0 := .int .u64 n) (v1 := .int .u64 n') (v2 := .int .i64 (rEnd (xs.drop k) f)) hR5
  refine bodyPost_ret (results_cell_row rfl _ _ w.heap.size 141 _ (0, 0) _ rfl hfin Try.underlying141 rfl (by kernel_rfl)) rfl ?_
  exact ⟨by rw [HA.out], below_set3 (Below.setCell (p := ⟨w.heap.size, 2, none⟩) hbw4 (Nat.le_refl _) _) (Nat.le_refl _)⟩
/-- limit, count, fault -/
def hopS (xs : List UInt8) : Nat × Nat × Int :=
  ((rNum 255 xs 0).1, (rNum (rNum 255 xs 0).1 (xs.drop (rNum 255 xs 0).2.1) (mustF (decide ((1 : Int) ≤ ((rNum 255 xs 0).1 : Nat))) (rNum 255 xs 0).2.2)).1,
    rEnd ((xs.drop (rNum 255 xs 0).2.1).drop (rNum (rNum 255 xs 0).1 (xs.drop (rNum 255 xs 0).2.1) (mustF (decide ((1 : Int) ≤ ((rNum 255 xs 0).1 : Nat))) (rNum 255 xs 0).2.2)).2.1) (rNum (rNum 255 xs 0).1 (xs.drop (rNum 255 xs 0).2.1) (mustF (decide ((1 : Int) ≤ ((rNum 255 xs 0).1 : Nat))) (rNum 255 xs 0).2.2)).2.2)
set_option maxRecDepth 20000 in
set_option maxHeartbeats 800000 in
theorem readHops_any (ao : Option Addr) (cap : Nat) (xs : List UInt8) (w : World) (hx : Rd w ao xs) (hnil : ao = none → cap = 0) (hl : xs.length ≤ 140737488355328) :
    Calls Try.prog 51 #[.slice ao xs.length cap] w fun e w' => e = .returned (.agg #[.int .u64 ((hopS xs).1 : Nat), .int .u64 ((hopS xs).2.1 : Nat), .int .i64 (hopS xs).2.2]) ∧ Below w.heap.size w w' := by
  obtain ⟨W0, hW0⟩ : ∃ W0 : World, W0 = w.alloc (.cells #[.int .u64 0, .int .u64 0, .int .i64 0] 100) := ⟨_, rfl⟩
  have hR : W0.heap[w.heap.size]? = some (.cells #[.int .u64 0, .int .u64 0, .int .i64 0] 100 (0, 0)) := by rw [hW0]; exact heap_alloc_new w _
  have hb0 : Below w.heap.size w W0 := by rw [hW0]; exact al (Below.refl _ _) _
  have hs0 : W0.heap.size = w.heap.size + 1 := by rw [hW0]; simp
  have HN : Hid (ao = none → cap = 0) := hnil
  clear hnil
  go_enter Try.func51, Try.ntmps51
  go_wp2_with fail
  rw [← hW0]
  clear hW0
  refine (new_s ao cap xs W0 (hx.below hb0) HN.out hl).mono ?_
  rintro e w1 ⟨p, rfl, hrs1, hb1⟩
  have hpl := hrs1.ge
  have hR1 := box_on hR hb1
  go_wp2_with fail
  refine (number_s 255 w1 hrs1).mono ?_
  rintro e w2 ⟨rfl, hrs2, hg2⟩
  have hR2 := gr_box hg2 (by omega) hR1
  obtain ⟨n, hn⟩ : ∃ n, n = (rNum 255 xs 0).1 := ⟨_, rfl⟩
  obtain ⟨k, hk⟩ : ∃ n, n = (rNum 255 xs 0).2.1 := ⟨_, rfl⟩
  obtain ⟨f, hf⟩ : ∃ n, n = (rNum 255 xs 0).2.2 := ⟨_, rfl⟩
  have HA : Hid (hopS xs = (n, (rNum n (xs.drop k) (mustF (decide ((1 : Int) ≤ (n : Nat))) f)).1, rEnd ((xs.drop k).drop (rNum n (xs.drop k) (mustF (decide ((1 : Int) ≤ (n : Nat))) f)).2.1) (rNum n (xs.drop k) (mustF (decide ((1 : Int) ≤ (n : Nat))) f)).2.2)) := by unfold Hid hopS; rw [hn, hk, hf]
  rw [← hn]
  rw [← hk, ← hf] at hrs2
  clear hn hk hf
  obtain ⟨r0, r1, r2, e0, e1, e2⟩ := boxc3 hR2
  have hrs3 := hrs2.set w.heap.size 0 (.int .u64 n) (by omega)
  have hR3 := heap_set1 (i := 0) (v := .int .u64 n) hR2
  go_wp2_with fail
  refine (must_s (decide ((1 : Int) ≤ (n : Nat))) _ hrs3).mono ?_
  rintro e w4 ⟨rfl, hrs4, hg4⟩
  have hR4 := gr_box hg4 (by omega) hR3
  obtain ⟨f2, hf2⟩ : ∃ f2, f2 = mustF (decide ((1 : Int) ≤ (n : Nat))) f := ⟨_, rfl⟩
  rw [← hf2] at HA hrs4
  clear hf2
  obtain ⟨r0, r1, r2, e0, e1, e2⟩ := boxc3 hR4
  go_wp2_with fail
  refine (number_s n w4 hrs4).mono ?_
  rintro e w5 ⟨rfl, hrs5, hg5⟩
  have hR5 := gr_box hg5 (by omega) hR4
  obtain ⟨c, hc⟩ : ∃ c, c = (rNum n (xs.drop k) f2).1 := ⟨_, rfl⟩
  obtain ⟨k2, hk2⟩ : ∃ c, c = (rNum n (xs.drop k) f2).2.1 := ⟨_, rfl⟩
  obtain ⟨f3, hf3⟩ : ∃ c, c = (rNum n (xs.drop k) f2).2.2 := ⟨_, rfl⟩
  rw [← hc]
  rw [← hk2, ← hf3] at hrs5
  rw [← hc, ← hk2, ← hf3] at HA
  clear hc hk2 hf3
  obtain ⟨r0, r1, r2, e0, e1, e2⟩ := boxc3 hR5
  have hrs6 := hrs5.set w.heap.size 1 (.int .u64 c) (by omega)
  have hR6 := heap_set1 (i := 1) (v := .int .u64 c) hR5
  go_wp2_with fail
  refine (end_s _ hrs6).mono ?_
  rintro e w7 ⟨rfl, hrs7, hg7⟩
  obtain ⟨E, hE⟩ : ∃ E, E = rEnd ((xs.drop k).drop k2) f3 := ⟨_, rfl⟩
  rw [← hE]
  rw [← hE] at HA
  clear hE
  have hR7 := gr_box hg7 (by omega) hR6
  have hR8 := heap_set1 (i := 2) (v := .int .i64 E) hR7
  obtain ⟨r0, r1, r2, e0, e1, e2⟩ := boxc3 hR7
  have hb01 := below_next hb0 hb1
  have hbw2 := hb01.grown hg2 hb01.size (fun j hj => by cases hj; omega)
  have hbw3 := Below.setCell (p := ⟨w.heap.size, 0, none⟩) hbw2 (Nat.le_refl _) (.int .u64 n)
  have hbw4 : Below w.heap.size w w4 := hbw3.grown hg4 hbw3.size (fun j hj => by cases hj; omega)
  have hbw5 : Below w.heap.size w w5 := hbw4.grown hg5 hbw4.size (fun j hj => by cases hj; omega)
  have hbw6 := Below.setCell (p := ⟨w.heap.size, 1, none⟩) hbw5 (Nat.le_refl _) (.int .u64 c)
  have hbw7 : Below w.heap.size w w7 := hbw6.grown hg7 hbw6.size (fun j hj => by cases hj; omega)
  go_wp2
  have hfin := heap_set3 (v0 := .int .u64 n) (v1 := .int .u64 c) (v2 := .int .i64 E) hR8
  refine bodyPost_ret (results_cell_row rfl _ _ w.heap.size 100 _ (0, 0) _ rfl hfin Try.underlying100 rfl (by kernel_rfl)) rfl ?_
  exact ⟨by rw [HA.out], below_set3 (Below.setCell (p := ⟨w.heap.size, 2, none⟩) hbw7 (Nat.le_refl _) _) (Nat.le_refl _)⟩
def holdsS (t : Nat) (xs : List UInt8) : Bool := if t = 6 then (prevS xs).2.2 == 0 else if t = 7 then (ageS xs).2 == 0 else if t = 10 then (hopS xs).2.2 == 0 else true
end Go.Proofs.Ytdpkommmkcmifaa
