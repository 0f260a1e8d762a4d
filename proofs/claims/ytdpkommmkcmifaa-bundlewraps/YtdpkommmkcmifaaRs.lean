import Derived.Test.YtdpkommmkcmifaaFind
import Derived.Test.YtdpkommmkcmifaaRNew
import Derived.Test.YtdpkommmkcmifaaRdr5
namespace Go.Proofs.Ytdpkommmkcmifaa
set_option linter.unusedVariables false
set_option linter.unusedSimpArgs false
open Go.RowKit
/-- a Reader: all its memory lies from block B on; what it has ahead, its fault -/
def RS (w : World) (p B : Nat) (ys : List UInt8) (f : Int) : Prop :=
  ∃ ao cap xs pl, RdrAt w p ao cap xs pl f ∧ xs.drop pl = ys ∧ B ≤ p ∧ ∀ a, ao = some a → B ≤ a.block ∧ a.block < p
theorem RS.grown {w w' : World} {p B : Nat} {ys : List UInt8} {f : Int} {r : Nat} (h : RS w p B ys f) (hg : w.grownBy w' (some r)) (hr : r < B ∨ p < r) : RS w' p B ys f := by
  obtain ⟨ao, cap, xs, pl, h1, h2, h3, h4⟩ := h
  exact ⟨ao, cap, xs, pl, h1.grown hg (by simp; omega) (fun a ha => by have := h4 a ha; simp; omega), h2, h3, h4⟩
theorem RS.below {w w' : World} {p B : Nat} {ys : List UInt8} {f : Int} (h : RS w p B ys f) (hb : Below w.heap.size w w') : RS w' p B ys f := by
  obtain ⟨ao, cap, xs, pl, h1, h2, h3, h4⟩ := h
  exact ⟨ao, cap, xs, pl, h1.below hb, h2, h3, h4⟩
theorem RS.set {w : World} {p B : Nat} {ys : List UInt8} {f : Int} (h : RS w p B ys f) (r i : Nat) (v : Value) (hr : r < B ∨ p < r) : RS (w.setCell ⟨r, i, none⟩ v) p B ys f := h.grown (gr_set (World.grownBy.refl _ _) _ _) hr
theorem RS.ge {w : World} {p B : Nat} {ys : List UInt8} {f : Int} (h : RS w p B ys f) : B ≤ p := by obtain ⟨_, _, _, _, _, _, h3, _⟩ := h; exact h3
theorem RS.len {w : World} {p B : Nat} {ys : List UInt8} {f : Int} (h : RS w p B ys f) : ys.length ≤ 140737488355328 := by
  obtain ⟨_, _, xs, pl, h1, h2, h3, _⟩ := h
  have := h1.hl
  rw [← h2, List.length_drop]
  omega
theorem RS.lt {w : World} {p B : Nat} {ys : List UInt8} {f : Int} (h : RS w p B ys f) : p < w.heap.size := by
  obtain ⟨_, _, _, _, h1, _, _, _⟩ := h
  exact World.block_lt_of_cell? w _ h1.c0
theorem gr_box {w w' : World} {p g : Nat} {c : Obj} (hg : w.grownBy w' (some p)) (hne : g ≠ p) (h : w.heap[g]? = some c) : w'.heap[g]? = some c :=
  (hg.block g (Array.getElem?_eq_some_iff.1 h).1 (by simp; omega)).trans h
theorem new_s (ao : Option Addr) (cap : Nat) (xs : List UInt8) (w : World) (hx : Rd w ao xs) (hnil : ao = none → cap = 0) (hl : xs.length ≤ 140737488355328) :
    Calls Try.prog 36 #[.slice ao xs.length cap] w fun e w' => ∃ p, e = .returned (.pointer (some ⟨p, 0, none⟩)) ∧ RS w' p w.heap.size xs 0 ∧ Below w.heap.size w w' := by
  refine (new_r ao _ cap xs rfl w hx hnil hl).mono ?_
  rintro e w' ⟨p, ao', cap', rfl, h1, h2, h3, h4⟩
  exact ⟨p, rfl, ⟨ao', cap', xs, 0, h1, rfl, h3, fun a ha => h4 a ha⟩, h2⟩
theorem number_s {p B : Nat} {ys : List UInt8} {f : Int} (m : Nat) (w : World) (h : RS w p B ys f) :
    Calls Try.prog 59 #[.pointer (some ⟨p, 0, none⟩), .int .u64 m] w fun e w' => e = .returned (.int .u64 ((rNum m ys f).1 : Nat)) ∧ RS w' p B (ys.drop (rNum m ys f).2.1) (rNum m ys f).2.2 ∧ w.grownBy w' (some p) := by
  obtain ⟨ao, cap, xs, pl, h1, rfl, h3, h4⟩ := h
  refine (number_r m w h1).mono ?_
  rintro e w' ⟨rfl, k1, k2⟩
  exact ⟨rfl, ⟨ao, cap, xs, _, k1, by rw [List.drop_drop], h3, h4⟩, k2⟩
theorem end_s {p B : Nat} {ys : List UInt8} {f : Int} (w : World) (h : RS w p B ys f) :
    Calls Try.prog 38 #[.pointer (some ⟨p, 0, none⟩)] w fun e w' => e = .returned (.int .i64 (rEnd ys f)) ∧ RS w' p B ys (rEnd ys f) ∧ w.grownBy w' (some p) := by
  obtain ⟨ao, cap, xs, pl, h1, rfl, h3, h4⟩ := h
  refine (end_r w h1).mono ?_
  rintro e w' ⟨rfl, k1, k2⟩
  exact ⟨rfl, ⟨ao, cap, xs, _, k1, rfl, h3, h4⟩, k2⟩
def mustF (r : Bool) (f : Int) : Int := if r = true then f else if f = 0 then 20 else f
theorem must_s {p B : Nat} {ys : List UInt8} {f : Int} (r : Bool) (w : World) (h : RS w p B ys f) :
    Calls Try.prog 57 #[.pointer (some ⟨p, 0, none⟩), .bool r] w fun e w' => e = .returned (.tuple #[]) ∧ RS w' p B ys (mustF r f) ∧ w.grownBy w' (some p) := by
  obtain ⟨ao, cap, xs, pl, h1, h2, h3, h4⟩ := h
  cases r
  · go_enter Try.func57, Try.ntmps57
    go_wp2_with fail
    refine (fail_r 20 w h1).mono ?_
    rintro e w' ⟨rfl, k1, k2⟩
    go_wp2
    go_end0
    exact ⟨rfl, ⟨ao, cap, xs, pl, by unfold mustF; simpa using k1, h2, h3, h4⟩, k2⟩
  · go_enter Try.func57, Try.ntmps57
    go_wp2
    go_end0
    exact ⟨rfl, ⟨ao, cap, xs, pl, by unfold mustF; simpa using h1, h2, h3, h4⟩, World.grownBy.refl _ _⟩
theorem boxc2 {W : World} {g : Nat} {t : TypeId} {v0 v1 : Value} (h : W.heap[g]? = some (.cells #[v0, v1] t (0, 0))) : W.cell? ⟨g, 0, none⟩ = some v0 ∧ W.cell? ⟨g, 1, none⟩ = some v1 ∧ W.frozen? ⟨g, 0, none⟩ = false ∧ W.frozen? ⟨g, 1, none⟩ = false :=
  ⟨by rw [cell_of_row W g 0 _ t _ h]; rfl, by rw [cell_of_row W g 1 _ t _ h]; rfl, frozen_of_row W g 0 _ t h, frozen_of_row W g 1 _ t h⟩
theorem below_set2 {W w : World} {g : Nat} {v0 v1 : Value} (h : Below W.heap.size W w) (hg : W.heap.size ≤ g) : Below W.heap.size W ((w.setCell ⟨g, 0, none⟩ v0).setCell ⟨g, 1, none⟩ v1) :=
  Below.setCell (p := ⟨g, _, none⟩) (Below.setCell (p := ⟨g, _, none⟩) (h) hg _) hg _
theorem heap_set2 {w : World} {g : Nat} {t : TypeId} {u0 u1 v0 v1 : Value} (h : w.heap[g]? = some (.cells #[u0, u1] t (0, 0))) : ((w.setCell ⟨g, 0, none⟩ v0).setCell ⟨g, 1, none⟩ v1).heap[g]? = some (.cells #[v0, v1] t (0, 0)) := by
  have h0 := heap_setCell_same _ g 0 _ t v0 h
  simp only [List.setIfInBounds_toArray, List.set_cons_zero, List.set_cons_succ] at h0
  have h1 := heap_setCell_same _ g 1 _ t v1 h0
  simp only [List.setIfInBounds_toArray, List.set_cons_zero, List.set_cons_succ] at h1
  exact h1
theorem gr_set2 {w : World} {g : Nat} {v0 v1 : Value} : w.grownBy ((w.setCell ⟨g, 0, none⟩ v0).setCell ⟨g, 1, none⟩ v1) (some g) :=
  gr_set (gr_set (World.grownBy.refl _ _) _ _) _ _
theorem boxc3 {W : World} {g : Nat} {t : TypeId} {v0 v1 v2 : Value} (h : W.heap[g]? = some (.cells #[v0, v1, v2] t (0, 0))) : W.cell? ⟨g, 0, none⟩ = some v0 ∧ W.cell? ⟨g, 1, none⟩ = some v1 ∧ W.cell? ⟨g, 2, none⟩ = some v2 ∧ W.frozen? ⟨g, 0, none⟩ = false ∧ W.frozen? ⟨g, 1, none⟩ = false ∧ W.frozen? ⟨g, 2, none⟩ = false :=
  ⟨by rw [cell_of_row W g 0 _ t _ h]; rfl, by rw [cell_of_row W g 1 _ t _ h]; rfl, by rw [cell_of_row W g 2 _ t _ h]; rfl, frozen_of_row W g 0 _ t h, frozen_of_row W g 1 _ t h, frozen_of_row W g 2 _ t h⟩
theorem below_set3 {W w : World} {g : Nat} {v0 v1 v2 : Value} (h : Below W.heap.size W w) (hg : W.heap.size ≤ g) : Below W.heap.size W (((w.setCell ⟨g, 0, none⟩ v0).setCell ⟨g, 1, none⟩ v1).setCell ⟨g, 2, none⟩ v2) :=
  Below.setCell (p := ⟨g, _, none⟩) (Below.setCell (p := ⟨g, _, none⟩) (Below.setCell (p := ⟨g, _, none⟩) (h) hg _) hg _) hg _
theorem heap_set3 {w : World} {g : Nat} {t : TypeId} {u0 u1 u2 v0 v1 v2 : Value} (h : w.heap[g]? = some (.cells #[u0, u1, u2] t (0, 0))) : (((w.setCell ⟨g, 0, none⟩ v0).setCell ⟨g, 1, none⟩ v1).setCell ⟨g, 2, none⟩ v2).heap[g]? = some (.cells #[v0, v1, v2] t (0, 0)) := by
  have h0 := heap_setCell_same _ g 0 _ t v0 h
  simp only [List.setIfInBounds_toArray, List.set_cons_zero, List.set_cons_succ] at h0
  have h1 := heap_setCell_same _ g 1 _ t v1 h0
  simp only [List.setIfInBounds_toArray, List.set_cons_zero, List.set_cons_succ] at h1
  have h2 := heap_setCell_same _ g 2 _ t v2 h1
  simp only [List.setIfInBounds_toArray, List.set_cons_zero, List.set_cons_succ] at h2
  exact h2
theorem gr_set3 {w : World} {g : Nat} {v0 v1 v2 : Value} : w.grownBy (((w.setCell ⟨g, 0, none⟩ v0).setCell ⟨g, 1, none⟩ v1).setCell ⟨g, 2, none⟩ v2) (some g) :=
  gr_set (gr_set (gr_set (World.grownBy.refl _ _) _ _) _ _) _ _
def mxN : Nat := 281474976710655
def ageS (xs : List UInt8) : Nat × Int := ((rNum 281474976710655 xs 0).1, rEnd (xs.drop (rNum 281474976710655 xs 0).2.1) (rNum 281474976710655 xs 0).2.2)
set_option maxRecDepth 20000 in
set_option maxHeartbeats 800000 in
theorem readAge_any (ao : Option Addr) (cap : Nat) (xs : List UInt8) (w : World) (hx : Rd w ao xs) (hnil : ao = none → cap = 0) (hl : xs.length ≤ 140737488355328) :
    Calls Try.prog 53 #[.slice ao xs.length cap] w fun e w' => e = .returned (.agg #[.int .u64 ((ageS xs).1 : Nat), .int .i64 (ageS xs).2]) ∧ Below w.heap.size w w' := by
  obtain ⟨W0, hW0⟩ : ∃ W0 : World, W0 = w.alloc (.cells #[.int .u64 0, .int .i64 0] 104) := ⟨_, rfl⟩
  have hR : W0.heap[w.heap.size]? = some (.cells #[.int .u64 0, .int .i64 0] 104 (0, 0)) := by rw [hW0]; exact heap_alloc_new w _
  have hb0 : Below w.heap.size w W0 := by rw [hW0]; exact al (Below.refl _ _) _
  have hs0 : W0.heap.size = w.heap.size + 1 := by rw [hW0]; simp
  have HN : Hid (ao = none → cap = 0) := hnil
  clear hnil
  go_enter Try.func53, Try.ntmps53
  go_wp2_with fail
  rw [← hW0]
  clear hW0
  refine (new_s ao cap xs W0 (hx.below hb0) HN.out hl).mono ?_
  rintro e w1 ⟨p, rfl, hrs1, hb1⟩
  have hpl := hrs1.ge
  have hR1 := box_on hR hb1
  go_wp2_with fail
  refine (number_s 281474976710655 w1 hrs1).mono ?_
  rintro e w2 ⟨rfl, hrs2, hg2⟩
  have hR2 := gr_box hg2 (by omega) hR1
  obtain ⟨n, hn⟩ : ∃ n, n = (rNum 281474976710655 xs 0).1 := ⟨_, rfl⟩
  obtain ⟨k, hk⟩ : ∃ n, n = (rNum 281474976710655 xs 0).2.1 := ⟨_, rfl⟩
  obtain ⟨f, hf⟩ : ∃ n, n = (rNum 281474976710655 xs 0).2.2 := ⟨_, rfl⟩
  have HA : Hid (ageS xs = (n, rEnd (xs.drop k) f)) := by unfold Hid ageS; rw [hn, hk, hf]
  rw [← hn]
  rw [← hk, ← hf] at hrs2
  clear hn hk hf
  obtain ⟨r0, r1, e0, e1⟩ := boxc2 hR2
  have hrs3 := hrs2.set w.heap.size 0 (.int .u64 n) (by omega)
  have hR3 := heap_set1 (i := 0) (v := .int .u64 n) hR2
  go_wp2_with fail
  refine (end_s _ hrs3).mono ?_
  rintro e w4 ⟨rfl, hrs4, hg4⟩
  have hR4 := gr_box hg4 (by omega) hR3
  have hR5 := heap_set1 (i := 1) (v := .int .i64 (rEnd (xs.drop k) f)) hR4
  obtain ⟨r0, r1, e0, e1⟩ := boxc2 hR4
  have hbw4 : Below w.heap.size w w4 := ((Below.setCell (p := ⟨w.heap.size, 0, none⟩) ((below_next hb0 hb1).grown hg2 (below_next hb0 hb1).size (fun j hj => by cases hj; omega)) (Nat.le_refl _) (.int .u64 n)).grown hg4 (by have := hg2.size; have := (below_next hb0 hb1).size; simp; omega) (fun j hj => by cases hj; omega))
  go_wp2
  have hfin := heap_set2 (v0 := .int .u64 n) (v1 := .int .i64 (rEnd (xs.drop k) f)) hR5
  refine bodyPost_ret (results_cell_row rfl _ _ w.heap.size 104 _ (0, 0) _ rfl hfin Try.underlying104 rfl (by kernel_rfl)) rfl ?_
  exact ⟨by rw [HA.out], below_set2 (Below.setCell (p := ⟨w.heap.size, 1, none⟩) hbw4 (Nat.le_refl _) _) (Nat.le_refl _)⟩
/-- the endpoint at the Reader's place -/
def eidS (ys : List UInt8) (f : Int) : Nat × Nat × Nat × Int := ((rNum 281474976710655 ys f).1, (rNum 281474976710655 (ys.drop (rNum 281474976710655 ys f).2.1) (rNum 281474976710655 ys f).2.2).1, (rNum 281474976710655 ys f).2.1 + (rNum 281474976710655 (ys.drop (rNum 281474976710655 ys f).2.1) (rNum 281474976710655 ys f).2.2).2.1, (rNum 281474976710655 (ys.drop (rNum 281474976710655 ys f).2.1) (rNum 281474976710655 ys f).2.2).2.2)
theorem grown_add {a b c : World} {row row' : Option Nat} (h : a.grownBy b row) (k : b.grownBy c row') (hr : row' = row ∨ ∀ j, row' = some j → a.heap.size ≤ j) : a.grownBy c row := grown_step h k hr
set_option maxRecDepth 20000 in
set_option maxHeartbeats 800000 in
theorem readEID_s {p B : Nat} {ys : List UInt8} {f : Int} (w : World) (h : RS w p B ys f) :
    Calls Try.prog 60 #[.pointer (some ⟨p, 0, none⟩)] w fun e w' => e = .returned (.agg #[.int .u64 ((eidS ys f).1 : Nat), .int .u64 ((eidS ys f).2.1 : Nat)]) ∧ RS w' p B (ys.drop (eidS ys f).2.2.1) (eidS ys f).2.2.2 ∧ w.grownBy w' (some p) := by
  obtain ⟨W0, hW0⟩ : ∃ W0 : World, W0 = w.alloc (.cells #[.int .u64 0, .int .u64 0] 31) := ⟨_, rfl⟩
  have hR : W0.heap[w.heap.size]? = some (.cells #[.int .u64 0, .int .u64 0] 31 (0, 0)) := by rw [hW0]; exact heap_alloc_new w _
  have hb0 : Below w.heap.size w W0 := by rw [hW0]; exact al (Below.refl _ _) _
  have hpw := h.lt
  go_enter Try.func60, Try.ntmps60
  go_wp2_with fail
  rw [← hW0]
  clear hW0
  refine (number_s 281474976710655 W0 (h.below hb0)).mono ?_
  rintro e w2 ⟨rfl, hrs2, hg2⟩
  have hR2 := gr_box hg2 (by omega) hR
  obtain ⟨n, hn⟩ : ∃ n, n = (rNum 281474976710655 ys f).1 := ⟨_, rfl⟩
  obtain ⟨k, hk⟩ : ∃ n, n = (rNum 281474976710655 ys f).2.1 := ⟨_, rfl⟩
  obtain ⟨f2, hf⟩ : ∃ n, n = (rNum 281474976710655 ys f).2.2 := ⟨_, rfl⟩
  have HA : Hid (eidS ys f = (n, (rNum 281474976710655 (ys.drop k) f2).1, k + (rNum 281474976710655 (ys.drop k) f2).2.1, (rNum 281474976710655 (ys.drop k) f2).2.2)) := by unfold Hid eidS; rw [hn, hk, hf]
  rw [← hn]
  rw [← hk, ← hf] at hrs2
  clear hn hk hf
  obtain ⟨r0, r1, e0, e1⟩ := boxc2 hR2
  have hrs3 := hrs2.set w.heap.size 0 (.int .u64 n) (.inr hpw)
  have hR3 := heap_set1 (i := 0) (v := .int .u64 n) hR2
  go_wp2_with fail
  refine (number_s 281474976710655 _ hrs3).mono ?_
  rintro e w4 ⟨rfl, hrs4, hg4⟩
  have hR4 := gr_box hg4 (by omega) hR3
  obtain ⟨n', hn⟩ : ∃ n, n = (rNum 281474976710655 (ys.drop k) f2).1 := ⟨_, rfl⟩
  rw [← hn] at HA ⊢
  clear hn
  have hR5 := heap_set1 (i := 1) (v := .int .u64 n') hR4
  obtain ⟨r0, r1, e0, e1⟩ := boxc2 hR4
  go_wp2
  have hfin := heap_set2 (v0 := .int .u64 n) (v1 := .int .u64 n') hR5
  refine bodyPost_ret (results_cell_row rfl _ _ w.heap.size 31 _ (0, 0) _ rfl hfin Try.underlying31 rfl (by kernel_rfl)) rfl ?_
  have hsz : w.heap.size ≤ W0.heap.size := hb0.size
  have g1 : w.grownBy w2 (some p) := grown_step (gr_below (World.grownBy.refl _ _) hb0) hg2 (.inl rfl)
  have g2 := grown_step g1 (gr_set (p := w.heap.size) (World.grownBy.refl w2 _) 0 (.int .u64 n)) (.inr (fun j hj => by cases hj; exact Nat.le_refl _))
  have g3 := grown_step g2 hg4 (.inl rfl)
  have g4 := grown_step g3 (gr_set (p := w.heap.size) (World.grownBy.refl w4 _) 1 (.int .u64 n')) (.inr (fun j hj => by cases hj; exact Nat.le_refl _))
  have g5 := grown_step g4 (gr_set2 (g := w.heap.size) (v0 := .int .u64 n) (v1 := .int .u64 n')) (.inr (fun j hj => by cases hj; exact Nat.le_refl _))
  rw [HA.out]
  refine ⟨rfl, ?_, g5⟩
  simp only
  rw [← List.drop_drop]
  exact ((hrs4.set w.heap.size 1 _ (.inr hpw)).set w.heap.size 0 _ (.inr hpw)).set w.heap.size 1 _ (.inr hpw)
def prevS (xs : List UInt8) : Nat × Nat × Int := ((eidS xs 0).1, (eidS xs 0).2.1, rEnd (xs.drop (eidS xs 0).2.2.1) (eidS xs 0).2.2.2)
end Go.Proofs.Ytdpkommmkcmifaa
