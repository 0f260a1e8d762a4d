import Derived.Test.YtinphflminaijabDoorRefNum
import Derived.Test.YtinphflminaijabDoorHelp
import Derived.Test.YtinphflminaijabDoorConv
import Derived.Test.YtinphflminaijabDoorOpen
namespace Go.Proofs.YtinphflminaijabDoor
set_option linter.unusedVariables false
set_option linter.unusedSimpArgs false
open Go.RowKit
theorem len_marksN (xs : List UInt8) : (xs ++ marksL).length = xs.length + 8 := by simp [marksL]
theorem Rd.of_ownN {w : World} {B : Nat} {ao : Option Addr} {n cap : Nat} {xs : List UInt8} (h : Own w B (.slice ao n cap) xs) : Rd w ao xs := by
  obtain ⟨a, c, hv, -, -, -, hr, -⟩ := h.val
  simp only [Value.slice.injEq] at hv
  rw [hv.1]
  exact hr
set_option maxRecDepth 20000 in
set_option maxHeartbeats 1600000 in
theorem number_law (a0 : Option Addr) (cap0 : Nat) (xs0 : List UInt8) (w : World) (hr0 : Rd w a0 xs0) (hl0 : xs0.length ≤ cap0) (hl1 : xs0.length ≤ 140737488351232) (hn0 : a0 = none → cap0 = 0) :
    Calls Tryd.prog 12 #[.slice a0 xs0.length cap0] w fun e w' => e = .returned (.bool true) ∧ Below w.heap.size w w' := by
  have HN : Hid (a0 = none → cap0 = 0) := hn0
  clear hn0
  have HV : Hid (∀ xs, numV xs = .tuple #[.int .u64 ((numS xs).1 : Nat), .int .i64 ((numS xs).2.1 : Nat), .int .i64 ((numS xs).2.2 : Nat)]) := fun _ => rfl
  go_enter Tryd.func12, Tryd.ntmps12
  go_wp2_with fail
  refine (lent_any a0 cap0 xs0 w hr0 HN.out (by omega)).mono ?_
  rintro e w1 ⟨v1, rfl, hown1, hb1⟩
  obtain ⟨g, c1, rfl, hlc1, -, hgB, hgl⟩ := own_head hown1 (by rw [len_marksN]; omega)
  rw [len_marksN] at hlc1 hown1 ⊢
  have hra : Rd w1 (some ⟨g, 0, none⟩) xs0 := by
    have h := (Rd.of_ownN hown1).take xs0.length
    rwa [List.take_left' rfl] at h
  have hc1 : (xs0.length : Int) ≤ (c1 : Int) := by omega
  go_wp2_with fail
  refine (number_n _ _ c1 xs0 rfl w1 hra (by omega) (by omega)).mono ?_
  rintro e w2 ⟨rfl, hw2⟩
  have hw2' := hw2.symm
  subst hw2'
  rw [HV.out]
  have hr1 := hr0.below hb1
  go_wp2_with fail
  refine (refNumber_n a0 _ cap0 xs0 rfl w1 hr1 (by omega)).mono ?_
  rintro e w3 ⟨rfl, hw3⟩
  have hw3' := hw3.symm
  subst hw3'
  rw [HV.out]
  generalize (numS xs0).1 = q1
  generalize (numS xs0).2.1 = q2
  generalize (numS xs0).2.2 = q3
  go_wp2_with (first | (go_at_call 17; refine (stays_n _ _ c1 (xs0 ++ marksL) (len_marksN _).symm a0 _ cap0 xs0 rfl w1 (Rd.of_ownN hown1) hr1 (by omega) rfl).mono ?_; rintro e w4 ⟨rfl, hw4⟩; have hw4' := hw4.symm; subst hw4') | (go_at_call 37; go_in))
  refine (turned_any _ g c1 xs0 w1 hown1 (by omega) hlc1).mono ?_
  rintro e w7 ⟨v7, rfl, hown7, hoa7, hg7⟩
  have hbw7 : Below w.heap.size w w7 := hb1.grown hg7 hb1.size (fun k hk => by cases hk; exact hgB)
  obtain ⟨a7, c7, hv7, hlc7, -, hn7, hr7, hblk7⟩ := hown7.val
  rw [xorL_len] at hv7 hlc7
  subst hv7
  have hra7 : Rd w7 (some ⟨g, 0, none⟩) (xorL 21 xs0) := by
    have h := (Rd.of_ownN hoa7).take (xorL 21 xs0).length
    rwa [List.take_left' rfl] at h
  have HXL : Hid (xs0.length = (xorL 21 xs0).length) := (xorL_len 21 xs0).symm
  clear hn7 hown1 hra
  go_wp2_with fail
  refine (number_n _ _ c1 (xorL 21 xs0) HXL.out w7 hra7 (by omega) (by omega)).mono ?_
  rintro e w8 ⟨rfl, hw8⟩
  have hw8' := hw8.symm
  subst hw8'
  rw [HV.out]
  go_wp2_with fail
  refine (refNumber_n a7 _ c7 (xorL 21 xs0) HXL.out w7 hr7 (by omega)).mono ?_
  rintro e w9 ⟨rfl, hw9⟩
  have hw9' := hw9.symm
  subst hw9'
  rw [HV.out]
  generalize (numS (xorL 21 xs0)).1 = p1
  generalize (numS (xorL 21 xs0)).2.1 = p2
  generalize (numS (xorL 21 xs0)).2.2 = p3
  go_wp2
  go_ret
  exact ⟨rfl, hbw7⟩
set_option maxRecDepth 20000 in
set_option maxHeartbeats 400000 in
theorem octetNumbers_walk (a0 : Option Addr) (cap0 : Nat) (xs0 : List UInt8) (w : World) (hr0 : Rd w a0 xs0) (hl0 : xs0.length ≤ cap0) (hc0 : cap0 ≤ 140737488351232) (hn0 : a0 = none → cap0 = 0) (ht : TabOk w) :
    Calls Tryd.prog 4 #[.slice a0 xs0.length cap0] w fun e w' => e = .returned (.bool true) ∧ Below w.heap.size w w' := by
  have HN : Hid (a0 = none → cap0 = 0) := hn0
  clear hn0
  go_enter Tryd.func4, Tryd.ntmps4
  go_wp2_with fail
  refine (knows_any _ ht).mono ?_
  rintro e wk ⟨rfl, hbk⟩
  go_wp2_with fail
  refine (number_law a0 cap0 xs0 wk (hr0.below hbk) hl0 (by omega) HN.out).mono ?_
  rintro e w2 ⟨rfl, hb2⟩
  go_wp2
  go_ret
  exact ⟨rfl, below_next hbk hb2⟩
end Go.Proofs.YtinphflminaijabDoor
