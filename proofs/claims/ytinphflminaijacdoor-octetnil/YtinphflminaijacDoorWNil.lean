import Derived.Test.YtinphflminaijacDoorNil
import Derived.Test.YtinphflminaijacDoorHelp
import Derived.Test.YtinphflminaijacDoorOpen
namespace Go.Proofs.YtinphflminaijacDoor
set_option linter.unusedVariables false
set_option linter.unusedSimpArgs false
open Go.RowKit
theorem numV_56 : numV [5, 6] = .tuple #[.int .u64 5, .int .i64 1, .int .i64 0] := by kernel_rfl
set_option maxRecDepth 20000 in
set_option maxHeartbeats 800000 in
theorem ahead56 (p g c : Nat) (w : World) (hr : Rd w (some ⟨g, 0, none⟩) [5, 6]) (hc : 2 ≤ c) (h1 : w.cell? ⟨p, 1, none⟩ = some (.slice (some ⟨g, 0, none⟩) 2 c)) (h2 : w.cell? ⟨p, 2, none⟩ = some (.int .i64 0)) :
    Calls Tryd.prog 20 #[.pointer (some ⟨p, 0, none⟩), .int .u64 9] w fun e w' => e = .returned (.tuple #[.int .u64 5, .int .i64 1, .int .i64 0]) ∧ ∃ q, w' = w.drewN q := by
  have hcI : (2 : Int) ≤ (c : Int) := by omega
  have hc0 : ¬ c = 0 := by omega
  have hn : ∀ q : Nat, Calls Tryd.prog 18 #[.slice (some ⟨g, 0, none⟩) 2 c] (w.drewN q) fun e w' => e = .returned (.tuple #[.int .u64 5, .int .i64 1, .int .i64 0]) ∧ w' = w.drewN q := fun q => by
    have h := number_any (some ⟨g, 0, none⟩) c [5, 6] (w.drewN q) (hr.below (below_drewN (Below.refl _ _) q)) hc (by decide)
    rw [numV_56] at h
    exact h
  have HN : Hid _ := hn
  clear hn hc
  go_enter Tryd.func20, Tryd.ntmps20
  go_wp2
  go_quiet ((go_at_call 18; exact Calls.quiet_of_same (HN.out _)))
  go_wp2
  go_ret3
  exact ⟨rfl, _, rfl⟩
set_option maxRecDepth 20000 in
set_option maxHeartbeats 800000 in
theorem number56 (p g c : Nat) (w : World) (hr : Rd w (some ⟨g, 0, none⟩) [5, 6]) (hc : 2 ≤ c) (h0 : w.cell? ⟨p, 0, none⟩ = some (.bool true)) (h1 : w.cell? ⟨p, 1, none⟩ = some (.slice (some ⟨g, 0, none⟩) 2 c)) (h2 : w.cell? ⟨p, 2, none⟩ = some (.int .i64 0)) (h3 : w.cell? ⟨p, 3, none⟩ = some (.int .i64 0)) (hf : w.frozen? ⟨p, 2, none⟩ = false) :
    Calls Tryd.prog 9 #[.pointer (some ⟨p, 0, none⟩), .int .u64 9] w fun e w' => e = .returned (.int .u64 5) ∧ ∃ q, w' = (w.setCell ⟨p, 2, none⟩ (.int .i64 1)).drewN q := by
  go_enter Tryd.func9, Tryd.ntmps9
  go_wp2_with (go_at_call 10; go_in)
  refine (ahead56 p g c w hr hc h1 h2).mono ?_
  rintro e w1 ⟨rfl, q, rfl⟩
  go_wp2
  go_ret
  exact ⟨rfl, q, rfl⟩
theorem left56 (p : Nat) (ao : Option Addr) (c : Nat) (w : World) (h1 : w.cell? ⟨p, 1, none⟩ = some (.slice ao 2 c)) (h2 : w.cell? ⟨p, 2, none⟩ = some (.int .i64 0)) :
    Calls Tryd.prog 8 #[.pointer (some ⟨p, 0, none⟩)] w fun e w' => e = .returned (.int .i64 2) ∧ ∃ q, w' = w.drewN q := by
  go_enter Tryd.func8, Tryd.ntmps8
  go_wp2
  go_quiet (fail)
  go_wp2
  go_ret
  exact ⟨rfl, _, rfl⟩
theorem err_made (p : Nat) (w : World) (h0 : w.cell? ⟨p, 0, none⟩ = some (.bool true)) (h3 : w.cell? ⟨p, 3, none⟩ = some (.int .i64 0)) :
    Calls Tryd.prog 10 #[.pointer (some ⟨p, 0, none⟩)] w fun e w' => e = .returned (.int .i64 0) ∧ w' = w := by
  go_enter Tryd.func10, Tryd.ntmps10
  go_wp2
  go_ret
  exact ⟨rfl, rfl⟩
set_option maxRecDepth 20000 in
set_option maxHeartbeats 800000 in
theorem new_any (ao : Option Addr) (n cap : Nat) (xs : List UInt8) (hn : n = xs.length) (w : World) (hx : Rd w ao xs) (hnil : ao = none → cap = 0) (hl : n ≤ 140737488355328) :
    Calls Tryd.prog 6 #[.slice ao n cap] w fun e w' => ∃ v w1, e = .returned (.pointer (some ⟨w1.heap.size, 0, none⟩)) ∧ Own w1 w.heap.size v xs ∧ Below w.heap.size w w1 ∧ w' = w1.alloc (.cells #[.bool true, v, .int .i64 0, .int .i64 0] 33) := by
  subst hn
  have HN : Hid (ao = none → cap = 0) := hnil
  clear hnil
  go_enter Tryd.func6, Tryd.ntmps6
  go_wp2_with fail
  refine (clone_any ao cap xs w hx HN.out hl).mono ?_
  rintro e w1 ⟨v1, rfl, hown1, hb1⟩
  obtain ⟨a1, c1, rfl, -, -, -, -, -⟩ := hown1.val
  go_wp2
  go_ret
  exact ⟨_, w1, rfl, hown1, hb1, rfl⟩
set_option maxRecDepth 20000 in
set_option maxHeartbeats 1600000 in
theorem octetNil_walk (n1 n2 : Int) (w : World) (h1 : (Lit.int .u64 n1).wf = true) (h2 : (Lit.int .i64 n2).wf = true) (ht : TabOk w) :
    Calls Tryd.prog 3 #[.int .u64 n1, .int .i64 n2] w fun e w' => e = .returned (.bool true) ∧ Below w.heap.size w w' := by
  clear h1 h2
  go_enter Tryd.func3, Tryd.ntmps3
  go_wp2_with fail
  refine (new_any _ _ 2 [5, 6] rfl _ (rd_lit w _ rfl _ 5 (0, 0) [5, 6] rfl) (fun h => by cases h) (by decide)).mono ?_
  rintro e w2 ⟨v1, w1, rfl, hown1, hb1, rfl⟩
  have hb01 : Below w.heap.size w w1 := ((Below.refl _ w).alloc (Nat.le_refl _) _).trans (hb1.mono (by simp))
  have ht1 := ht.below hb01
  obtain ⟨g, c, rfl, hlc, -, hgB, hgl⟩ := own_head hown1 (by decide)
  have hp01 := hb01.size
  go_wp2_with fail
  refine (knows_any _ (ht1.alloc _)).mono ?_
  rintro e w3 ⟨rfl, hb3⟩
  obtain ⟨W, hWd⟩ : ∃ W : World, W = w1.alloc (.cells #[.bool true, .slice (some ⟨g, 0, none⟩) 2 c, .int .i64 0, .int .i64 0] 33) := ⟨_, rfl⟩
  have hWs : W.heap.size = w1.heap.size + 1 := by rw [hWd]; simp
  have hb0W : Below w.heap.size w W := by rw [hWd]; exact hb01.alloc hp01 _
  have hb3' : Below W.heap.size W w3 := by rw [hWd]; exact hb3
  have hb03 : Below w.heap.size w w3 := below_next hb0W hb3'
  have hcl : ∀ i v, (#[Value.bool true, .slice (some ⟨g, 0, none⟩) 2 c, .int .i64 0, .int .i64 0])[i]? = some v → w3.cell? ⟨w1.heap.size, i, none⟩ = some v := fun i v hv => by
    rw [hb3'.cell (p := ⟨w1.heap.size, i, none⟩) (by rw [hWs]; exact Nat.lt_succ_self _), hWd, World.cell?_alloc_at _ _ _ _ rfl]; exact hv
  have k0 := hcl 0 _ rfl
  have k1 := hcl 1 _ rfl
  have k2 := hcl 2 _ rfl
  have k3 := hcl 3 _ rfl
  have kf : w3.frozen? ⟨w1.heap.size, 2, none⟩ = false := by
    rw [hb3'.frozen (p := ⟨w1.heap.size, 2, none⟩) (by rw [hWs]; exact Nat.lt_succ_self _), hWd]; simp
  have hr3 : Rd w3 (some ⟨g, 0, none⟩) [5, 6] := by
    have h1 : Rd w1 (some ⟨g, 0, none⟩) [5, 6] := by
      obtain ⟨a, c', hv, -, -, -, hr, -⟩ := hown1.val
      simp only [Value.slice.injEq] at hv
      rw [hv.1]; exact hr
    have h2 : Rd W (some ⟨g, 0, none⟩) [5, 6] := by rw [hWd]; exact h1.alloc _
    exact h2.below hb3'
  have hsz3 := hb3'.size
  have hlc2 : 2 ≤ c := hlc
  clear hcl hWd hb3 hb3' hb0W hown1 hlc
  go_wp2_with fail
  refine (left56 w1.heap.size _ c w3 k1 k2).mono ?_
  rintro e w4 ⟨rfl, q4, rfl⟩
  have hb04 : Below w.heap.size w (w3.drewN q4) := below_drewN hb03 q4
  go_wp2_with fail
  refine (number56 w1.heap.size g c (w3.drewN q4) (hr3.below (below_drewN (Below.refl _ _) q4)) hlc2 (by simpa using k0) (by simpa using k1) (by simpa using k2) (by simpa using k3) (by simpa using kf)).mono ?_
  rintro e w5 ⟨rfl, q5, hw5⟩
  have hb05 : Below w.heap.size w w5 := by rw [hw5]; exact below_drewN (hb04.setCell (p := ⟨w1.heap.size, 2, none⟩) hp01 _) q5
  have k05 : w5.cell? ⟨w1.heap.size, 0, none⟩ = some (.bool true) := by rw [hw5, World.cell?_drewN, World.cell?_setCell_other _ _ _ _ (by simp), World.cell?_drewN]; exact k0
  have k35 : w5.cell? ⟨w1.heap.size, 3, none⟩ = some (.int .i64 0) := by rw [hw5, World.cell?_drewN, World.cell?_setCell_other _ _ _ _ (by simp), World.cell?_drewN]; exact k3
  have hs5 := hb05.size
  clear hw5 k0 k1 k2 k3 kf hr3 hsz3 hWs hb04 hb03
  go_wp2_with fail
  refine (err_made w1.heap.size w5 k05 k35).mono ?_
  rintro e w6 ⟨rfl, hw6⟩
  have hw6' := hw6.symm
  subst hw6'
  go_wp2_with fail
  refine (nothing_nil n1 n2 w5).mono ?_
  rintro e w7 ⟨rfl, hw7⟩
  have hw7' := hw7.symm
  subst hw7'
  go_wp2_with fail
  refine (nothing_zero w5.heap.size n1 n2 _ ?_).mono ?_
  · exact ⟨by simp, by simp, by simp, by simp⟩
  rintro e w8 ⟨rfl, q8, rfl⟩
  go_wp2
  go_ret
  exact ⟨rfl, below_drewN (hb05.alloc hs5 _) q8⟩
end Go.Proofs.YtinphflminaijacDoor
