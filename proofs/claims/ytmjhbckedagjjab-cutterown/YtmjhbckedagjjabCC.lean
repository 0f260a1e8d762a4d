import Derived.Test.YtmjhbckedagjjabCB
namespace Go.Proofs.Ytmjhbckedagjjab
set_option linter.unusedVariables false
set_option linter.unusedSimpArgs false
open Go.RowKit
section
variable {w w' : World} {p : Nat} {V : List Dc} {S : List Seg}
theorem capB0 (N z : Nat) : capB N 0 z = decide (lstN N 0 z ≤ 1024) := rfl
theorem capB1 (N l z : Nat) (h : l ≠ 0) : capB N l z = (decide (z ≤ l) && decide (lstN N l z ≤ 1024)) := by
  unfold capB lstN
  rw [if_neg h, if_neg h, Nat.max_comm]
set_option maxRecDepth 20000 in
set_option maxHeartbeats 1600000 in
theorem fits_t (N l z : Nat) (hN : 1 ≤ N) (hN1 : N ≤ 64) (hl : l ≤ 1024) (hz : z ≤ 1024) : Calls Try.prog 42 #[shV N l z] w fun e w' => e = .returned (.bool (capB N l z)) ∧ Below w.heap.size w w' := by
  have HLE : Hid (∀ u : World, Calls _ _ _ u _) := fun u => least_s (w := u) N l z hN hN1 hl hz
  obtain ⟨T, hT⟩ : ∃ T, T = lstN N l z := ⟨_, rfl⟩
  rw [← hT] at HLE
  by_cases h0 : l = 0
  · subst h0
    have HC : Hid (capB N 0 z = decide (T ≤ 1024)) := by unfold Hid; rw [capB0, hT]
    clear hT
    have hd : decide ((T : Int) ≤ 1024) = decide (T ≤ 1024) := by simp; omega
    go_enter Try.func42, Try.ntmps42
    go_wp2_with (go_at_call 49; refine Calls.mono (HLE.out _) ?_; rintro e w1 ⟨rfl, hb1⟩)
    go_ret
    rw [HC.out]
    exact ⟨by first | rfl | exact congrArg (fun b => Ending.returned (Value.bool b)) hd | exact congrArg (fun b => Ending.returned (Value.bool b)) (decide_eq_decide.2 Iff.rfl), below_next (al (Below.refl _ _) _) hb1⟩
  · have hl0 : ((l : Int) == 0) = false := by simp; omega
    have HC : Hid (capB N l z = (decide (z ≤ l) && decide (T ≤ 1024))) := by unfold Hid; rw [capB1 N l z h0, hT]
    clear hT
    by_cases h1 : z ≤ l
    · have h1i : (z : Int) ≤ (l : Int) := by omega
      go_enter Try.func42, Try.ntmps42
      go_wp2_with (go_at_call 49; refine Calls.mono (HLE.out _) ?_; rintro e w1 ⟨rfl, hb1⟩)
      go_ret
      rw [HC.out, decide_eq_true h1, Bool.true_and]
      have hd : decide ((T : Int) ≤ 1024) = decide (T ≤ 1024) := by simp; omega
      exact ⟨by first | rfl | exact congrArg (fun b => Ending.returned (Value.bool b)) hd | exact congrArg (fun b => Ending.returned (Value.bool b)) (decide_eq_decide.2 Iff.rfl), below_next (al (Below.refl _ _) _) hb1⟩
    · have h1i : ¬ (z : Int) ≤ (l : Int) := by omega
      go_enter Try.func42, Try.ntmps42
      go_wp2_with (go_at_call 49; refine Calls.mono (HLE.out _) ?_; rintro e w1 ⟨rfl, hb1⟩)
      go_ret
      rw [HC.out, decide_eq_false h1, Bool.false_and]
      exact ⟨rfl, al (Below.refl _ _) _⟩
theorem results_ct {P : Program} {fn : Func} {p u : Tmp} {ty : TypeId} (h : fn.results = #[.cell p ty, .tmp u]) (tmps : Array Value) (w : World) (g : Nat) (t : TypeId) (cs : Array Value) (fr : Nat × Nat) (d : TypeDesc)
    (hp : tmps.getD p undef = .pointer (some ⟨g, 0, none⟩)) (hg : w.heap[g]? = some (.cells cs t fr))
    (hu : P.underlying ty = some d) (hd : (match d with | .struct _ | .array _ _ => true | _ => false) = true) (hi : (P.info? ty).map (·.size) = some cs.size) :
    (results fn tmps).run P w = .ok (.tuple #[.agg cs, tmps.getD u undef]) w := by
  rw [results_cell_tmp h]
  rw [hp]
  simp [asAddr, run_loadVar_row w g t ty cs fr d hg hu hd hi, Result.andThen]
set_option maxRecDepth 20000 in
set_option maxHeartbeats 1600000 in
theorem equal_t (ao : Option Addr) (n cap : Nat) (ys : List UInt8) (hn : n = ys.length) (bo : Option Addr) (m cap' : Nat) (xs : List UInt8) (hm : m = xs.length) (w : World) (hy : Rd w ao ys) (hx : Rd w bo xs) :
    Calls Try.prog 41 #[.slice ao n cap, .slice bo m cap'] w fun e w' => e = .returned (.bool (ys == xs)) ∧ w' = w := by
  subst hn hm
  have h1 := conv_rd' hy _ cap rfl
  have h2 := conv_rd' hx _ cap' rfl
  go_enter Try.func41, Try.ntmps41
  go_wp2
  go_ret
  exact ⟨rfl, rfl⟩
set_option maxRecDepth 20000 in
set_option maxHeartbeats 1600000 in
theorem again_t (ao : Option Addr) (n cap : Nat) (ys : List UInt8) (hn : n = ys.length) (bo : Option Addr) (m cap' : Nat) (xs : List UInt8) (hm : m = xs.length) (w : World) (hy : Rd w ao ys) (hx : Rd w bo xs) :
    Calls Try.prog 34 #[.slice ao n cap, .slice bo m cap'] w fun e w' => e = .returned (.int .i64 (if ys = xs then 3 else 120)) ∧ w' = w := by
  have HE : Hid _ := equal_t ao n cap ys hn bo m cap' xs hm w hy hx
  clear hn hm hy hx
  by_cases h : ys = xs
  · have hb : (ys == xs) = true := by simp [h]
    rw [hb] at HE
    rw [if_pos h]
    clear h hb
    go_enter Try.func34, Try.ntmps34
    go_wp2_with (go_at_call 41; refine Calls.mono HE.out ?_; rintro e w' ⟨rfl, hq⟩; have hq := hq.symm; subst hq)
    go_ret
    exact ⟨rfl, rfl⟩
  · have hb : (ys == xs) = false := by simp [h]
    rw [hb] at HE
    rw [if_neg h]
    clear h hb
    go_enter Try.func34, Try.ntmps34
    go_wp2_with (go_at_call 41; refine Calls.mono HE.out ?_; rintro e w' ⟨rfl, hq⟩; have hq := hq.symm; subst hq)
    go_ret
    exact ⟨rfl, rfl⟩
set_option maxRecDepth 20000 in
set_option maxHeartbeats 1600000 in
theorem new_no (r : Int) (hr : ¬ (1 ≤ r ∧ r ≤ 64)) : Calls Try.prog 13 #[.int .i64 r] w fun e w' => e = .returned (.tuple #[.pointer none, .int .i64 1]) ∧ w' = w := by
  by_cases h1 : r < 1
  · go_enter Try.func13, Try.ntmps13
    go_wp2
    go_ret2
    exact ⟨rfl, rfl⟩
  · have h2 : 64 < r := by omega
    go_enter Try.func13, Try.ntmps13
    go_wp2
    go_ret2
    exact ⟨rfl, rfl⟩
theorem lenS_rep (N : Nat) : lenS (List.replicate N []) = 0 := by
  unfold lenS
  rw [frL_zero]
  intro x hx
  have := List.eq_of_mem_replicate (List.mem_of_mem_take hx)
  rw [this]; rfl
theorem lastS_rep (N : Nat) : lastS (List.replicate N []) = 0 := by
  unfold lastS
  rw [List.getElem?_replicate]
  split <;> rfl
theorem fitS_rep (N : Nat) : fitS (List.replicate N []) = true := by
  unfold fitS
  rw [lenS_rep, lastS_rep, Bool.and_eq_true]
  refine ⟨uniD_iff.2 (fun x hx => .inl ?_), by simp [capB]⟩
  have := List.eq_of_mem_replicate (List.mem_of_mem_take hx)
  rw [this]; rfl
def zV : List Dc := List.replicate 64 Dc.z
theorem zV_get {i : Nat} {d : Dc} (h : zV[i]? = some d) : d = Dc.z := by
  unfold zV at h
  rw [List.getElem?_replicate] at h
  split at h
  · cases h; rfl
  · cases h
set_option maxRecDepth 20000 in
set_option maxHeartbeats 1600000 in
theorem new_t (r : Nat) (h0 : 1 ≤ r) (h1 : r ≤ 64) : Calls Try.prog 13 #[.int .i64 (r : Int)] w fun e w' => e = .returned (.tuple #[.pointer (some ⟨w.heap.size, 0, none⟩), .int .i64 0]) ∧ Bx w' w.heap.size zV (List.replicate r []) ∧ Below w.heap.size w w' := by
  have h2 : ¬ (r : Int) < 1 := by omega
  have h3 : ¬ 64 < (r : Int) := by omega
  go_enter Try.func13, Try.ntmps13
  go_wp2
  go_ret2
  refine ⟨rfl, ⟨?_, by simp [zV], by simpa using h0, by simpa using h1, fitS_rep r, fun i d xs hd hx => ?_, fun i d hd _ => ?_⟩, al (Below.refl _ _) _⟩
  · rw [lenS_rep, lastS_rep, List.length_replicate]
    exact heap_alloc_new w _
  · rw [List.getElem?_replicate] at hx
    rw [zV_get hd]
    split at hx
    · cases hx
      exact ⟨ByV.none _, fun _ => rfl, by simp⟩
    · cases hx
  · exact zV_get hd
set_option maxRecDepth 20000 in
set_option maxHeartbeats 1600000 in
theorem count_no {q : Option Addr} (h : B0 w q) : Calls Try.prog 23 #[.pointer q] w fun e w' => e = .returned (iv 0) ∧ w' = w := by
  have H : Hid _ := made_no h
  clear h
  go_enter Try.func23, Try.ntmps23
  go_wp2_with (go_at_call 32; refine Calls.mono H.out ?_; rintro e w' ⟨rfl, hq⟩; have hq := hq.symm; subst hq)
  go_ret
  exact ⟨rfl, rfl⟩
set_option maxRecDepth 20000 in
set_option maxHeartbeats 1600000 in
theorem count_t (h : Bx w p V S) : Calls Try.prog 23 #[.pointer (some ⟨p, 0, none⟩)] w fun e w' => e = .returned (iv S.length) ∧ w' = w := by
  have H : Hid _ := made_t h
  have hc := h.c0
  clear h
  go_enter Try.func23, Try.ntmps23
  go_wp2_with (go_at_call 32; refine Calls.mono H.out ?_; rintro e w' ⟨rfl, hq⟩; have hq := hq.symm; subst hq)
  go_ret
  exact ⟨rfl, rfl⟩
set_option maxRecDepth 20000 in
set_option maxHeartbeats 1600000 in
theorem length_no {q : Option Addr} (h : B0 w q) : Calls Try.prog 28 #[.pointer q] w fun e w' => e = .returned (.tuple #[iv 0, .bool false]) ∧ w' = w := by
  have H : Hid _ := made_no h
  clear h
  go_enter Try.func28, Try.ntmps28
  go_wp2_with (go_at_call 32; refine Calls.mono H.out ?_; rintro e w' ⟨rfl, hq⟩; have hq := hq.symm; subst hq)
  go_ret2
  exact ⟨rfl, rfl⟩
set_option maxRecDepth 20000 in
set_option maxHeartbeats 1600000 in
theorem length_t (h : Bx w p V S) : Calls Try.prog 28 #[.pointer (some ⟨p, 0, none⟩)] w fun e w' => e = .returned (.tuple #[iv (lenS S), .bool (decide (0 < lenS S))]) ∧ Below w.heap.size w w' := by
  have H : Hid _ := made_t h
  have hc := h.c1
  generalize lenS S = l at *
  have hd : decide (0 < (l : Int)) = decide (0 < l) := by simp
  have HD : Hid _ := hd
  clear h hd
  go_enter Try.func28, Try.ntmps28
  go_wp2_with (go_at_call 32; refine Calls.mono H.out ?_; rintro e w' ⟨rfl, hq⟩; have hq := hq.symm; subst hq)
  go_quiet (fail)
  go_wp2
  go_ret2
  first | exact ⟨rfl, below_drewN _ _⟩ | (rw [← HD.out]; exact ⟨rfl, below_drewN _ _⟩)
end
end Go.Proofs.Ytmjhbckedagjjab
