import Derived.Test.YtdpkommmkcmifabRule
namespace Go.Proofs.Ytdpkommmkcmifab
set_option linter.unusedVariables false
set_option linter.unusedSimpArgs false
open Go.RowKit
set_option maxRecDepth 20000 in
set_option maxHeartbeats 400000 in
theorem clo1_any (ao : Option Addr) (cap : Nat) (xs : List UInt8) (w : World) (hx : Rd w ao xs) (hnil : ao = none → cap = 0) (hl : xs.length ≤ 140737488355328) :
    Calls Try.prog 88 #[.slice ao xs.length cap] w fun e w' => e = .returned (.bool ((prevS xs).2.2 == 0)) ∧ Below w.heap.size w w' := by
  have HN : Hid (ao = none → cap = 0) := hnil
  clear hnil
  have hfd : ∀ (a b c : Value) (u : World), (Instr.field 138 (.agg #[a, b, c]) 1).run Try.prog u = .ok c u := fun _ _ _ _ => by kernel_rfl
  go_enter Try.func88, Try.ntmps88
  go_wp2_with fail
  refine (readPrevious_any ao cap xs w hx HN.out hl).mono ?_
  rintro e w1 ⟨rfl, hb1⟩
  go_wp2
  go_ret
  exact ⟨rfl, hb1⟩
set_option maxRecDepth 20000 in
set_option maxHeartbeats 400000 in
theorem clo2_any (ao : Option Addr) (cap : Nat) (xs : List UInt8) (w : World) (hx : Rd w ao xs) (hnil : ao = none → cap = 0) (hl : xs.length ≤ 140737488355328) :
    Calls Try.prog 90 #[.slice ao xs.length cap] w fun e w' => e = .returned (.bool ((ageS xs).2 == 0)) ∧ Below w.heap.size w w' := by
  have HN : Hid (ao = none → cap = 0) := hnil
  clear hnil
  have hfd : ∀ (a b : Value) (u : World), (Instr.field 79 (.agg #[a, b]) 1).run Try.prog u = .ok b u := fun _ _ _ => by kernel_rfl
  go_enter Try.func90, Try.ntmps90
  go_wp2_with fail
  refine (readAge_any ao cap xs w hx HN.out hl).mono ?_
  rintro e w1 ⟨rfl, hb1⟩
  go_wp2
  go_ret
  exact ⟨rfl, hb1⟩
set_option maxRecDepth 20000 in
set_option maxHeartbeats 400000 in
theorem clo3_any (ao : Option Addr) (cap : Nat) (xs : List UInt8) (w : World) (hx : Rd w ao xs) (hnil : ao = none → cap = 0) (hl : xs.length ≤ 140737488355328) :
    Calls Try.prog 91 #[.slice ao xs.length cap] w fun e w' => e = .returned (.bool ((hopS xs).2.2 == 0)) ∧ Below w.heap.size w w' := by
  have HN : Hid (ao = none → cap = 0) := hnil
  clear hnil
  have hfd : ∀ (a b c : Value) (u : World), (Instr.field 75 (.agg #[a, b, c]) 2).run Try.prog u = .ok c u := fun _ _ _ _ => by kernel_rfl
  go_enter Try.func91, Try.ntmps91
  go_wp2_with fail
  refine (readHops_any ao cap xs w hx HN.out hl).mono ?_
  rintro e w1 ⟨rfl, hb1⟩
  go_wp2
  go_ret
  exact ⟨rfl, hb1⟩
theorem holdsS_other {t : Nat} {xs : List UInt8} (h6 : ¬ t = 6) (h7 : ¬ t = 7) (h10 : ¬ t = 10) : holdsS t xs = true := by unfold holdsS; rw [if_neg h6, if_neg h7, if_neg h10]
set_option maxRecDepth 20000 in
set_option maxHeartbeats 800000 in
theorem goodData_lo (kind : Nat) (ao : Option Addr) (cap : Nat) (xs : List UInt8) (w : World) (hx : Rd w ao xs) (hnil : ao = none → cap = 0) (hl : xs.length ≤ 64) :
    Calls Try.prog 78 #[.int .u64 kind, .slice ao xs.length cap] w fun e w' => e = .returned (.bool (holdsS kind xs)) ∧ Below w.heap.size w w' := by
  have HN : Hid (ao = none → cap = 0) := hnil
  clear hnil
  by_cases hk : kind = 6
  · subst hk
    have HV : Hid (holdsS 6 xs = ((prevS xs).2.2 == 0)) := rfl
    go_enter Try.func78, Try.ntmps78
    go_wp2_with fail
    refine (ruleOf_six 6 rfl w).mono ?_
    rintro e w1 ⟨rfl, hb1⟩
    go_wp2_with fail
    refine (clo1_any ao cap xs _ ((hx.below hb1).alloc _) HN.out (by omega)).mono ?_
    rintro e w2 ⟨rfl, hb2⟩
    go_wp2
    go_ret
    exact ⟨by rw [HV.out]; rfl, below_next hb1 (below_next (al (Below.refl _ _) _) hb2)⟩
  by_cases hk7 : kind = 7
  · subst hk7
    have HV : Hid (holdsS 7 xs = ((ageS xs).2 == 0)) := rfl
    go_enter Try.func78, Try.ntmps78
    go_wp2_with fail
    refine (ruleOf_seven 7 rfl w).mono ?_
    rintro e w1 ⟨rfl, hb1⟩
    go_wp2_with fail
    refine (clo2_any ao cap xs _ ((hx.below hb1).alloc _) HN.out (by omega)).mono ?_
    rintro e w2 ⟨rfl, hb2⟩
    go_wp2
    go_ret
    exact ⟨by rw [HV.out]; rfl, below_next hb1 (below_next (al (Below.refl _ _) _) hb2)⟩
  by_cases hk10 : kind = 10
  · subst hk10
    have HV : Hid (holdsS 10 xs = ((hopS xs).2.2 == 0)) := rfl
    go_enter Try.func78, Try.ntmps78
    go_wp2_with fail
    refine (ruleOf_ten 10 rfl w).mono ?_
    rintro e w1 ⟨rfl, hb1⟩
    go_wp2_with fail
    refine (clo3_any ao cap xs _ ((hx.below hb1).alloc _) HN.out (by omega)).mono ?_
    rintro e w2 ⟨rfl, hb2⟩
    go_wp2
    go_ret
    exact ⟨by rw [HV.out]; rfl, below_next hb1 (below_next (al (Below.refl _ _) _) hb2)⟩
  have HV : Hid (holdsS kind xs = true) := holdsS_other hk hk7 hk10
  go_enter Try.func78, Try.ntmps78
  go_wp2_with fail
  refine (ruleOf_none kind hk hk7 hk10 w).mono ?_
  rintro e w1 ⟨rfl, hb1⟩
  go_wp2
  go_ret
  exact ⟨by rw [HV.out]; rfl, al hb1 _⟩
set_option maxRecDepth 20000 in
theorem goodData_hi (kind : Nat) (ao : Option Addr) (cap : Nat) (xs : List UInt8) (w : World) (hl : 64 < xs.length) (hl2 : xs.length ≤ 140737488355328) :
    Calls Try.prog 78 #[.int .u64 kind, .slice ao xs.length cap] w fun e w' => e = .returned (.bool false) ∧ Below w.heap.size w w' := by
  go_enter Try.func78, Try.ntmps78
  go_wp2
  go_ret
  exact ⟨rfl, Below.refl _ _⟩
def dataS (t : Nat) (xs : List UInt8) : Bool := decide (xs.length ≤ 64) && holdsS t xs
theorem goodData_any (kind : Nat) (ao : Option Addr) (cap : Nat) (xs : List UInt8) (w : World) (hx : Rd w ao xs) (hnil : ao = none → cap = 0) (hl : xs.length ≤ 140737488355328) :
    Calls Try.prog 78 #[.int .u64 kind, .slice ao xs.length cap] w fun e w' => e = .returned (.bool (dataS kind xs)) ∧ Below w.heap.size w w' := by
  by_cases h : xs.length ≤ 64
  · unfold dataS
    rw [decide_eq_true h, Bool.true_and]
    exact goodData_lo kind ao cap xs w hx hnil h
  · unfold dataS
    rw [decide_eq_false h, Bool.false_and]
    exact goodData_hi kind ao cap xs w (by omega) hl
end Go.Proofs.Ytdpkommmkcmifab
