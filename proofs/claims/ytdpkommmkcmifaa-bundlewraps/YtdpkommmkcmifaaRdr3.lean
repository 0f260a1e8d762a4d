import Derived.Test.YtdpkommmkcmifaaRdr2
import Derived.Lib.BufferOwn
namespace Go.Proofs.Ytdpkommmkcmifaa
set_option linter.unusedVariables false
set_option linter.unusedSimpArgs false
open Go.RowKit
theorem gr_below {a w w' : World} {row : Option Nat} (h : a.grownBy w row) (hb : Below w.heap.size w w') : a.grownBy w' row := Lib.grownBy_below h hb
theorem gr_drewN {a w : World} {row : Option Nat} (h : a.grownBy w row) (q : Nat) : a.grownBy (w.drewN q) row := gr_below h (below_drewN (Below.refl _ _) q)
theorem gr_set {a w : World} {p : Nat} (h : a.grownBy w (some p)) (i : Nat) (v : Value) : a.grownBy (w.setCell ⟨p, i, none⟩ v) (some p) := Lib.grownBy_setB h i v
theorem ahS_le (m : Nat) (ys : List UInt8) : (ahS m ys).1 < 18446744073709551616 ∧ (ahS m ys).2.1 ≤ ys.length := by
  have h := numS_lt ys
  unfold ahS
  split
  · simp
  · exact ⟨h.1, by omega⟩
/-- Reader.Number: the answer, how far it goes on, the fault then -/
def rNum (m : Nat) (ys : List UInt8) (f : Int) : Nat × Nat × Int :=
  if f = 0 then (if (ahS m ys).2.2 = 0 then ((ahS m ys).1, (ahS m ys).2.1, 0) else (0, 0, ((ahS m ys).2.2 : Nat))) else (0, 0, f)
theorem rNum_le (m : Nat) (ys : List UInt8) (f : Int) : (rNum m ys f).2.1 ≤ ys.length := by
  have h := ahS_le m ys
  unfold rNum
  split
  · split
    · exact h.2
    · exact Nat.zero_le _
  · exact Nat.zero_le _
set_option maxRecDepth 20000 in
set_option maxHeartbeats 800000 in
theorem number_r {p : Nat} {ao : Option Addr} {cap : Nat} {xs : List UInt8} {pl : Nat} {f : Int} (m : Nat) (w : World) (h : RdrAt w p ao cap xs pl f) :
    Calls Try.prog 59 #[.pointer (some ⟨p, 0, none⟩), .int .u64 m] w fun e w' => e = .returned (.int .u64 ((rNum m (xs.drop pl) f).1 : Nat)) ∧ RdrAt w' p ao cap xs (pl + (rNum m (xs.drop pl) f).2.1) (rNum m (xs.drop pl) f).2.2 ∧ w.grownBy w' (some p) := by
  by_cases hf : f = 0
  · subst hf
    obtain ⟨N, K, E, hN⟩ : ∃ N K E : Nat, ahS m (xs.drop pl) = (N, K, E) := ⟨_, _, _, rfl⟩
    have hK := (ahS_le m (xs.drop pl)).2
    have hnv : ahV m (xs.drop pl) = .tuple #[.int .u64 N, .int .i64 K, .int .i64 E] := by unfold ahV; rw [hN]
    have HV : Hid (rNum m (xs.drop pl) 0 = if E = 0 then (N, K, 0) else (0, 0, (E : Int))) := by unfold Hid rNum; rw [if_pos rfl, hN]
    rw [hN] at hK
    have hK2 : K ≤ xs.length - pl := by simpa using hK
    clear hN hK
    have hp := h.hp
    have hl := h.hl
    go_enter Try.func59, Try.ntmps59
    go_wp2_with fail
    refine (err_r w h).mono ?_
    rintro e w1 ⟨rfl, hw1⟩
    subst hw1
    go_wp2_with fail
    refine (ahead_r m w1 h).mono ?_
    rintro e w2 ⟨rfl, q, hw2⟩
    rw [hnv]
    have h2 : RdrAt w2 p ao cap xs pl 0 := by rw [hw2]; exact h.drewN q
    have hg2 : w1.grownBy w2 (some p) := by rw [hw2]; exact gr_drewN (World.grownBy.refl _ _) q
    have k2 := h2.c2
    have k3 := h2.f2
    have k4 := h2.f3
    have k5 := h2.c3
    clear hw2 hnv
    by_cases hE : E = 0
    · subst hE
      have HV2 : Hid (rNum m (xs.drop pl) 0 = (N, K, 0)) := by have e := HV.out; rw [if_pos rfl] at e; exact e
      clear HV
      go_wp2
      go_ret
      rw [HV2.out]
      exact ⟨rfl, h2.setP _ (pl + K) (by go_num) (by omega), gr_set hg2 _ _⟩
    · have HV2 : Hid (rNum m (xs.drop pl) 0 = (0, 0, (E : Int))) := by have e := HV.out; rw [if_neg hE] at e; exact e
      clear HV
      go_wp2
      go_ret
      rw [HV2.out]
      exact ⟨rfl, h2.setF _, gr_set hg2 _ _⟩
  · have HV : Hid (rNum m (xs.drop pl) f = (0, 0, f)) := by unfold Hid rNum; rw [if_neg hf]
    go_enter Try.func59, Try.ntmps59
    go_wp2_with fail
    refine (err_r w h).mono ?_
    rintro e w1 ⟨rfl, hw1⟩
    subst hw1
    go_wp2
    go_ret
    rw [HV.out]
    exact ⟨rfl, h, World.grownBy.refl _ _⟩
theorem fail_r {p : Nat} {ao : Option Addr} {cap : Nat} {xs : List UInt8} {pl : Nat} {f : Int} (g : Int) (w : World) (h : RdrAt w p ao cap xs pl f) :
    Calls Try.prog 65 #[.pointer (some ⟨p, 0, none⟩), .int .i64 g] w fun e w' => e = .returned (.tuple #[]) ∧ RdrAt w' p ao cap xs pl (if f = 0 then g else f) ∧ w.grownBy w' (some p) := by
  have k4 := h.f3
  have k3 := h.c3
  by_cases hf : f = 0
  · rw [if_pos hf]
    subst hf
    go_enter Try.func65, Try.ntmps65
    go_wp2_with fail
    refine (err_r w h).mono ?_
    rintro e w1 ⟨rfl, hw1⟩
    subst hw1
    go_wp2
    go_end0
    exact ⟨rfl, h.setF _, gr_set (World.grownBy.refl _ _) _ _⟩
  · rw [if_neg hf]
    go_enter Try.func65, Try.ntmps65
    go_wp2_with fail
    refine (err_r w h).mono ?_
    rintro e w1 ⟨rfl, hw1⟩
    subst hw1
    go_wp2
    go_end0
    exact ⟨rfl, h, World.grownBy.refl _ _⟩
end Go.Proofs.Ytdpkommmkcmifaa
