import Derived.Test.YtnpcgegcoakbmaaDoorClone
import Derived.RegionTactic
import Derived.ChangeAlike
namespace Go.Proofs.YtnpcgegcoakbmaaDoor
set_option linter.unusedVariables false
set_option linter.unusedSimpArgs false
open Go.RowKit
/-- bit k of the string turned -/
def turnB (xs : List UInt8) (k : Nat) : List UInt8 := xs.set (k / 8) (xs.getD (k / 8) 0 ^^^ UInt8.ofNat (2 ^ (k % 8)))
def bstep (at_ : Int) (mask : Nat) (xs : List UInt8) (j : Nat) : List UInt8 :=
  if mask / 2 ^ j % 2 = 1 ∧ 0 ≤ at_ + j ∧ at_ + j < 8 * xs.length then turnB xs (at_ + j).toNat else xs
def bst (at_ : Int) (mask : Nat) (xs : List UInt8) : Nat → List UInt8
  | 0 => xs
  | k + 1 => bstep at_ mask (bst at_ mask xs k) k
theorem turnB_len (xs : List UInt8) (k : Nat) : (turnB xs k).length = xs.length := by simp [turnB]
theorem bstep_len (at_ : Int) (mask : Nat) (xs : List UInt8) (j : Nat) : (bstep at_ mask xs j).length = xs.length := by
  unfold bstep; split <;> simp [turnB_len]
theorem bst_len (at_ : Int) (mask : Nat) (xs : List UInt8) (k : Nat) : (bst at_ mask xs k).length = xs.length := by
  induction k with
  | zero => rfl
  | succ k ih => rw [bst, bstep_len, ih]

set_option maxRecDepth 20000 in
set_option maxHeartbeats 800000 in
theorem burst_any (ao : Option Addr) (cap : Nat) (xs : List UInt8) (at_ : Int) (mask : Nat) (w : World) (hx : Rd w ao xs) (hnil : ao = none → cap = 0) (hl : xs.length ≤ 140737488355328)
    (ha0 : -9223372036854775808 ≤ at_) (ha1 : at_ ≤ 9223372036854775807) (hm : (mask : Int) ≤ 4294967295) :
    Calls Tryd.prog 16 #[.slice ao xs.length cap, .int .i64 at_, .int .u32 mask] w fun e w' => ∃ v, e = .returned v ∧ Own w' w.heap.size v (bst at_ mask xs 32) ∧ Below w.heap.size w w' := by
  have HN : Hid (ao = none → cap = 0) := hnil
  clear hnil
  go_enter Tryd.func16, Tryd.ntmps16
  go_wp2_with fail
  refine (clone_any ao cap xs w hx HN.out hl).mono ?_
  rintro e w1 ⟨v1, rfl, hown1, hb1⟩
  go_wp2
  go_loopw [12] (fun i wr => ∃ k : Nat, k ≤ 32 ∧ i = .int .i64 k ∧ Own wr w.heap.size v1 (bst at_ mask xs k) ∧ Below w.heap.size w wr) (fun i _ => 32 - (intOf i).toNat)
  case atStart => exact ⟨0, Nat.zero_le _, rfl, hown1, hb1⟩
  case round =>
    obtain ⟨k, hk, rfl, hown, hbel⟩ := hrel
    clear hown1 hb1
    by_cases hlt : k < 32
    · have hlen := bst_len at_ mask xs k
      have hstep : bst at_ mask xs (k + 1) = bstep at_ mask (bst at_ mask xs k) k := rfl
      unfold bstep at hstep
      generalize bst at_ mask xs k = ys at *
      have HS : Hid (bst at_ mask xs (k + 1) = if mask / 2 ^ k % 2 = 1 ∧ 0 ≤ at_ + k ∧ at_ + k < 8 * ys.length then turnB ys (at_ + k).toNat else ys) := hstep
      clear hstep
      rw [← hlen] at hl
      have HL : Hid (ys.length = xs.length) := hlen
      obtain ⟨bq, hbq⟩ : ∃ bq : Nat, bq = mask / 2 ^ k := ⟨_, rfl⟩
      have hbI : (mask : Int) / 2 ^ k = (bq : Int) := by rw [hbq]; simp
      rw [← hbq] at HS
      clear hbq hlen
      obtain ⟨aq, cq, hv, -, -, -, -, -⟩ := hown.val
      by_cases hb : bq % 2 = 1
      · by_cases hneg : wrap64 (at_ + k) < 0
        · have HZ : Hid (bst at_ mask xs (k + 1) = ys) := by
            have h1 := HS.out
            rw [if_neg] at h1
            · exact h1
            · rintro ⟨-, h2, h3⟩
              unfold wrap64 at hneg
              omega
          clear HS
          subst hv
          go_wp2
          go_roundw
          case rel => exact ⟨k + 1, by omega, by go_num, by rw [HZ.out]; exact hown, hbel⟩
          case measure => simp [intOf]; omega
        · obtain ⟨m, hmm⟩ : ∃ m : Nat, at_ + k = m := ⟨(at_ + k).toNat, by unfold wrap64 at hneg; omega⟩
          have hw : wrap64 (at_ + k) = (m : Int) := by unfold wrap64 at hneg ⊢; omega
          have hmx : (m : Int) ≤ 9223372036854775807 := by unfold wrap64 at hneg; omega
          rw [hmm] at HS
          clear hneg hmm
          by_cases hin : m / 8 < ys.length
          · have HZ : Hid (bst at_ mask xs (k + 1) = turnB ys m) := by
              have h1 := HS.out
              rw [if_pos ⟨hb, by omega, by omega⟩] at h1
              exact h1
            clear HS hv
            obtain ⟨g, cq', rfl, hgB, hgl⟩ : ∃ g cq', v1 = .slice (some ⟨g, 0, none⟩) ys.length cq' ∧ w.heap.size ≤ g ∧ g < wr.heap.size := by
              rcases hown.2 with ⟨-, h0⟩ | ⟨g, cap, cur, rfl, hB, hg, -⟩
              · omega
              · exact ⟨g, cap, rfl, hB, (Array.getElem?_eq_some_iff.1 hg).1⟩
            have hcell : wr.cell? ⟨g, m / 8, none⟩ = some (.int .u8 (ys[m / 8].toNat : Int)) := by
              rw [World.ownsRow.cellAt hown (m / 8) (by omega), bv_get ys _ hin]
            have hfz := World.ownsRow.frozenAt hown (m / 8)
            have hinI : (m : Int) / 8 < (ys.length : Int) := by omega
            go_wp2
            go_region
            go_wp2
            go_roundw
            case rel =>
              have hpow : (2 : Int) ^ (m % 8) % 256 = ((UInt8.ofNat (2 ^ (m % 8))).toNat : Int) := by
                rw [UInt8.toNat_ofNat']; simp
              rw [hpow, u8_xor_ints]
              have hst := own_set hown (m / 8) (ys[m / 8] ^^^ UInt8.ofNat (2 ^ (m % 8))) _ rfl
              have hz2 : turnB ys m = ys.set (m / 8) (ys[m / 8] ^^^ UInt8.ofNat (2 ^ (m % 8))) := by
                unfold turnB; congr 2; simp [List.getD, hin]
              refine ⟨k + 1, by omega, by go_num, ?_, ?_⟩
              · rw [HZ.out, hz2]
                exact World.ownsRow.drew hst.1
              · exact (hbel.grown hst.2 (by have := hbel.size; omega) (fun j hj => by cases hj; exact hgB)).drew
            case measure => simp [intOf]; omega
          · have HZ : Hid (bst at_ mask xs (k + 1) = ys) := by
              have h1 := HS.out
              rw [if_neg (by omega)] at h1
              exact h1
            clear HS
            subst hv
            have hinI : (ys.length : Int) ≤ (m : Int) / 8 := by omega
            go_wp2
            go_roundw
            case rel => exact ⟨k + 1, by omega, by go_num, by rw [HZ.out]; exact hown, hbel⟩
            case measure => simp [intOf]; omega
      · have HZ : Hid (bst at_ mask xs (k + 1) = ys) := by
          have h1 := HS.out
          rw [if_neg] at h1
          · exact h1
          · rintro ⟨h2, -, -⟩
            exact hb h2
        clear HS
        subst hv
        go_wp2
        go_roundw
        case rel => exact ⟨k + 1, by omega, by go_num, by rw [HZ.out]; exact hown, hbel⟩
        case measure => simp [intOf]; omega
    · obtain rfl : k = 32 := by omega
      go_wp2
      go_ret
      exact ⟨_, rfl, hown, hbel⟩
theorem burst_n (ao : Option Addr) (n cap : Nat) (xs : List UInt8) (hn : n = xs.length) (at_ : Int) (mask : Nat) (w : World) (hx : Rd w ao xs) (hnil : ao = none → cap = 0) (hl : n ≤ 140737488355328)
    (ha0 : -9223372036854775808 ≤ at_) (ha1 : at_ ≤ 9223372036854775807) (hm : (mask : Int) ≤ 4294967295) :
    Calls Tryd.prog 16 #[.slice ao n cap, .int .i64 at_, .int .u32 mask] w fun e w' => ∃ v, e = .returned v ∧ Own w' w.heap.size v (bst at_ mask xs 32) ∧ Below w.heap.size w w' := by
  subst hn; exact burst_any ao cap xs at_ mask w hx hnil hl ha0 ha1 hm
end Go.Proofs.YtnpcgegcoakbmaaDoor
