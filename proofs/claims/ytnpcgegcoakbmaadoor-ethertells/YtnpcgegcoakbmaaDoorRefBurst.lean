import Derived.Test.YtnpcgegcoakbmaaDoorTurnO
import Derived.Test.YtnpcgegcoakbmaaDoorHelp
namespace Go.Proofs.YtnpcgegcoakbmaaDoor
set_option linter.unusedVariables false
set_option linter.unusedSimpArgs false
open Go.RowKit
theorem u32_and1b (a : Nat) (h : a < 4294967296) : bits .and .u32 (a : Int) 1 = ((a % 2 : Nat) : Int) := by
  have h1 := u32_and_nat a 1 h (by decide)
  rw [nat_mask1] at h1
  exact h1
set_option maxRecDepth 20000 in
set_option maxHeartbeats 800000 in
theorem turn_any (B : Nat) (ao : Option Addr) (n cap : Nat) (ys : List UInt8) (hn : n = ys.length) (at_ : Int) (j : Nat) (w : World) (hown : Own w B (.slice ao n cap) ys) (hB : B ≤ w.heap.size) (hl : n ≤ 140737488355328) (hj : j < 32)
    (ha0 : -9223372036854775808 ≤ at_) (ha1 : at_ ≤ 9223372036854775807) :
    Calls Tryd.prog 48 #[.slice ao n cap, .int .i64 at_, .int .i64 j] w fun e w' => e = .returned (.slice ao n cap) ∧ Own w' B (.slice ao n cap) (if 0 ≤ at_ + j ∧ at_ + j < 8 * ys.length then turnB ys (at_ + j).toNat else ys) ∧ w.grownBy w' (Value.ownBlock (.slice ao n cap)) := by
  subst hn
  by_cases hc : 0 ≤ at_ + j ∧ at_ + j < 8 * ys.length
  · rw [if_pos hc]
    obtain ⟨m, hm⟩ : ∃ m : Nat, at_ + j = m := ⟨(at_ + j).toNat, by omega⟩
    have hw : wrap64 (at_ + j) = (m : Int) := by unfold wrap64; omega
    have hin : m / 8 < ys.length := by omega
    have hinI : (m : Int) / 8 < (ys.length : Int) := by omega
    have hmx : (m : Int) ≤ 9223372036854775807 := by omega
    have h8 : at_ < 8 * (ys.length : Int) - j := by omega
    have hnn : ¬ (m : Int) < 0 := by omega
    rw [hm]
    simp only [Int.toNat_natCast]
    obtain ⟨g, cq, hv, hlc, -, hgB, hgl⟩ := own_head hown (by omega)
    simp only [Value.slice.injEq, true_and] at hv
    obtain ⟨rfl, rfl⟩ := hv
    have hcell : w.cell? ⟨g, m / 8, none⟩ = some (.int .u8 (ys[m / 8].toNat : Int)) := by
      rw [World.ownsRow.cellAt hown (m / 8) (by omega), bv_get ys _ hin]
    have hfz := World.ownsRow.frozenAt hown (m / 8)
    clear hc
    go_enter Tryd.func48, Tryd.ntmps48
    go_wp2
    all_goals
      go_region
      go_wp2
      go_ret
      have hpow : (2 : Int) ^ (m % 8) % 256 = ((UInt8.ofNat (2 ^ (m % 8))).toNat : Int) := by
        rw [UInt8.toNat_ofNat']; simp
      rw [hpow, u8_xor_ints]
      have hst := own_set hown (m / 8) (ys[m / 8] ^^^ UInt8.ofNat (2 ^ (m % 8))) _ rfl
      have hz2 : turnB ys m = ys.set (m / 8) (ys[m / 8] ^^^ UInt8.ofNat (2 ^ (m % 8))) := by
        unfold turnB; congr 2; simp [List.getD, hin]
      rw [hz2]
      exact ⟨rfl, World.ownsRow.drew hst.1, ⟨hst.2.os, hst.2.tape, hst.2.output, hst.2.size, hst.2.block⟩⟩
  · rw [if_neg hc]
    by_cases hneg : at_ + j < 0
    · have han : at_ < 0 := by omega
      have hw : wrap64 (at_ + j) < 0 := by unfold wrap64; omega
      clear hc
      go_enter Tryd.func48, Tryd.ntmps48
      go_wp2
      go_ret
      exact ⟨rfl, hown, World.grownBy.refl _ _⟩
    · have h8 : 8 * (ys.length : Int) - j ≤ at_ := by omega
      by_cases han : at_ < 0
      · have hw : wrap64 (at_ + j) = at_ + j := by unfold wrap64; omega
        have hw2 : ¬ at_ + j < 0 := hneg
        clear hc
        go_enter Tryd.func48, Tryd.ntmps48
        go_wp2
        go_ret
        exact ⟨rfl, hown, World.grownBy.refl _ _⟩
      · clear hc
        go_enter Tryd.func48, Tryd.ntmps48
        go_wp2
        go_ret
        exact ⟨rfl, hown, World.grownBy.refl _ _⟩
set_option maxRecDepth 20000 in
set_option maxHeartbeats 800000 in
theorem refBurst_n (ao : Option Addr) (n cap : Nat) (xs : List UInt8) (hn : n = xs.length) (at_ : Int) (mask : Nat) (w : World) (hx : Rd w ao xs) (hnil : ao = none → cap = 0) (hl : n ≤ 140737488355328)
    (ha0 : -9223372036854775808 ≤ at_) (ha1 : at_ ≤ 9223372036854775807) (hm : (mask : Int) ≤ 4294967295) :
    Calls Tryd.prog 47 #[.slice ao n cap, .int .i64 at_, .int .u32 mask] w fun e w' => ∃ v, e = .returned v ∧ Own w' w.heap.size v (bst at_ mask xs 32) ∧ Below w.heap.size w w' := by
  subst hn
  have HN : Hid (ao = none → cap = 0) := hnil
  clear hnil
  have h0 : Own w w.heap.size (.slice none 0 0) [] := World.ownsRow_nil _ _ _ _
  go_enter Tryd.func47, Tryd.ntmps47
  go_wp2_with (at_builtin; refine wp_app rfl _ _ rfl w.heap.size (.slice none 0 0) [] xs _ _ rfl h0 rfl hx HN.out (by simp; omega) (Nat.le_refl _) ?_; intro v1 w1 hown1 hg1)
  have hb1 : Below w.heap.size w w1 := (Below.refl _ w).grown hg1 (Nat.le_refl _) (fun k hk => by cases hk)
  rw [List.nil_append] at hown1
  obtain ⟨a1, c1, rfl, -, -, -, -, hblk⟩ := hown1.val
  go_loopw [7, 8] (fun v i wr => ∃ k : Nat, k ≤ 32 ∧ i = .int .i64 k ∧ v = .slice a1 xs.length c1 ∧ Own wr w.heap.size (.slice a1 xs.length c1) (bst at_ mask xs k) ∧ Below w.heap.size w wr) (fun _ i _ => 32 - (intOf i).toNat)
  case atStart => exact ⟨0, Nat.zero_le _, rfl, rfl, hown1, hb1⟩
  case round =>
    obtain ⟨k, hk, rfl, rfl, hown, hbel⟩ := hrel
    clear hown1 hg1 hb1
    by_cases hlt : k < 32
    · have hlen := bst_len at_ mask xs k
      have HS : Hid (bst at_ mask xs (k + 1) = if mask / 2 ^ k % 2 = 1 then (if 0 ≤ at_ + k ∧ at_ + k < 8 * (bst at_ mask xs k).length then turnB (bst at_ mask xs k) (at_ + k).toNat else bst at_ mask xs k) else bst at_ mask xs k) := by
        unfold Hid
        show bstep at_ mask (bst at_ mask xs k) k = _
        unfold bstep
        by_cases h1 : mask / 2 ^ k % 2 = 1
        · rw [if_pos h1]; simp [h1]
        · rw [if_neg h1, if_neg (fun h => h1 h.1)]
      generalize bst at_ mask xs k = ys at *
      have HL : Hid (xs.length = ys.length) := hlen.symm
      obtain ⟨bq, hbq⟩ : ∃ bq : Nat, bq = mask / 2 ^ k := ⟨_, rfl⟩
      have hbI : (mask : Int) / 2 ^ k = (bq : Int) := by rw [hbq]; simp
      have hbl : bq < 4294967296 := by rw [hbq]; exact Nat.lt_of_le_of_lt (Nat.div_le_self _ _) (by omega)
      have hand := u32_and1b bq hbl
      rw [← hbq] at HS
      clear hbq hlen
      by_cases hb : bq % 2 = 1
      · rw [if_pos hb] at HS
        have hbb : ((bq : Int) % 2 == 1) = true := by simp; omega
        go_wp2_with fail
        refine (turn_any _ a1 _ c1 ys HL.out at_ k wr hown hbel.size hl hlt ha0 ha1).mono ?_
        rintro e w2 ⟨rfl, hown2, hg2⟩
        go_wp2
        go_roundw
        case rel => exact ⟨k + 1, by omega, by go_num, rfl, by rw [HS.out]; exact hown2, hbel.grown hg2 hbel.size (fun j hj => (World.ownsRow.lt hown j hj).1)⟩
        case measure => simp [intOf]; omega
      · rw [if_neg hb] at HS
        have hbb : ((bq : Int) % 2 == 1) = false := by simp; omega
        go_wp2
        go_roundw
        case rel => exact ⟨k + 1, by omega, by go_num, rfl, by rw [HS.out]; exact hown, hbel⟩
        case measure => simp [intOf]; omega
    · obtain rfl : k = 32 := by omega
      go_wp2
      go_ret
      exact ⟨_, rfl, hown, hbel⟩
end Go.Proofs.YtnpcgegcoakbmaaDoor
