import Derived.Test.YtdpkommmkcmifaaFind
namespace Go.Proofs.Ytdpkommmkcmifaa
set_option linter.unusedVariables false
set_option linter.unusedSimpArgs false
open Go.RowKit
/-- Reader.Bytes: what it gives, how far it goes on, the fault then -/
def rBytes (n : Int) (ys : List UInt8) (f : Int) : List UInt8 × Nat × Int :=
  if f = 0 then (if n < 0 then ([], 0, 1) else if (ahS n.toNat ys).2.2 = 0 then (if ys.length - (ahS n.toNat ys).2.1 < (ahS n.toNat ys).1 then ([], 0, 10) else ((ys.drop (ahS n.toNat ys).2.1).take (ahS n.toNat ys).1, (ahS n.toNat ys).2.1 + (ahS n.toNat ys).1, 0)) else ([], 0, ((ahS n.toNat ys).2.2 : Nat))) else ([], 0, f)
def rEnd (ys : List UInt8) (f : Int) : Int := if f = 0 then (if 0 < ys.length then 11 else 0) else f
set_option maxRecDepth 20000 in
set_option maxHeartbeats 1600000 in
theorem bytes_r {p : Nat} {ao : Option Addr} {cap : Nat} {xs : List UInt8} {pl : Nat} {f : Int} (n : Int) (hn64 : n ≤ 9223372036854775807) (w : World) (h : RdrAt w p ao cap xs pl f) :
    Calls Try.prog 63 #[.pointer (some ⟨p, 0, none⟩), .int .i64 n] w fun e w' => ∃ v, e = .returned v ∧ Own w' w.heap.size v (rBytes n (xs.drop pl) f).1 ∧ RdrAt w' p ao cap xs (pl + (rBytes n (xs.drop pl) f).2.1) (rBytes n (xs.drop pl) f).2.2 ∧ w.grownBy w' (some p) := by
  have hp := h.hp
  have hl := h.hl
  by_cases hf : f = 0
  · subst hf
    by_cases hn : n < 0
    · have HV : Hid (rBytes n (xs.drop pl) 0 = ([], 0, 1)) := by unfold Hid rBytes; rw [if_pos rfl, if_pos hn]
      have k4 := h.f3
      have k5 := h.c3
      clear hn64
      go_enter Try.func63, Try.ntmps63
      go_wp2_with fail
      refine (err_r w h).mono ?_
      rintro e w1 ⟨rfl, hw1⟩
      subst hw1
      go_wp2
      go_ret
      rw [HV.out]
      exact ⟨_, rfl, World.ownsRow_nil _ _ _ _, h.setF _, gr_set (World.grownBy.refl _ _) _ _⟩
    · obtain ⟨m, rfl⟩ : ∃ m : Nat, n = m := ⟨n.toNat, by omega⟩
      obtain ⟨N, K, E, hN⟩ : ∃ N K E : Nat, ahS m (xs.drop pl) = (N, K, E) := ⟨_, _, _, rfl⟩
      have hK := (ahS_le m (xs.drop pl)).2
      have hnv : ahV m (xs.drop pl) = .tuple #[.int .u64 N, .int .i64 K, .int .i64 E] := by unfold ahV; rw [hN]
      have HV : Hid (rBytes m (xs.drop pl) 0 = if E = 0 then (if xs.length - pl - K < N then ([], 0, 10) else (((xs.drop pl).drop K).take N, K + N, 0)) else ([], 0, (E : Int))) := by
        unfold Hid rBytes
        rw [if_pos rfl, if_neg hn, Int.toNat_natCast, hN]
        simp only [List.length_drop]
      rw [hN] at hK
      have hK2 : K ≤ xs.length - pl := by simpa using hK
      have hwm : IntKind.u64.wrap (m : Int) = (m : Int) := by rw [IntKind.wrap_u64]; omega
      clear hN hK hn hn64
      go_enter Try.func63, Try.ntmps63
      go_wp2_with fail
      refine (err_r w h).mono ?_
      rintro e w1 ⟨rfl, hw1⟩
      subst hw1
      go_wp2_with fail
      refine (ahead_r m w1 h).mono ?_
      rintro e w2 ⟨rfl, q, hw2⟩
      rw [hnv]
      have h2 : RdrAt w2 p ao cap xs pl 0 := by rw [hw2]; exact h.drewN q
      have hg2 : w1.grownBy w2 (some p) := by rw [hw2]; exact gr_drewN (World.grownBy.refl _ _) q
      clear hw2 hnv
      by_cases hE : E = 0
      · subst hE
        go_wp2_with fail
        refine (left_r w2 h2).mono ?_
        rintro e w3 ⟨rfl, q3, hw3⟩
        have h3 : RdrAt w3 p ao cap xs pl 0 := by rw [hw3]; exact h2.drewN q3
        have hg3 : w1.grownBy w3 (some p) := by rw [hw3]; exact gr_drewN hg2 q3
        have k2 := h3.c2
        have k3 := h3.f2
        have k4 := h3.f3
        have k5 := h3.c3
        clear hw3
        obtain ⟨R, hR⟩ : ∃ R : Nat, R = xs.length - pl - K := ⟨_, rfl⟩
        have hwR : IntKind.i64.wrap (((xs.length - pl : Nat) : Int) - (K : Int)) = (R : Int) := by rw [IntKind.wrap_i64]; omega
        have hwR2 : IntKind.u64.wrap (R : Int) = (R : Int) := by rw [IntKind.wrap_u64]; omega
        by_cases hlt : R < N
        · have HV2 : Hid (rBytes m (xs.drop pl) 0 = ([], 0, 10)) := by have e := HV.out; simp only [if_true] at e; rw [if_pos (by omega)] at e; exact e
          clear HV
          go_wp2
          go_ret
          rw [HV2.out]
          exact ⟨_, rfl, World.ownsRow_nil _ _ _ _, h3.setF _, gr_set hg3 _ _⟩
        · have HV2 : Hid (rBytes m (xs.drop pl) 0 = (((xs.drop pl).drop K).take N, K + N, 0)) := by have e := HV.out; simp only [if_true] at e; rw [if_neg (by omega)] at e; exact e
          clear HV
          have hwN : IntKind.i64.wrap (N : Int) = (N : Int) := by rw [IntKind.wrap_i64]; omega
          obtain ⟨M, hM⟩ : ∃ M : Nat, M = pl + K := ⟨_, rfl⟩
          have hwM : IntKind.i64.wrap ((pl : Int) + (K : Int)) = (M : Int) := by rw [IntKind.wrap_i64]; omega
          have h4 : RdrAt (w3.setCell ⟨p, 2, none⟩ (.int .i64 M)) p ao cap xs M 0 := h3.setP _ M rfl (by omega)
          have hg4 := gr_set hg3 2 (.int .i64 M)
          have HM : Hid (M = pl + K) := hM
          have HRN : Hid (N ≤ xs.length - pl - K) := by unfold Hid; omega
          clear hM hR
          go_wp2_with fail
          refine (take_r N _ h4).mono ?_
          rintro e w5 ⟨v5, rfl, hown5, h5, hg5⟩
          have HT : rTake N (xs.drop M) 0 = ((xs.drop M).take N, N, 0) := by
            unfold rTake
            have e1 := HM.out
            have e2 := HRN.out
            rw [if_pos rfl, if_neg (by omega), if_neg (by simp; omega)]
            rfl
          rw [HT] at hown5 h5
          go_wp2
          go_ret
          rw [HV2.out]
          refine ⟨_, rfl, ?_, ?_, hg4.trans' hg5⟩
          · have e1 := HM.out
            show Own w5 _ _ (((xs.drop pl).drop K).take N)
            rw [List.drop_drop, ← e1]
            exact hown5.base hg4.size
          · have e1 := HM.out
            show RdrAt w5 p ao cap xs (pl + (K + N)) 0
            rw [← Nat.add_assoc, ← e1]
            exact h5
      · have HV2 : Hid (rBytes m (xs.drop pl) 0 = ([], 0, (E : Int))) := by have e := HV.out; rw [if_neg hE] at e; exact e
        clear HV
        have k4 := h2.f3
        have k5 := h2.c3
        go_wp2
        go_ret
        rw [HV2.out]
        exact ⟨_, rfl, World.ownsRow_nil _ _ _ _, h2.setF _, gr_set hg2 _ _⟩
  · have HV : Hid (rBytes n (xs.drop pl) f = ([], 0, f)) := by unfold Hid rBytes; rw [if_neg hf]
    clear hn64
    go_enter Try.func63, Try.ntmps63
    go_wp2_with fail
    refine (err_r w h).mono ?_
    rintro e w1 ⟨rfl, hw1⟩
    subst hw1
    go_wp2
    go_ret
    rw [HV.out]
    exact ⟨_, rfl, World.ownsRow_nil _ _ _ _, h, World.grownBy.refl _ _⟩
theorem end_r {p : Nat} {ao : Option Addr} {cap : Nat} {xs : List UInt8} {pl : Nat} {f : Int} (w : World) (h : RdrAt w p ao cap xs pl f) :
    Calls Try.prog 38 #[.pointer (some ⟨p, 0, none⟩)] w fun e w' => e = .returned (.int .i64 (rEnd (xs.drop pl) f)) ∧ RdrAt w' p ao cap xs pl (rEnd (xs.drop pl) f) ∧ w.grownBy w' (some p) := by
  have hp := h.hp
  have hl := h.hl
  by_cases h0 : 0 < xs.length - pl
  · have HV : Hid (rEnd (xs.drop pl) f = if f = 0 then 11 else f) := by unfold Hid rEnd; rw [if_pos (show 0 < (xs.drop pl).length by simp; omega)]
    go_enter Try.func38, Try.ntmps38
    go_wp2_with fail
    refine (left_r w h).mono ?_
    rintro e w2 ⟨rfl, q, hw2⟩
    have h2 : RdrAt w2 p ao cap xs pl f := by rw [hw2]; exact h.drewN q
    have hg2 : w.grownBy w2 (some p) := by rw [hw2]; exact gr_drewN (World.grownBy.refl _ _) q
    clear hw2
    go_wp2_with fail
    refine (fail_r 11 w2 h2).mono ?_
    rintro e w3 ⟨rfl, h3, hg3⟩
    rw [← HV.out] at h3
    go_wp2_with fail
    refine (err_r w3 h3).mono ?_
    rintro e w4 ⟨rfl, hw4⟩
    subst hw4
    go_wp2
    go_ret
    exact ⟨rfl, h3, hg2.trans' hg3⟩
  · have HV : Hid (rEnd (xs.drop pl) f = f) := by
      unfold Hid rEnd
      rw [if_neg (show ¬ 0 < (xs.drop pl).length by simp; omega)]
      split <;> simp_all
    have h0' : xs.length - pl = 0 := by omega
    clear h0
    go_enter Try.func38, Try.ntmps38
    go_wp2_with fail
    refine (left_r w h).mono ?_
    rintro e w2 ⟨rfl, q, hw2⟩
    rw [h0']
    have h2 : RdrAt w2 p ao cap xs pl f := by rw [hw2]; exact h.drewN q
    have hg2 : w.grownBy w2 (some p) := by rw [hw2]; exact gr_drewN (World.grownBy.refl _ _) q
    clear hw2 h0'
    go_wp2_with fail
    refine (err_r w2 h2).mono ?_
    rintro e w4 ⟨rfl, hw4⟩
    subst hw4
    go_wp2
    go_ret
    rw [HV.out]
    exact ⟨rfl, h2, hg2⟩
end Go.Proofs.Ytdpkommmkcmifaa
