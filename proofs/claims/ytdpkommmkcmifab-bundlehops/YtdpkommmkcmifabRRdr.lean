import Derived.Test.YtdpkommmkcmifabFind
import Derived.Test.YtdpkommmkcmifabNumb
namespace Go.Proofs.Ytdpkommmkcmifab
set_option linter.unusedVariables false
set_option linter.unusedSimpArgs false
open Go.RowKit
/-- Reader.Bytes: what it gives, how far it goes on, the fault then -/
def rBytes (n : Int) (ys : List UInt8) (f : Int) : List UInt8 × Nat × Int :=
  if f = 0 then (if n < 0 then ([], 0, 1) else if (ahS n.toNat ys).2.2 = 0 then (if ys.length - (ahS n.toNat ys).2.1 < (ahS n.toNat ys).1 then ([], 0, 10) else ((ys.drop (ahS n.toNat ys).2.1).take (ahS n.toNat ys).1, (ahS n.toNat ys).2.1 + (ahS n.toNat ys).1, 0)) else ([], 0, ((ahS n.toNat ys).2.2 : Nat))) else ([], 0, f)
def rEnd (ys : List UInt8) (f : Int) : Int := if f = 0 then (if 0 < ys.length then 11 else 0) else f
set_option maxRecDepth 20000 in
set_option maxHeartbeats 1600000 in
theorem bytes_r {p : Nat} {ao : Option Addr} {cap : Nat} {xs : List UInt8} {pl : Nat} {f : Int} (n : Int) (hn64 : n ≤ 9223372036854775807) (w : World) (h : RdrAt w p ao cap xs pl f) :
    Calls Try.prog 63 #[.pointer (some ⟨p, 0, none⟩), .int .i64 n] w fun e w' => ∃ v, e = .returned v ∧ Own w' w.heap.size v (rBytes n (xs.drop pl) f).1 ∧ RdrAt w' p ao cap xs (pl + (rBytes n (xs.drop pl) f).2.1) (rBytes n (xs.drop pl) f).2.2 ∧ w.grownBy w' (some p) := by
  have hp := h.hp
  have hl := h.hl
  by_cases hf : f = 0
  · subst hf
    by_cases hn : n < 0
    · have HV : Hid (rBytes n (xs.drop pl) 0 = ([], 0, 1)) := by unfold Hid rBytes; rw [if_pos rfl, if_pos hn]
      have k4 := h.f3
      have k5 := h.c3
      clear hn64
      go_enter Try.func63, Try.ntmps63
      go_wp2_with fail
      refine (err_r w h).mono ?_
      rintro e w1 ⟨rfl, hw1⟩
      subst hw1
      go_wp2
      go_ret
      rw [HV.out]
      exact ⟨_, rfl, World.ownsRow_nil _ _ _ _, h.setF _, gr_set (World.grownBy.refl _ _) _ _⟩
    · obtain ⟨m, rfl⟩ : ∃ m : Nat, n = m := ⟨n.toNat, by omega⟩
      obtain ⟨N, K, E, hN⟩ : ∃ N K E : Nat, ahS m (xs.drop pl) = (N, K, E) := ⟨_, _, _, rfl⟩
      have hK := (ahS_le m (xs.drop pl)).2
      have hnv : ahV m (xs.drop pl) = .tuple #[.int .u64 N, .int .i64 K, .int .i64 E] := by unfold ahV; rw [hN]
      have HV : Hid (rBytes m (xs.drop pl) 0 = if E = 0 then (if xs.length - pl - K < N then ([], 0, 10) else (((xs.drop pl).drop K).take N, K + N, 0)) else ([], 0, (E : Int))) := by
        unfold Hid rBytes
        rw [if_pos rfl, if_neg hn, Int.toNat_natCast, hN]
        simp only [List.length_drop]
      rw [hN] at hK
      have hK2 : K ≤ xs.length - pl := by simpa using hK
      have hwm : IntKind.u64.wrap (m : Int) = (m : Int) := by rw [IntKind.wrap_u64]; omega
      clear hN hK hn hn64
      go_enter Try.func63, Try.ntmps63
      go_wp2_with fail
      refine (err_r w h).mono ?_
      rintro e w1 ⟨rfl, hw1⟩
      subst hw1
      go_wp2_with fail
      refine (ahead_r m w1 h).mono ?_
      rintro e w2 ⟨rfl, q, hw2⟩
      rw [hnv]
      have h2 : RdrAt w2 p ao cap xs pl 0 := by rw [hw2]; exact h.drewN q
      have hg2 : w1.grownBy w2 (some p) := by rw [hw2]; exact gr_drewN (World.grownBy.refl _ _) q
      clear hw2 hnv
      by_cases hE : E = 0
      · subst hE
        go_wp2_with fail
        refine (left_r w2 h2).mono ?_
        rintro e w3 ⟨rfl, q3, hw3⟩
        have h3 : RdrAt w3 p ao cap xs pl 0 := by rw [hw3]; exact h2.drewN q3
        have hg3 : w1.grownBy w3 (some p) := by rw [hw3]; exact gr_drewN hg2 q3
        have k2 := h3.c2
        have k3 := h3.f2
        have k4 := h3.f3
        have k5 := h3.c3
        clear hw3
        obtain ⟨R, hR⟩ : ∃ R : Nat, R = xs.length - pl - K := ⟨_, rfl⟩
        have hwR : IntKind.i64.wrap (((xs.length - pl : Nat) : Int) - (K : Int)) = (R : Int) := by rw [IntKind.wrap_i64]; omega
        have hwR2 : IntKind.u64.wrap (R : Int) = (R : Int) := by rw [IntKind.wrap_u64]; omega
        by_cases hlt : R < N
        · have HV2 : Hid (rBytes m (xs.drop pl) 0 = ([], 0, 10)) := by have e := HV.out; simp only [if_true] at e; rw [if_pos (by omega)] at e; exact e
          clear HV
          go_wp2
          go_ret
          rw [HV2.out]
          exact ⟨_, rfl, World.ownsRow_nil _ _ _ _, h3.setF _, gr_set hg3 _ _⟩
        · have HV2 : Hid (rBytes m (xs.drop pl) 0 = (((xs.drop pl).drop K).take N, K + N, 0)) := by have e := HV.out; simp only [if_true] at e; rw [if_neg (by omega)] at e; exact e
          clear HV
          have hwN : IntKind.i64.wrap (N : Int) = (N : Int) := by rw [IntKind.wrap_i64]; omega
          obtain ⟨M, hM⟩ : ∃ M : Nat, M = pl + K := ⟨_, rfl⟩
          have hwM : IntKind.i64.wrap ((pl : Int) + (K : Int)) = (M : Int) := by rw [IntKind.wrap_i64]; omega
          have h4 : RdrAt (w3.setCell ⟨p, 2, none⟩ (.int .i64 M)) p ao cap xs M 0 := h3.setP _ M rfl (by omega)
          have hg4 := gr_set hg3 2 (.int .i64 M)
          have HM : Hid (M = pl + K) := hM
          have HRN : Hid (N ≤ xs.length - pl - K) := by unfold Hid; omega
          clear hM hR
          go_wp2_with fail
          refine (take_r N _ h4).mono ?_
          rintro e w5 ⟨v5, rfl, hown5, h5, hg5⟩
          have HT : rTake N (xs.drop M) 0 = ((xs.drop M).take N, N, 0) := by
            unfold rTake
            have e1 := HM.out
            have e2 := HRN.out
            rw [if_pos rfl, if_neg (by omega), if_neg (by simp; omega)]
            rfl
          rw [HT] at hown5 h5
          go_wp2
          go_ret
          rw [HV2.out]
          refine ⟨_, rfl, ?_, ?_, hg4.trans' hg5⟩
          · have e1 := HM.out
            show Own w5 _ _ (((xs.drop pl).drop K).take N)
            rw [List.drop_drop, ← e1]
            exact hown5.base hg4.size
          · have e1 := HM.out
            show RdrAt w5 p ao cap xs (pl + (K + N)) 0
            rw [← Nat.add_assoc, ← e1]
            exact h5
      · have HV2 : Hid (rBytes m (xs.drop pl) 0 = ([], 0, (E : Int))) := by have e := HV.out; rw [if_neg hE] at e; exact e
        clear HV
        have k4 := h2.f3
        have k5 := h2.c3
        go_wp2
        go_ret
        rw [HV2.out]
        exact ⟨_, rfl, World.ownsRow_nil _ _ _ _, h2.setF _, gr_set hg2 _ _⟩
  · have HV : Hid (rBytes n (xs.drop pl) f = ([], 0, f)) := by unfold Hid rBytes; rw [if_neg hf]
    clear hn64
    go_enter Try.func63, Try.ntmps63
    go_wp2_with fail
    refine (err_r w h).mono ?_
    rintro e w1 ⟨rfl, hw1⟩
    subst hw1
    go_wp2
    go_ret
    rw [HV.out]
    exact ⟨_, rfl, World.ownsRow_nil _ _ _ _, h, World.grownBy.refl _ _⟩
theorem end_r {p : Nat} {ao : Option Addr} {cap : Nat} {xs : List UInt8} {pl : Nat} {f : Int} (w : World) (h : RdrAt w p ao cap xs pl f) :
    Calls Try.prog 39 #[.pointer (some ⟨p, 0, none⟩)] w fun e w' => e = .returned (.int .i64 (rEnd (xs.drop pl) f)) ∧ RdrAt w' p ao cap xs pl (rEnd (xs.drop pl) f) ∧ w.grownBy w' (some p) := by
  have hp := h.hp
  have hl := h.hl
  by_cases h0 : 0 < xs.length - pl
  · have HV : Hid (rEnd (xs.drop pl) f = if f = 0 then 11 else f) := by unfold Hid rEnd; rw [if_pos (show 0 < (xs.drop pl).length by simp; omega)]
    go_enter Try.func39, Try.ntmps39
    go_wp2_with fail
    refine (left_r w h).mono ?_
    rintro e w2 ⟨rfl, q, hw2⟩
    have h2 : RdrAt w2 p ao cap xs pl f := by rw [hw2]; exact h.drewN q
    have hg2 : w.grownBy w2 (some p) := by rw [hw2]; exact gr_drewN (World.grownBy.refl _ _) q
    clear hw2
    go_wp2_with fail
    refine (fail_r 11 w2 h2).mono ?_
    rintro e w3 ⟨rfl, h3, hg3⟩
    rw [← HV.out] at h3
    go_wp2_with fail
    refine (err_r w3 h3).mono ?_
    rintro e w4 ⟨rfl, hw4⟩
    subst hw4
    go_wp2
    go_ret
    exact ⟨rfl, h3, hg2.trans' hg3⟩
  · have HV : Hid (rEnd (xs.drop pl) f = f) := by
      unfold Hid rEnd
      rw [if_neg (show ¬ 0 < (xs.drop pl).length by simp; omega)]
      split <;> simp_all
    have h0' : xs.length - pl = 0 := by omega
    clear h0
    go_enter Try.func39, Try.ntmps39
    go_wp2_with fail
    refine (left_r w h).mono ?_
    rintro e w2 ⟨rfl, q, hw2⟩
    rw [h0']
    have h2 : RdrAt w2 p ao cap xs pl f := by rw [hw2]; exact h.drewN q
    have hg2 : w.grownBy w2 (some p) := by rw [hw2]; exact gr_drewN (World.grownBy.refl _ _) q
    clear hw2 h0'
    go_wp2_with fail
    refine (err_r w2 h2).mono ?_
    rintro e w4 ⟨rfl, hw4⟩
    subst hw4
    go_wp2
    go_ret
    rw [HV.out]
    exact ⟨rfl, h2, hg2⟩
end Go.Proofs.Ytdpkommmkcmifab
namespace Go.Proofs.Ytdpkommmkcmifab
set_option linter.unusedVariables false
set_option linter.unusedSimpArgs false
open Go.RowKit
set_option maxRecDepth 20000 in
set_option maxHeartbeats 3200000 in
theorem refNumber_n (ao : Option Addr) (l cap : Nat) (xs : List UInt8) (hl0 : l = xs.length) (w : World) (hx : Rd w ao xs) (hl : l ≤ 140737488355328) :
    Calls Try.prog 81 #[.slice ao l cap] w fun e w' => e = .returned (numV xs) ∧ w' = w := by
  subst hl0
  go_enter Try.func81, Try.ntmps81
  go_wp2
  go_loop [5] (fun i => ∃ k : Nat, k ≤ min xs.length 10 ∧ i = .int .i64 k ∧ ∀ j (hj : j < xs.length), j < k → 128 ≤ xs[j].toNat) (fun i => 10 - (intOf i).toNat)
  case atStart => exact ⟨0, Nat.zero_le _, rfl, fun j _ h => absurd h (Nat.not_lt_zero j)⟩
  case round =>
    obtain ⟨k, hk, rfl, hall⟩ := hrel
    have HA : Hid (∀ j (hj : j < xs.length), j < k → 128 ≤ xs[j].toNat) := hall
    clear hall
    by_cases hA : k < xs.length
    · by_cases hB : k < 10
      · obtain ⟨b, o, rfl, hc⟩ := hx (by omega)
        have hc1 := hc k hA
        have hlen0 : 0 < xs.length := by omega
        by_cases hC : 128 ≤ xs[k].toNat
        · clear hc
          go_wp2
          go_round
          case rel =>
            refine ⟨k + 1, by omega, by go_num, fun j hj hjk => ?_⟩
            by_cases e : j = k
            · subst e; exact hC
            · exact HA.out j hj (by omega)
          case measure => simp [intOf]; omega
        · have hns : nsz xs = k + 1 := nsz_hit xs k hA hB HA.out (by omega)
          have hc0 := hc 0 hlen0
          simp only [Nat.add_zero] at hc0
          have hhd : xs.head? = some xs[0] := List.head?_eq_getElem? ▸ List.getElem?_eq_getElem hlen0
          have HNS : Hid (numS xs = if xs[0] = 128 then (0, 0, 12) else match vl 0 (xs.take (k + 1)) with | none => (0, 0, 12) | some n => (n, k + 1, 0)) := by
            unfold Hid numS
            rw [hns, if_neg (by omega), hhd]
            simp only [Option.some.injEq]
            rfl
          have hne1 : ((k : Int) == (xs.length : Int)) = false := by simp; omega
          have hne1' : (k == xs.length) = false := by simp; omega
          have hne2 : ((k : Int) == 10) = false := by simp; omega
          clear hhd hns HA
          by_cases h128 : xs[0] = 128
          · have HV : Hid (numV xs = .tuple #[.int .u64 0, .int .i64 0, .int .i64 12]) := by unfold Hid numV; rw [HNS.out, if_pos h128]; rfl
            have h128b : ((xs[0].toNat : Int) == 128) = true := by rw [h128]; rfl
            clear h128 hc
            go_wp2
            go_ret3
            exact ⟨by rw [HV.out]; rfl, rfl⟩
          · have HV : Hid (numS xs = match vl 0 (xs.take (k + 1)) with | none => (0, 0, 12) | some n => (n, k + 1, 0)) := by unfold Hid; rw [HNS.out, if_neg h128]
            have h128b : ((xs[0].toNat : Int) == 128) = false := by
              rw [beq_eq_false_iff_ne]; intro e; apply h128; apply UInt8.toNat_inj.1; simp; omega
            clear h128 HNS
            go_wp2
            go_loop [6, 7] (fun v i => ∃ j n : Nat, j ≤ k + 1 ∧ i = .int .i64 j ∧ v = .int .u64 n ∧ n < 18446744073709551616 ∧ Hid (vl 0 (xs.take (k + 1)) = vl n ((xs.take (k + 1)).drop j))) (fun _ i => k + 1 - (intOf i).toNat)
            case atStart => exact ⟨0, 0, Nat.zero_le _, rfl, rfl, by omega, rfl⟩
            case round =>
              obtain ⟨j, n, hj, rfl, rfl, hn, HK⟩ := hrel
              by_cases hlt : j < k + 1
              · have hjx : j < xs.length := by omega
                have hcj := hc j hjx
                have hle : (j : Int) ≤ (k : Int) := by omega
                have HK1 : Hid (vl 0 (xs.take (k + 1)) = vl n (xs[j] :: (xs.take (k + 1)).drop (j + 1))) := by
                  unfold Hid; rw [HK.out, List.drop_eq_getElem_cons (i := j) (by simp; omega)]; simp
                clear HK hc
                by_cases hbig : 144115188075855872 ≤ n
                · have HV2 : Hid (numV xs = .tuple #[.int .u64 0, .int .i64 0, .int .i64 12]) := by
                    have e1 := HK1.out
                    simp only [vl, if_pos hbig] at e1
                    unfold Hid numV; rw [HV.out, e1]; rfl
                  have hbI : (144115188075855871 : Int) < (n : Int) := by omega
                  clear HV HK1 hbig hn
                  go_wp2
                  go_ret3
                  exact ⟨by rw [HV2.out]; rfl, rfl⟩
                · have HK2 : Hid (vl 0 (xs.take (k + 1)) = vl (n * 128 + xs[j].toNat % 128) ((xs.take (k + 1)).drop (j + 1))) := by
                    have e1 := HK1.out
                    rw [vl, if_neg hbig] at e1
                    exact e1
                  have hxk : (xs[j].toNat : Int) < 256 := by have := xs[j].toNat_lt; omega
                  have hbI : decide ((144115188075855871 : Int) < (n : Int)) = false := by simp; omega
                  have HB : Hid (¬ 144115188075855872 ≤ n) := hbig
                  obtain ⟨q, hq⟩ : ∃ q : Nat, q = n * 128 := ⟨_, rfl⟩
                  obtain ⟨r, hr⟩ : ∃ r : Nat, r = q + xs[j].toNat % 128 := ⟨_, rfl⟩
                  have hw1 : IntKind.u64.wrap ((n : Int) * 128) = (q : Int) := by rw [IntKind.wrap_u64]; omega
                  have hw2 : IntKind.u64.wrap ((q : Int) + (xs[j].toNat : Int) % 128) = (r : Int) := by rw [IntKind.wrap_u64]; omega
                  have HR : Hid (r = n * 128 + xs[j].toNat % 128) := by unfold Hid; omega
                  clear HK1 hbig hn hq hr
                  go_wp2
                  go_round
                  case rel => exact ⟨j + 1, n * 128 + xs[j].toNat % 128, by omega, by go_num, by rw [← HR.out], by have := HB.out; omega, HK2⟩
                  case measure => simp [intOf]; omega
              · obtain rfl : j = k + 1 := by omega
                have e1 := HK.out
                rw [List.drop_of_length_le (by simp; omega), vl] at e1
                have HV2 : Hid (numV xs = .tuple #[.int .u64 n, .int .i64 ((k + 1 : Nat) : Int), .int .i64 0]) := by
                  unfold Hid numV; rw [HV.out, e1]; rfl
                have hgt : ¬ ((k + 1 : Nat) : Int) ≤ (k : Int) := by omega
                clear HV HK e1 hc hlt
                go_wp2
                go_ret3
                exact ⟨by rw [HV2.out]; rfl, rfl⟩
      · obtain rfl : k = 10 := by omega
        have hns : nsz xs = 0 := nsz_miss xs 10 (by omega) HA.out
        have HV : Hid (numV xs = .tuple #[.int .u64 0, .int .i64 0, .int .i64 12]) := by unfold Hid numV numS; rw [if_pos hns, if_neg (by omega)]; rfl
        have hne1 : ((10 : Int) == (xs.length : Int)) = false := by simp; omega
        clear hns HA
        go_wp2
        go_ret3
        exact ⟨by rw [HV.out]; rfl, rfl⟩
    · have hkl : k = xs.length := by omega
      have hns : nsz xs = 0 := nsz_miss xs k (by omega) HA.out
      by_cases h10 : xs.length < 10
      · have HV : Hid (numV xs = .tuple #[.int .u64 0, .int .i64 0, .int .i64 10]) := by unfold Hid numV numS; rw [if_pos hns, if_pos h10]; rfl
        subst hkl
        clear hns HA
        go_wp2
        go_ret3
        exact ⟨by rw [HV.out]; rfl, rfl⟩
      · have HV : Hid (numV xs = .tuple #[.int .u64 0, .int .i64 0, .int .i64 12]) := by unfold Hid numV numS; rw [if_pos hns, if_neg h10]; rfl
        subst hkl
        have he : xs.length = 10 := by omega
        have heb : ((xs.length : Int) == 10) = true := by simp; omega
        clear hns HA
        go_wp2
        go_ret3
        exact ⟨by rw [HV.out]; rfl, rfl⟩
theorem number_n (ao : Option Addr) (l cap : Nat) (xs : List UInt8) (hl0 : l = xs.length) (w : World) (hx : Rd w ao xs) (hlc : l ≤ cap) (hl : l ≤ 140737488355328) :
    Calls Try.prog 84 #[.slice ao l cap] w fun e w' => e = .returned (numV xs) ∧ w' = w := by subst hl0; exact number_any ao cap xs w hx hlc hl
end Go.Proofs.Ytdpkommmkcmifab
namespace Go.Proofs.Ytdpkommmkcmifab
set_option linter.unusedVariables false
set_option linter.unusedSimpArgs false
open Go.RowKit
/-- the document's Reader: what is left, the fault; D: where its bytes lie -/
structure RefAt (w : World) (q : Nat) (D : Option Nat) (ao : Option Addr) (cap : Nat) (ys : List UInt8) (f : Int) : Prop where
  c0 : w.cell? ⟨q, 0, none⟩ = some (.slice ao ys.length cap)
  c1 : w.cell? ⟨q, 1, none⟩ = some (.int .i64 f)
  f0 : w.frozen? ⟨q, 0, none⟩ = false
  f1 : w.frozen? ⟨q, 1, none⟩ = false
  rd : Rd w ao ys
  blk : ∀ a, ao = some a → D = some a.block
  dq : D ≠ some q
  hl : ys.length ≤ 140737488355328
  hc : ys.length ≤ cap
  hn : ao = none → cap = 0
  sp : ao = none ∨ ∃ b o, ao = some ⟨b, o, none⟩
theorem RefAt.grown {w w' : World} {q : Nat} {D : Option Nat} {ao : Option Addr} {cap : Nat} {ys : List UInt8} {f : Int} {row : Option Nat} (h : RefAt w q D ao cap ys f) (hg : w.grownBy w' row) (h1 : some q ≠ row) (h2 : ∀ d, D = some d → some d ≠ row) : RefAt w' q D ao cap ys f :=
  ⟨hg.cell h.c0 h1, hg.cell h.c1 h1, (hg.frozen_far ⟨q, 0, none⟩ (World.block_lt_of_cell? w _ h.c0) h1).trans h.f0, (hg.frozen_far ⟨q, 1, none⟩ (World.block_lt_of_cell? w _ h.c1) h1).trans h.f1, h.rd.grown hg (fun a ha => h2 _ (h.blk a ha)), h.blk, h.dq, h.hl, h.hc, h.hn, h.sp⟩
theorem RefAt.below {w w' : World} {q : Nat} {D : Option Nat} {ao : Option Addr} {cap : Nat} {ys : List UInt8} {f : Int} (h : RefAt w q D ao cap ys f) (hb : Below w.heap.size w w') : RefAt w' q D ao cap ys f :=
  h.grown (gr_below (World.grownBy.refl w none) hb) (by simp) (fun _ _ => by simp)
theorem RefAt.setF {w : World} {q : Nat} {D : Option Nat} {ao : Option Addr} {cap : Nat} {ys : List UInt8} {f : Int} (h : RefAt w q D ao cap ys f) (g : Int) : RefAt (w.setCell ⟨q, 1, none⟩ (.int .i64 g)) q D ao cap ys g :=
  ⟨by rw [World.cell?_setCell_other _ _ _ _ (by simp)]; exact h.c0, World.cell?_setCell_same _ _ _ (by rw [h.c1]), by simpa using h.f0, by simpa using h.f1, h.rd.setCell _ _ (fun a ha e => h.dq (by rw [h.blk a ha, e])), h.blk, h.dq, h.hl, h.hc, h.hn, h.sp⟩
theorem RefAt.setR {w : World} {q : Nat} {D : Option Nat} {ao : Option Addr} {cap : Nat} {ys : List UInt8} {f : Int} (h : RefAt w q D ao cap ys f) (ao' : Option Addr) (n' cap' k : Nat) (hn' : n' = (ys.drop k).length) (hrd : Rd w ao' (ys.drop k)) (hb : ∀ a, ao' = some a → D = some a.block) (hc' : n' ≤ cap') (hnil : ao' = none → cap' = 0) (hsp : ao' = none ∨ ∃ b o, ao' = some ⟨b, o, none⟩) :
    RefAt (w.setCell ⟨q, 0, none⟩ (.slice ao' n' cap')) q D ao' cap' (ys.drop k) f := by
  subst hn'
  have hl := h.hl
  exact ⟨World.cell?_setCell_same _ _ _ (by rw [h.c0]), by rw [World.cell?_setCell_other _ _ _ _ (by simp)]; exact h.c1, by simpa using h.f0, by simpa using h.f1, hrd.setCell _ _ (fun a ha e => h.dq (by rw [hb a ha, e])), hb, h.dq, by simp; omega, hc', hnil, hsp⟩
theorem fail_d {q : Nat} {D : Option Nat} {ao : Option Addr} {cap : Nat} {ys : List UInt8} {f : Int} (g : Int) (w : World) (h : RefAt w q D ao cap ys f) :
    Calls Try.prog 82 #[.pointer (some ⟨q, 0, none⟩), .int .i64 g] w fun e w' => e = .returned (.tuple #[]) ∧ RefAt w' q D ao cap ys (if f = 0 then g else f) ∧ w.grownBy w' (some q) := by
  have k1 := h.c1
  have k2 := h.f1
  by_cases hf : f = 0
  · rw [if_pos hf]
    subst hf
    go_enter Try.func82, Try.ntmps82
    go_wp2
    go_end0
    exact ⟨rfl, h.setF _, gr_set (World.grownBy.refl _ _) _ _⟩
  · rw [if_neg hf]
    go_enter Try.func82, Try.ntmps82
    go_wp2
    go_end0
    exact ⟨rfl, h, World.grownBy.refl _ _⟩
set_option maxRecDepth 20000 in
set_option maxHeartbeats 1600000 in
theorem number_d {q : Nat} {D : Option Nat} {ao : Option Addr} {cap : Nat} {ys : List UInt8} {f : Int} (m : Nat) (w : World) (h : RefAt w q D ao cap ys f) :
    Calls Try.prog 71 #[.pointer (some ⟨q, 0, none⟩), .int .u64 m] w fun e w' => e = .returned (.int .u64 ((rNum m ys f).1 : Nat)) ∧ (∃ ao' cap', RefAt w' q D ao' cap' (ys.drop (rNum m ys f).2.1) (rNum m ys f).2.2) ∧ w.grownBy w' (some q) := by
  have k0 := h.c0
  have k1 := h.c1
  have k2 := h.f0
  by_cases hf : f = 0
  · subst hf
    obtain ⟨N, K, E, hN⟩ : ∃ N K E : Nat, numS ys = (N, K, E) := ⟨_, _, _, rfl⟩
    have hnv : numV ys = .tuple #[.int .u64 N, .int .i64 K, .int .i64 E] := by unfold numV; rw [hN]
    have hK := (numS_lt ys).2
    rw [hN] at hK
    have hK2 : K ≤ ys.length := by have : K ≤ min ys.length 10 := hK; omega
    clear hK
    have hcase : (E = 0 ∧ m < N ∧ Hid (rNum m ys 0 = (0, 0, 12))) ∨ (E = 0 ∧ ¬ m < N ∧ Hid (rNum m ys 0 = (N, K, 0))) ∨ (¬ E = 0 ∧ Hid (rNum m ys 0 = (0, 0, (E : Int)))) := by
      unfold rNum ahS Hid
      rw [hN]
      by_cases hE : E = 0
      · by_cases hm : m < N
        · refine .inl ⟨hE, hm, ?_⟩
          rw [if_pos rfl, if_pos (show (N, K, E).2.2 = 0 ∧ m < (N, K, E).1 from ⟨hE, hm⟩)]; rfl
        · refine .inr (.inl ⟨hE, hm, ?_⟩)
          rw [if_pos rfl, if_neg (show ¬ ((N, K, E).2.2 = 0 ∧ m < (N, K, E).1) from fun h => hm h.2), if_pos (show (N, K, E).2.2 = 0 from hE)]
      · refine .inr (.inr ⟨hE, ?_⟩)
        rw [if_pos rfl, if_neg (show ¬ ((N, K, E).2.2 = 0 ∧ m < (N, K, E).1) from fun h => hE h.1), if_neg (show ¬ (N, K, E).2.2 = 0 from hE)]
    clear hN
    have hc := h.hc
    have hl := h.hl
    have hr := h.rd
    go_enter Try.func71, Try.ntmps71
    go_wp2_with fail
    refine (refNumber_n ao _ cap ys rfl w hr h.hl).mono ?_
    rintro e w1 ⟨rfl, hw1⟩
    subst hw1
    rw [hnv]
    clear hnv
    rcases hcase with ⟨rfl, hlt, HAV⟩ | ⟨rfl, hlt, HAV⟩ | ⟨hlt, HAV⟩
    · go_wp2_with fail
      refine (fail_d 12 w1 h).mono ?_
      rintro e w2 ⟨rfl, h2, hg2⟩
      go_wp2
      go_ret
      rw [HAV.out]
      exact ⟨rfl, ⟨_, _, h2⟩, hg2⟩
    · rcases h.sp with hao | ⟨b, o, hao⟩
      · have hcap := h.hn hao
        subst hao
        subst hcap
        obtain rfl : ys = [] := List.eq_nil_of_length_eq_zero (by omega)
        obtain rfl : K = 0 := by simpa using hK2
        go_wp2
        go_ret
        rw [HAV.out]
        exact ⟨rfl, ⟨_, _, h.setR none 0 0 0 rfl (Rd.nil _ _) (fun a ha => by cases ha) (Nat.le_refl _) (fun _ => rfl) (.inl rfl)⟩, gr_set (World.grownBy.refl _ _) _ _⟩
      · subst hao
        have HB : Hid (D = some b) := h.blk _ rfl
        by_cases hcp : cap = K
        · have HYL : Hid (ys.length = K) := by unfold Hid; omega
          rw [HYL.out, hcp] at k0
          clear hcp hK2 hc hl
          go_wp2
          go_ret
          rw [HAV.out]
          refine ⟨rfl, ⟨_, _, h.setR (some ⟨b, o, none⟩) 0 0 K (by simp [HYL.out]) ?_ (fun a ha => by cases ha; exact HB.out) (Nat.le_refl _) (fun h => by cases h) (.inr ⟨_, _, rfl⟩)⟩, gr_set (World.grownBy.refl _ _) _ _⟩
          intro h0
          simp [HYL.out] at h0
        · have hc' : K ≤ cap := by omega
          go_wp2
          go_ret
          rw [HAV.out]
          exact ⟨rfl, ⟨_, _, h.setR (some ⟨b, o + K, none⟩) (ys.length - K) (cap - K) K (by simp) (hr.drop K) (fun a ha => by cases ha; exact HB.out) (by omega) (fun h => by cases h) (.inr ⟨_, _, rfl⟩)⟩, gr_set (World.grownBy.refl _ _) _ _⟩
    · go_wp2_with fail
      refine (fail_d E w1 h).mono ?_
      rintro e w2 ⟨rfl, h2, hg2⟩
      go_wp2
      go_ret
      rw [HAV.out]
      exact ⟨rfl, ⟨_, _, h2⟩, hg2⟩
  · have HV : Hid (rNum m ys f = (0, 0, f)) := by unfold Hid rNum; rw [if_neg hf]
    go_enter Try.func71, Try.ntmps71
    go_wp2
    go_ret
    rw [HV.out]
    exact ⟨rfl, ⟨_, _, h⟩, World.grownBy.refl _ _⟩
end Go.Proofs.Ytdpkommmkcmifab
