import Derived.Test.YtjigbopkmffjaaaDoorSeal
namespace Go.Proofs.YtjigbopkmffjaaaDoor
set_option linter.unusedVariables false
set_option linter.unusedSimpArgs false
open Go.RowKit
theorem crcN_snoc (xs : List UInt8) (x : UInt8) : crcN (xs ++ [x]) = crcB (crcN xs) x := by simp [crcN, List.foldl_append]
theorem u32_and1 (a : Nat) (h : a < 4294967296) : bits .and .u32 (a : Int) 1 = ((a % 2 : Nat) : Int) := by
  have h1 := u32_and_nat a 1 h (by decide)
  rw [nat_mask1] at h1
  exact h1
/-- one step, as the reference says it -/
theorem stp_ref (c b : Nat) (hb : b < 2) : stp (c ^^^ b) = if ((c % 2 : Nat) : Int) != ((b : Nat) : Int) then c / 2 ^^^ poly else c / 2 := by
  unfold stp
  rw [xor_odd, xor_half, show b / 2 = 0 from by omega, Nat.xor_zero]
  by_cases h : c % 2 = b
  · rw [if_neg (by omega), if_neg (by simp; omega)]
  · rw [if_pos (by omega), if_pos (by simp; omega)]
set_option maxRecDepth 20000 in
set_option maxHeartbeats 800000 in
theorem refCRC_any (ao : Option Addr) (cap : Nat) (xs : List UInt8) (w : World) (hx : Rd w ao xs) (hl : xs.length ≤ 140737488355328) :
    Calls Tryd.prog 90 #[.slice ao xs.length cap] w fun e w' => e = .returned (.int .u32 (crcS xs : Nat)) ∧ w' = w := by
  have HE : Hid (bits .xor .u32 ((crcN xs : Nat) : Int) 4294967295 = ((crcS xs : Nat) : Int)) := by
    have h1 := u32_xor_nat (crcN xs) 4294967295 (crcN_lt xs) (by decide)
    rw [Nat.xor_comm] at h1
    exact h1
  go_enter Tryd.func90, Tryd.ntmps90
  go_wp2
  go_loop [3, 4] (fun c i => ∃ k : Nat, k ≤ xs.length ∧ i = .int .i64 k ∧ c = .int .u32 (crcN (xs.take k) : Nat)) (fun _ i => xs.length - (intOf i).toNat)
  case atStart => exact ⟨0, Nat.zero_le _, rfl, rfl⟩
  case round =>
    obtain ⟨k, hk, rfl, rfl⟩ := hrel
    have hz := crcN_lt (xs.take k)
    by_cases hlt : k < xs.length
    · obtain ⟨b, o, rfl, hc⟩ := hx (by omega)
      have hc1 := hc k hlt
      have HS : Hid (crcN (xs.take (k + 1)) = bitB xs[k].toNat (crcN (xs.take k)) 8) := by
        unfold Hid
        rw [take_snoc xs k hlt, crcN_snoc, bitB_8]
      clear hc hx
      generalize crcN (xs.take k) = z at *
      go_wp2
      go_loop [3, 5] (fun c i => ∃ j : Nat, j ≤ 8 ∧ i = .int .i64 j ∧ c = .int .u32 (bitB xs[k].toNat z j : Nat)) (fun _ i => 8 - (intOf i).toNat)
      case atStart => exact ⟨0, Nat.zero_le _, rfl, rfl⟩
      case round =>
        obtain ⟨j, hj, rfl, rfl⟩ := hrel
        by_cases hlt2 : j < 8
        · have hbl := bitB_lt xs[k].toNat z hz j
          have HB : Hid (bitB xs[k].toNat z (j + 1) = stp (bitB xs[k].toNat z j ^^^ (xs[k].toNat / 2 ^ j % 2))) := rfl
          generalize bitB xs[k].toNat z j = c at *
          have hx8 := xs[k].toNat_lt
          obtain ⟨q, hq⟩ : ∃ q : Nat, q = xs[k].toNat / 2 ^ j := ⟨_, rfl⟩
          have hqI : (xs[k].toNat : Int) / 2 ^ j = (q : Int) := by rw [hq]; simp
          have hq256 : q < 256 := by rw [hq]; exact Nat.lt_of_le_of_lt (Nat.div_le_self _ _) (by omega)
          rw [← hq, stp_ref _ _ (by omega)] at HB
          clear hq
          have ha1 := u32_and1 c hbl
          have ha2 := u32_and1 q (by omega)
          have hxp : bits .xor .u32 ((c : Int) / 2) 3988292384 = ((c / 2 ^^^ poly : Nat) : Int) := u32_xor_nat (c / 2) 3988292384 (by omega) (by decide)
          by_cases hne : (((c % 2 : Nat) : Int) != ((q % 2 : Nat) : Int)) = true
          · rw [if_pos hne] at HB
            have hneI : ((c : Int) % 2 != (q : Int) % 2) = true := hne
            clear hne
            go_wp2
            go_round
            case rel => exact ⟨j + 1, by omega, by go_num, by rw [HB.out]⟩
            case measure => simp [intOf]; omega
          · rw [if_neg hne] at HB
            have hneI : ((c : Int) % 2 != (q : Int) % 2) = false := by
              have := Bool.eq_false_iff.2 hne
              exact this
            clear hne
            go_wp2
            go_round
            case rel => exact ⟨j + 1, by omega, by go_num, by rw [HB.out]; go_num⟩
            case measure => simp [intOf]; omega
        · obtain rfl : j = 8 := by omega
          go_wp2
          go_round
          case rel => exact ⟨k + 1, by omega, by go_num, by rw [HS.out]⟩
          case measure => simp [intOf]; omega
    · go_wp2
      go_ret
      exact ⟨by rw [← HE.out, List.take_of_length_le (by omega)]; rfl, rfl⟩
set_option maxRecDepth 20000 in
set_option maxHeartbeats 400000 in
theorem refseal_any (ao : Option Addr) (cap : Nat) (xs : List UInt8) (w : World) (hx : Rd w ao xs) (hl : xs.length ≤ 140737488355328) :
    Calls Tryd.prog 73 #[.slice ao xs.length cap] w fun e w' => e = .returned (.slice (some ⟨w.heap.size, 0, none⟩) 4 4) ∧ Own w' w.heap.size (.slice (some ⟨w.heap.size, 0, none⟩) 4 4) (sealL xs) ∧ Below w.heap.size w w' ∧ w.heap.size < w'.heap.size := by
  go_enter Tryd.func73, Tryd.ntmps73
  go_wp2_with fail
  refine (refCRC_any ao cap xs w hx hl).mono ?_
  rintro e w1 ⟨rfl, hw⟩
  subst hw
  have hc := crcS_lt xs
  go_wp2
  go_ret
  exact ⟨rfl, own_lit w1 _ (sealL xs) (by rw [bv_seal]) (by simp [sealL, maxLen]), (Below.refl _ _).alloc (Nat.le_refl _) _, by simp⟩
set_option maxRecDepth 20000 in
set_option maxHeartbeats 400000 in
theorem refSeal_any (ao : Option Addr) (cap : Nat) (xs : List UInt8) (w : World) (hx : Rd w ao xs) (hnil : ao = none → cap = 0) (hl : xs.length + 4 ≤ 140737488355328) :
    Calls Tryd.prog 44 #[.slice ao xs.length cap] w fun e w' => ∃ v, e = .returned v ∧ Own w' w.heap.size v (xs ++ sealL xs) ∧ Below w.heap.size w w' := by
  have HN : Hid (ao = none → cap = 0) := hnil
  clear hnil
  have h0 : Own w w.heap.size (.slice none 0 0) [] := World.ownsRow_nil _ _ _ _
  go_enter Tryd.func44, Tryd.ntmps44
  go_wp2_with (at_builtin; refine wp_app rfl _ _ rfl w.heap.size (.slice none 0 0) [] xs _ _ rfl h0 rfl hx HN.out (by simp; omega) (Nat.le_refl _) ?_; intro v2 w2 hown2 hg2)
  have hb2 : Below w.heap.size w w2 := (Below.refl _ w).grown hg2 (Nat.le_refl _) (fun k hk => by cases hk)
  go_wp2_with fail
  refine (refseal_any ao cap xs w2 (hx.below hb2) (by omega)).mono ?_
  rintro e w3 ⟨rfl, hown3, hb3, hs3⟩
  have hown2' := hown2.below hb3
  obtain ⟨aq, cq, hv, -, -, -, hr3, -⟩ := hown3.val
  simp only [Value.slice.injEq] at hv
  rw [← hv.1] at hr3
  clear hv
  have hz := hb2.size
  go_wp2_with (at_builtin; refine wp_app rfl _ _ rfl w.heap.size v2 ([] ++ xs) (sealL xs) _ _ rfl hown2' rfl hr3 (fun h => by cases h) (by simp [sealL]; omega) (by omega) ?_; intro v4 w4 hown4 hg4)
  go_ret
  refine ⟨_, rfl, by simpa using hown4, (hb2.trans (hb3.mono hz)).grown hg4 (by omega) (fun k hk => (World.ownsRow.lt hown2' k hk).1)⟩
theorem refCRC_n (ao : Option Addr) (n cap : Nat) (xs : List UInt8) (hn : n = xs.length) (w : World) (hx : Rd w ao xs) (hl : n ≤ 140737488355328) :
    Calls Tryd.prog 90 #[.slice ao n cap] w fun e w' => e = .returned (.int .u32 (crcS xs : Nat)) ∧ w' = w := by subst hn; exact refCRC_any ao cap xs w hx hl
theorem refSeal_n (ao : Option Addr) (n cap : Nat) (xs : List UInt8) (hn : n = xs.length) (w : World) (hx : Rd w ao xs) (hnil : ao = none → cap = 0) (hl : n + 4 ≤ 140737488355328) :
    Calls Tryd.prog 44 #[.slice ao n cap] w fun e w' => ∃ v, e = .returned v ∧ Own w' w.heap.size v (xs ++ sealL xs) ∧ Below w.heap.size w w' := by subst hn; exact refSeal_any ao cap xs w hx hnil hl
end Go.Proofs.YtjigbopkmffjaaaDoor
