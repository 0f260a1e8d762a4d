import Derived.Test.YtmjhbckedagjjabLCd
namespace Go.Proofs.Ytmjhbckedagjjab
set_option linter.unusedVariables false
set_option linter.unusedSimpArgs false
open Go.RowKit
/-- a box alone, its blocks from B on -/
structure One (w0 w : World) (pv : Option Addr) (St : Option (List Seg)) : Prop where
  ex : ∃ F, PBx w pv St F ∧ ∀ b, F b → w0.heap.size ≤ b
  bel : Below w0.heap.size w0 w
theorem One.below {w0 w w' : World} {pv : Option Addr} {St : Option (List Seg)} (h : One w0 w pv St) (hb : Below w.heap.size w w') : One w0 w' pv St := by
  obtain ⟨F, h1, h2⟩ := h.ex
  exact ⟨⟨F, h1.below hb, h2⟩, h.bel.trans (hb.mono h.bel.size)⟩
theorem One.new (w0 : World) {w : World} (hb0 : Below w0.heap.size w0 w) (r : Int) : Calls Try.prog 13 #[.int .i64 r] w fun e w' => ∃ pv, e = .returned (.tuple #[.pointer pv, .int .i64 (newEr r)]) ∧ (pv = none ↔ newSt r = none) ∧ One w0 w' pv (newSt r) := by
  refine Calls.mono (pnew r w) ?_
  rintro e w' ⟨pv, F, rfl, h0, h1, h2, h3⟩
  exact ⟨pv, rfl, h0, ⟨F, h1, fun b hb => Nat.le_trans hb0.size (h2 b hb)⟩, below_next hb0 h3⟩
theorem One.put {w0 w : World} {pv : Option Addr} {St : Option (List Seg)} (h : One w0 w pv St) (i : Int) (ao : Option Addr) (n cap : Nat) (xs : Seg) (hn : n = xs.length) (hx : Rd w ao xs) (hnil : ao = none → cap = 0) (hl : n ≤ 140737488355328) :
    Calls Try.prog 14 #[.pointer pv, .int .i64 i, .slice ao n cap] w fun e w' => e = .returned (.int .i64 (putE St i xs)) ∧ One w0 w' pv (putS St i xs) := by
  obtain ⟨F, h1, h2⟩ := h.ex
  refine Calls.mono (pput h1 i ao n cap xs hn hx hnil hl) ?_
  rintro e w' ⟨rfl, ⟨F', h3, h4⟩, h5⟩
  refine ⟨rfl, ⟨F', h3, fun b hb => ?_⟩, h.bel.trans (h5.below h2 h.bel.size)⟩
  rcases h4 b hb with h6 | h6
  · exact h2 b h6
  · exact Nat.le_trans h.bel.size h6
theorem One.whole {w0 w : World} {pv : Option Addr} {St : Option (List Seg)} (h : One w0 w pv St) : Calls Try.prog 15 #[.pointer pv] w fun e w' => WhOut St w e w' := by
  obtain ⟨F, h1, h2⟩ := h.ex
  exact pwhole h1
theorem One.length {w0 w : World} {pv : Option Addr} {St : Option (List Seg)} (h : One w0 w pv St) : Calls Try.prog 28 #[.pointer pv] w fun e w' => e = .returned (.tuple #[iv (lengS St), .bool (decide (0 < lengS St))]) ∧ Below w.heap.size w w' := by
  obtain ⟨F, h1, h2⟩ := h.ex
  exact plength h1
theorem One.got {w0 w : World} {pv : Option Addr} {St : Option (List Seg)} (h : One w0 w pv St) : Calls Try.prog 26 #[.pointer pv] w fun e w' => GotOut St w e w' := by
  obtain ⟨F, h1, h2⟩ := h.ex
  exact pgot h1
theorem One.count {w0 w : World} {pv : Option Addr} {St : Option (List Seg)} (h : One w0 w pv St) : Calls Try.prog 23 #[.pointer pv] w fun e w' => e = .returned (iv (cntS St)) ∧ w' = w := by
  obtain ⟨F, h1, h2⟩ := h.ex
  exact pcount h1
/-- the states of the small box -/
def smS : Nat → Option (List Seg)
  | 0 => some [[], [], []]
  | 1 => some [[], [], [5]]
  | 2 => some [[], [3, 4], [5]]
  | _ => some [[1, 2], [3, 4], [5]]
def smX : Nat → Seg
  | 0 => [5]
  | 1 => [3, 4]
  | _ => [1, 2]
def smT : List Seg := [[1, 2], [3, 4], [5]]
theorem smT_eq : segN [1, 2, 3, 4, 5] 2 (cutN 5 2) = smT := by decide
theorem sm_step : ∀ k, k < 3 → putE (smS k) (2 - (k : Int)) (smX k) = 0 ∧ putS (smS k) (2 - (k : Int)) (smX k) = smS (k + 1) ∧ smT[2 - k]? = some (smX k)
  | 0, _ => by decide
  | 1, _ => by decide
  | 2, _ => by decide
  | k + 3, h => by omega
theorem smS_new : newSt 3 = smS 0 := by decide
theorem newEr3 : newEr 3 = 0 := by decide
theorem sm_whole : wholeB (smS 3) = true ∧ wholeX (smS 3) = [1, 2, 3, 4, 5] := by decide
set_option maxRecDepth 20000 in
set_option maxHeartbeats 3200000 in
theorem small_t (w : World) : Calls Try.prog 9 #[] w fun e w' => e = .returned (.bool true) ∧ Below w.heap.size w w' := by
  have HC : Hid (∀ u, Rd u (some ⟨w.heap.size, 0, none⟩) [1, 2, 3, 4, 5] → Calls _ _ _ u _) := fun u hu => cut_t (w := u) (some ⟨w.heap.size, 0, none⟩) 5 5 [1, 2, 3, 4, 5] 2 rfl hu (by omega) (by omega) (by omega) (by omega) (by omega) (by omega)
  have HNUM : Hid (∀ u : World, Calls _ _ _ u _) := fun u => num_t 0 u
  go_enter Try.func9, Try.ntmps9
  go_wp2_with fail
  have hb0 : Below w.heap.size w (w.alloc (.cells #[.int .u8 1, .int .u8 2, .int .u8 3, .int .u8 4, .int .u8 5] 5)) := al (Below.refl _ _) _
  refine Calls.mono (HC.out _ (rd_lit w _ rfl _ _ _ _ rfl)) ?_
  rintro e w1 ⟨v1, E1, rfl, hls, hb1⟩
  rw [smT_eq] at hls
  obtain ⟨a1, c1, hv1, hrd1, -, -⟩ := hls.rdL
  subst hv1
  have HB1 : Hid (Below w.heap.size w w1) := below_next hb0 hb1
  have HRD : Hid _ := hrd1
  have hT3 : smT.length = 3 := rfl
  rw [hT3]
  clear hls hb1 hrd1 hT3 hb0
  go_wp2_with fail
  refine Calls.mono (One.new w1 (Below.refl _ _) 3) ?_
  rintro e w2 ⟨pv, rfl, hpn, h2⟩
  rw [newEr3]
  rw [smS_new] at h2
  rcases pv with _ | pa
  · exact absurd (hpn.1 rfl) (by decide)
  have HO2 : Hid _ := h2
  clear hpn h2
  go_wp2_with (go_at_call 12; refine Calls.mono (HNUM.out _) ?_; rintro e w' ⟨rfl, hq⟩; have hq := hq.symm; subst hq)
  go_loopw [5] (fun j wr => ∃ k : Nat, k ≤ 3 ∧ j = .int .i64 (2 - (k : Int)) ∧ One w1 wr (some pa) (smS k)) (fun j _ => (intOf j + 1).toNat)
  case atStart => exact ⟨0, by omega, rfl, HO2.out⟩
  case round =>
    obtain ⟨k, hk, rfl, ho⟩ := hrel
    have HO : Hid _ := ho
    clear ho
    by_cases hlt : k < 3
    · obtain ⟨e1, e2, e3⟩ := sm_step k hlt
      obtain ⟨b, o, d, t, ea, hd, ht, hcl, hby⟩ := (HRD.out.below HO.out.bel).at_ (k := 2 - k) (by rw [show smT.length = 3 from rfl]; omega)
      obtain rfl : t = smX k := by rw [e3] at ht; cases ht; rfl
      subst ea
      obtain ⟨z, hz⟩ : ∃ z : Nat, z = 2 - k := ⟨_, rfl⟩
      have hzI : (2 : Int) - (k : Int) = (z : Int) := by omega
      rw [hzI] at e1 e2 ⊢
      rw [← hz] at hcl
      obtain ⟨da, dn, dc⟩ := d
      have HBY : Hid _ := hby
      have hz0 : (0 : Int) ≤ (z : Int) := by omega
      have hz3 : (z : Int) < 3 := by omega
      have hz3n : z < 3 := by omega
      have hzw : IntKind.i64.wrap ((z : Int) - 1) = (z : Int) - 1 := by rw [IntKind.wrap_i64]; omega
      have HX : Hid ((smX k).length ≤ 3) := by unfold Hid; rcases k with _ | _ | k <;> simp [smX]
      have HP : Hid _ := HO.out.put (z : Int) da dn dc (smX k) hby.n hby.rd hby.nil (by have := hby.n; have := HX.out; simp only at *; omega)
      rw [e1, e2] at HP
      have HZ : Hid _ := hzI
      clear hd ht hby e1 e2 e3 hz hzI
      go_wp2_with (first | (go_at_call 14; refine Calls.mono HP.out ?_; rintro e w3 ⟨rfl, h3⟩; have HO3 : Hid _ := h3; clear h3) | (go_at_call 12; refine Calls.mono (HNUM.out _) ?_; rintro e w' ⟨rfl, hq⟩; have hq := hq.symm; subst hq))
      go_roundw
      case rel => exact ⟨k + 1, by omega, by have := HZ.out; first | (congr 1; push_cast; omega) | (go_num), HO3.out⟩
      case measure => have := HZ.out; simp [intOf] <;> omega
    · obtain rfl : k = 3 := by omega
      have hneg : ((2 : Int) - ((3 : Nat) : Int)) = -1 := by decide
      rw [hneg]
      have HWH : Hid _ := HO.out.whole
      have hm1 : decide ((-1 : Int) ≥ 0) = false := by decide
      go_wp2_with (go_at_call 15; refine Calls.mono HWH.out ?_; rintro e w3 ⟨u3, he3, hown3, hb3⟩; rw [sm_whole.1] at he3; rw [sm_whole.2] at hown3; subst he3; obtain ⟨a3, c3, hv3, -, -, -, hrd3, -⟩ := hown3.val; subst hv3; have cv3 := conv_rd' hrd3 5 c3 rfl; have HB3 : Hid _ := hb3; clear hb3 hown3 hrd3)
      go_ret
      exact ⟨by first | rfl | simp, below_next (below_next HB1.out HO.out.bel) HB3.out⟩
end Go.Proofs.Ytmjhbckedagjjab
