import Derived.Test.YtkjdeeamckmebaaDoorApp
import Derived.Test.YtkjdeeamckmebaaDoorBase
namespace Go.Proofs.YtkjdeeamckmebaaDoor
set_option linter.unusedVariables false
set_option linter.unusedSimpArgs false
open Go.RowKit

/-- how many bytes the number at the front has; 0: no end among the first ten -/
def nszF : Nat → List UInt8 → Nat → Nat
  | 0, _, _ => 0
  | _ + 1, [], _ => 0
  | f + 1, x :: xs, k => if x < 128 then k + 1 else nszF f xs (k + 1)
def nsz (xs : List UInt8) : Nat := nszF 10 xs 0
theorem nszF_drop (xs : List UInt8) (f k j : Nat) (h : f + j = 10) (hk : k = j) (hall : ∀ i (hi : i < xs.length), i < j → 128 ≤ xs[i].toNat) (hj : j ≤ xs.length) : nszF f (xs.drop j) k = nsz xs := by
  subst hk
  induction k generalizing f with
  | zero => obtain rfl : f = 10 := by omega
            rfl
  | succ k ih =>
    have hx := hall k (by omega) (by omega)
    rw [← ih (f + 1) (by omega) (fun i hi hik => hall i hi (by omega)) (by omega)]
    rw [show xs.drop k = xs[k] :: xs.drop (k + 1) from List.drop_eq_getElem_cons (by omega)]
    simp only [nszF]
    rw [if_neg (by rw [UInt8.lt_iff_toNat_lt]; simp; omega)]
theorem nsz_hit (xs : List UInt8) (k : Nat) (hk : k < xs.length) (h10 : k < 10) (hall : ∀ i (hi : i < xs.length), i < k → 128 ≤ xs[i].toNat) (hx : xs[k].toNat < 128) : nsz xs = k + 1 := by
  rw [← nszF_drop xs (10 - k) k k (by omega) rfl hall (by omega), show xs.drop k = xs[k] :: xs.drop (k + 1) from List.drop_eq_getElem_cons (by omega), show 10 - k = (9 - k) + 1 from by omega]
  simp only [nszF]
  rw [if_pos (by rw [UInt8.lt_iff_toNat_lt]; simpa using hx)]
theorem nsz_miss (xs : List UInt8) (k : Nat) (hk : k = min xs.length 10) (hall : ∀ i (hi : i < xs.length), i < k → 128 ≤ xs[i].toNat) : nsz xs = 0 := by
  rw [← nszF_drop xs (10 - k) k k (by omega) rfl hall (by omega)]
  by_cases h : xs.length ≤ 10
  · rw [List.drop_of_length_le (by omega)]
    cases 10 - k <;> rfl
  · rw [show 10 - k = 0 from by omega]; rfl
theorem nszF_le (f : Nat) : ∀ (xs : List UInt8) (k : Nat), nszF f xs k = 0 ∨ (k < nszF f xs k ∧ nszF f xs k ≤ k + min xs.length f ∧ ∃ h : nszF f xs k - 1 - k < xs.length, xs[nszF f xs k - 1 - k].toNat < 128 ∧ ∀ i (hi : i < xs.length), i < nszF f xs k - 1 - k → 128 ≤ xs[i].toNat) := by
  induction f with
  | zero => intro xs k; left; cases xs <;> rfl
  | succ f ih =>
    intro xs k
    cases xs with
    | nil => left; rfl
    | cons x xs =>
      simp only [nszF]
      split
      · right
        rename_i h
        rw [UInt8.lt_iff_toNat_lt] at h
        refine ⟨by omega, by simp only [List.length_cons]; omega, by simp, ?_, ?_⟩
        · simpa using h
        · intro i hi h2; omega
      · rename_i h
        rw [UInt8.lt_iff_toNat_lt] at h
        rcases ih xs (k + 1) with h0 | ⟨h1, h2, h3, h4, h5⟩
        · left; exact h0
        · right
          have e : nszF f xs (k + 1) - 1 - k = (nszF f xs (k + 1) - 1 - (k + 1)) + 1 := by omega
          refine ⟨by omega, by simp only [List.length_cons]; omega, by rw [e]; simpa using h3, ?_, ?_⟩
          · simp only [e, List.getElem_cons_succ]; exact h4
          · intro i hi hlt
            rcases i with _ | i
            · simp at h ⊢; omega
            · simp only [List.getElem_cons_succ]
              exact h5 i (by simpa using hi) (by omega)
theorem nsz_le (xs : List UInt8) : nsz xs = 0 ∨ (0 < nsz xs ∧ nsz xs ≤ min xs.length 10 ∧ ∃ h : nsz xs - 1 < xs.length, xs[nsz xs - 1].toNat < 128 ∧ ∀ i (hi : i < xs.length), i < nsz xs - 1 → 128 ≤ xs[i].toNat) := by
  have := nszF_le 10 xs 0
  simpa [nsz] using this

set_option maxRecDepth 20000 in
set_option maxHeartbeats 400000 in
theorem numberSize_any (ao : Option Addr) (cap : Nat) (xs : List UInt8) (w : World) (hx : Rd w ao xs) (hlc : xs.length ≤ cap) (hl : xs.length ≤ 140737488355328) :
    Calls Tryd.prog 91 #[.slice ao xs.length cap] w fun e w' => e = .returned (.int .i64 (nsz xs : Nat)) ∧ w' = w := by
  go_enter Tryd.func91, Tryd.ntmps91
  go_wp2
  all_goals
    go_loop [11] (fun i => ∃ k : Nat, k ≤ min xs.length 10 ∧ i = .int .i64 k ∧ ∀ j (hj : j < xs.length), j < k → 128 ≤ xs[j].toNat) (fun i => 10 - (intOf i).toNat)
    case atStart => exact ⟨0, Nat.zero_le _, rfl, fun j _ h => absurd h (Nat.not_lt_zero j)⟩
    case round =>
      obtain ⟨k, hk, rfl, hall⟩ := hrel
      by_cases hlt : k < min xs.length 10
      · obtain ⟨b, o, rfl, hc⟩ := hx (by omega)
        have hc1 := hc k (by omega)
        have HA : Hid (∀ j (hj : j < xs.length), j < k → 128 ≤ xs[j].toNat) := hall
        have hkl : k < xs.length := by omega
        have hk10 : k < 10 := by omega
        clear hc hx hall
        by_cases h128 : xs[k].toNat < 128
        · have HH : Hid (nsz xs = k + 1) := nsz_hit xs k hkl hk10 HA.out h128
          go_wp2
          go_ret
          exact ⟨by rw [HH.out]; rfl, rfl⟩
        · go_wp2
          go_round
          case rel =>
            refine ⟨k + 1, by omega, by go_num, fun j hj hjk => ?_⟩
            by_cases e : j = k
            · subst e; omega
            · exact HA.out j hj (by omega)
          case measure => simp [intOf]; omega
      · have HH : Hid (nsz xs = 0) := nsz_miss xs k (by omega) hall
        have hge : ¬ k < min xs.length 10 := hlt
        have hl1 : (k = xs.length ∧ xs.length ≤ 10) ∨ (k = 10 ∧ 10 < xs.length) := by omega
        clear hall hlt
        go_wp2
        go_ret
        exact ⟨by rw [HH.out]; rfl, rfl⟩
end Go.Proofs.YtkjdeeamckmebaaDoor
namespace Go.Proofs.YtkjdeeamckmebaaDoor
set_option linter.unusedVariables false
set_option linter.unusedSimpArgs false
open Go.RowKit

/-- the number that the digits say, from n on; none: 2^64 or more -/
def vl : Nat → List UInt8 → Option Nat
  | n, [] => some n
  | n, c :: r => if 144115188075855872 ≤ n then none else vl (n * 128 + c.toNat % 128) r
/-- what Number answers: the number, its bytes, the fault -/
def numS (xs : List UInt8) : Nat × Nat × Nat :=
  if nsz xs = 0 then (if xs.length < 10 then (0, 0, 10) else (0, 0, 12))
  else if xs.head? = some 128 then (0, 0, 12)
  else match vl 0 (xs.take (nsz xs)) with
    | none => (0, 0, 12)
    | some n => (n, nsz xs, 0)
def numV (xs : List UInt8) : Value := .tuple #[.int .u64 ((numS xs).1 : Nat), .int .i64 ((numS xs).2.1 : Nat), .int .i64 ((numS xs).2.2 : Nat)]
theorem vl_lt : ∀ (xs : List UInt8) (n m : Nat), n < 18446744073709551616 → vl n xs = some m → m < 18446744073709551616
  | [], n, m, h, e => by simp [vl] at e; omega
  | c :: r, n, m, h, e => by
    simp only [vl] at e
    split at e
    · cases e
    · exact vl_lt r _ m (by have := c.toNat_lt; omega) e
theorem numS_lt (xs : List UInt8) : (numS xs).1 < 18446744073709551616 ∧ (numS xs).2.1 ≤ min xs.length 10 := by
  have h1 := nsz_le xs
  unfold numS
  split
  · split <;> simp
  · split
    · simp
    · split
      · simp
      · rename_i h
        refine ⟨vl_lt _ _ _ (by omega) h, ?_⟩
        rcases h1 with h1 | h1
        · omega
        · exact h1.2.1

theorem jump_ret (l : Nat) (J : Act → World → Prop) (Q : Exit → Act → World → Prop) (a : Act) (w : World) : Exit.jump l J Q .ret a w = Q .ret a w := rfl
theorem jump_goto {l : Nat} {J : Act → World → Prop} {Q : Exit → Act → World → Prop} {a : Act} {w : World} (h : J a w) : Exit.jump l J Q (.goto l) a w := ⟨rfl, h⟩
/-- what holds at the jump to the one fault -/
def JW (w : World) (p : Prop) (a' : Act) (w' : World) : Prop := w' = w ∧ p ∧ ∃ (u0 u1 u2 u3 u4 u5 u6 u7 u8 u9 u10 u11 u12 u13 u14 u15 u16 u17 u18 u19 u20 u21 u22 u23 u24 u25 u26 u27 u28 u29 u30 u31 u32 u33 u34 u35 u36 u37 u38 u39 u40 u41 u42 : Value), a' = { tmps := #[u0, u1, u2, u3, u4, u5, u6, u7, u8, u9, u10, u11, u12, u13, u14, u15, u16, u17, u18, u19, u20, u21, u22, u23, u24, u25, u26, u27, u28, u29, u30, u31, u32, u33, u34, u35, u36, u37, u38, u39, u40, u41, u42], defers := [] }
set_option maxRecDepth 20000 in
set_option maxHeartbeats 800000 in
theorem number_any (ao : Option Addr) (cap : Nat) (xs : List UInt8) (w : World) (hx : Rd w ao xs) (hlc : xs.length ≤ cap) (hl : xs.length ≤ 140737488355328) :
    Calls Tryd.prog 87 #[.slice ao xs.length cap] w fun e w' => e = .returned (numV xs) ∧ w' = w := by
  go_enter Tryd.func87, Tryd.ntmps87
  go_wp2
  refine wp_scope_jumps 0 (JW w (Hid (numV xs = .tuple #[.int .u64 0, .int .i64 0, .int .i64 12]))) (fun _ _ => 0) rfl ?first ?pass
  case pass =>
    rintro a1 w1 ⟨rfl, HV, u0, u1, u2, u3, u4, u5, u6, u7, u8, u9, u10, u11, u12, u13, u14, u15, u16, u17, u18, u19, u20, u21, u22, u23, u24, u25, u26, u27, u28, u29, u30, u31, u32, u33, u34, u35, u36, u37, u38, u39, u40, u41, u42, rfl⟩
    go_wp2
    rw [jump_ret]
    go_ret3
    exact ⟨by rw [HV.out]; rfl, rfl⟩
  case first =>
    go_wp2_with fail
    refine (numberSize_any ao cap xs w hx hlc hl).mono ?_
    rintro e w' ⟨rfl, hw⟩
    subst hw
    by_cases h0 : nsz xs = 0
    · by_cases h10 : xs.length < 10
      · have HV : Hid (numV xs = .tuple #[.int .u64 0, .int .i64 0, .int .i64 10]) := by unfold Hid numV numS; rw [if_pos h0, if_pos h10]; rfl
        rw [h0]
        clear h0
        go_wp2
        rw [jump_ret]
        go_ret3
        exact ⟨by rw [HV.out]; rfl, rfl⟩
      · have HV : Hid (numV xs = .tuple #[.int .u64 0, .int .i64 0, .int .i64 12]) := by unfold Hid numV numS; rw [if_pos h0, if_neg h10]; rfl
        rw [h0]
        clear h0
        go_wp2
        go_step3
        exact id (α := (0 : Nat) = 0 ∧ JW _ _ _ _) ⟨rfl, rfl, HV, by (repeat apply Exists.intro); rfl⟩
    · rcases nsz_le xs with h1 | ⟨h1, h2, _⟩
      · exact absurd h1 h0
      · have hlen : 0 < xs.length := by omega
        obtain ⟨b, o, rfl, hc⟩ := hx hlen
        have hc0 := hc 0 hlen
        simp only [Nat.add_zero] at hc0
        have hhd : xs.head? = some xs[0] := List.head?_eq_getElem? ▸ List.getElem?_eq_getElem hlen
        have HNS : Hid (numS xs = if xs[0] = 128 then (0, 0, 12) else match vl 0 (xs.take (nsz xs)) with | none => (0, 0, 12) | some n => (n, nsz xs, 0)) := by
          unfold Hid numS
          rw [if_neg h0, hhd]
          simp only [Option.some.injEq]
        generalize hsz : nsz xs = s at *
        clear hsz hhd
        have hb1 : ((s : Int) == 0) = false := by simp; omega
        have hs1 : s ≤ xs.length := by omega
        clear h0 h2
        by_cases h128 : xs[0] = 128
        · have HV : Hid (numV xs = .tuple #[.int .u64 0, .int .i64 0, .int .i64 12]) := by unfold Hid numV; rw [HNS.out, if_pos h128]; rfl
          have h128b : ((xs[0].toNat : Int) == 128) = true := by rw [h128]; rfl
          clear h128
          go_wp2
          go_step3
          exact id (α := (0 : Nat) = 0 ∧ JW _ _ _ _) ⟨rfl, rfl, HV, by (repeat apply Exists.intro); rfl⟩
        · have HV : Hid (numS xs = match vl 0 (xs.take s) with | none => (0, 0, 12) | some n => (n, s, 0)) := by unfold Hid; rw [HNS.out, if_neg h128]
          have h128b : ((xs[0].toNat : Int) == 128) = false := by
            rw [beq_eq_false_iff_ne]; intro e; apply h128; apply UInt8.toNat_inj.1; simp; omega
          clear h128 HNS
          go_wp2
          go_loop [5, 28] (fun v i => ∃ k n : Nat, k ≤ s ∧ i = .int .i64 k ∧ v = .int .u64 n ∧ n < 18446744073709551616 ∧ Hid (vl 0 (xs.take s) = vl n ((xs.take s).drop k))) (fun _ i => s - (intOf i).toNat)
          case atStart => exact ⟨0, 0, Nat.zero_le _, rfl, rfl, by omega, rfl⟩
          case round =>
            obtain ⟨k, n, hk, rfl, rfl, hn, HK⟩ := hrel
            by_cases hlt : k < s
            · have hkx : k < xs.length := by omega
              have hc1 := hc k hkx
              have HK1 : Hid (vl 0 (xs.take s) = vl n (xs[k] :: (xs.take s).drop (k + 1))) := by
                unfold Hid; rw [HK.out, List.drop_eq_getElem_cons (i := k) (by simp; omega)]; simp
              clear HK hc
              by_cases hbig : 144115188075855872 ≤ n
              · have HV2 : Hid (numV xs = .tuple #[.int .u64 0, .int .i64 0, .int .i64 12]) := by
                  have e1 := HK1.out
                  simp only [vl, if_pos hbig] at e1
                  unfold Hid numV; rw [HV.out, e1]; rfl
                have hbI : (144115188075855872 : Int) ≤ (n : Int) := by omega
                have hnI : (n : Int) < 18446744073709551616 := by omega
                clear HV HK1 hbig hn
                go_wp2
                go_step3
                exact id (α := (0 : Nat) = 0 ∧ JW _ _ _ _) ⟨rfl, rfl, HV2, by (repeat apply Exists.intro); rfl⟩
              · have HK2 : Hid (vl 0 (xs.take s) = vl (n * 128 + xs[k].toNat % 128) ((xs.take s).drop (k + 1))) := by
                  have e1 := HK1.out
                  rw [vl, if_neg hbig] at e1
                  exact e1
                have hxk : (xs[k].toNat : Int) < 256 := by have := xs[k].toNat_lt; omega
                have hbI : decide ((144115188075855872 : Int) ≤ (n : Int)) = false := by simp; omega
                have HB : Hid (¬ 144115188075855872 ≤ n) := hbig
                obtain ⟨q, hq⟩ : ∃ q : Nat, q = n * 128 := ⟨_, rfl⟩
                obtain ⟨r, hr⟩ : ∃ r : Nat, r = q + xs[k].toNat % 128 := ⟨_, rfl⟩
                have hw1 : IntKind.u64.wrap ((n : Int) * 128) = (q : Int) := by rw [IntKind.wrap_u64]; omega
                have hw2 : IntKind.u64.wrap ((q : Int) + (xs[k].toNat : Int) % 128) = (r : Int) := by rw [IntKind.wrap_u64]; omega
                have HR : Hid (r = n * 128 + xs[k].toNat % 128) := by unfold Hid; omega
                clear HK1 hbig hn hq hr
                go_wp2
                go_round
                case rel => exact ⟨k + 1, n * 128 + xs[k].toNat % 128, by omega, by go_num, by rw [← HR.out], by have := HB.out; omega, HK2⟩
                case measure => simp [intOf]; omega
            · obtain rfl : k = s := by omega
              have e1 := HK.out
              rw [List.drop_of_length_le (by simp; omega), vl] at e1
              have HV2 : Hid (numV xs = .tuple #[.int .u64 n, .int .i64 k, .int .i64 0]) := by
                unfold Hid numV; rw [HV.out, e1]; rfl
              clear HV HK e1 hc
              go_wp2
              rw [jump_ret]
              go_ret3
              exact ⟨by rw [HV2.out]; rfl, rfl⟩
end Go.Proofs.YtkjdeeamckmebaaDoor
namespace Go.Proofs.YtkjdeeamckmebaaDoor
set_option linter.unusedVariables false
set_option linter.unusedSimpArgs false
open Go.RowKit
def tab : List Int := [0, 498536548, 997073096, 651767980, 1994146192, 1802195444, 1303535960, 1342533948, 3988292384, 4027552580, 3604390888, 3412177804, 2607071920, 2262029012, 2685067896, 3183342108]
def tabAt (m : Int) : Int := tab.getD (m % 16).toNat 0
def TabOk (w : World) : Prop := ∀ m : Int, w.cell? ⟨0, (m % 16).toNat, none⟩ = some (.int .u32 (tabAt m))
theorem xor_bd (a b : Int) : 0 ≤ bits .xor .u32 a b ∧ bits .xor .u32 a b ≤ 4294967295 := by
  unfold bits
  rw [IntKind.wrap_u32']
  omega
def crcHalf (c : Int) : Int := bits .xor .u32 (c / 16) (tabAt c)
def crcStep (z x : Int) : Int := crcHalf (crcHalf (bits .xor .u32 z (x % 4294967296)))
def crcI (xs : List UInt8) : Int := xs.foldl (fun z x => crcStep z x.toNat) 4294967295
theorem crcHalf_bd (c : Int) : 0 ≤ crcHalf c ∧ crcHalf c ≤ 4294967295 := xor_bd _ _
theorem crcI_bd (xs : List UInt8) : 0 ≤ crcI xs ∧ crcI xs ≤ 4294967295 := by
  unfold crcI
  suffices h : ∀ z : Int, 0 ≤ z ∧ z ≤ 4294967295 → 0 ≤ xs.foldl (fun z x => crcStep z x.toNat) z ∧ xs.foldl (fun z x => crcStep z x.toNat) z ≤ 4294967295 from h _ (by omega)
  induction xs with
  | nil => intro z h; exact h
  | cons x xs ih => intro z _; exact ih _ (crcHalf_bd _)
theorem take_snoc (xs : List UInt8) (k : Nat) (h : k < xs.length) : xs.take (k + 1) = xs.take k ++ [xs[k]] := by
  rw [List.take_succ_eq_append_getElem h]
theorem crcI_snoc (xs : List UInt8) (x : UInt8) : crcI (xs ++ [x]) = crcStep (crcI xs) x.toNat := by
  simp [crcI, List.foldl_append]
set_option maxHeartbeats 400000 in
theorem crc_any (ao : Option Addr) (cap : Nat) (xs : List UInt8) (w : World) (hx : Rd w ao xs) (hl : xs.length ≤ 140737488355328) (ht : TabOk w) :
    Calls Tryd.prog 41 #[.slice ao xs.length cap] w fun e w' => e = .returned (.int .u32 (bits .xor .u32 4294967295 (crcI xs))) ∧ w' = w := by
  go_enter Tryd.func41, Tryd.ntmps41
  go_wp2
  go_loop [3, 8] (fun c i => ∃ k : Nat, k ≤ xs.length ∧ i = .int .i64 k ∧ c = .int .u32 (crcI (xs.take k))) (fun _ i => xs.length - (intOf i).toNat)
  case atStart => exact ⟨0, Nat.zero_le _, rfl, rfl⟩
  case round =>
    obtain ⟨k, hk, rfl, rfl⟩ := hrel
    have hz := crcI_bd (xs.take k)
    by_cases hlt : k < xs.length
    · obtain ⟨b, o, rfl, hc⟩ := hx (by omega)
      have hc1 := hc k hlt
      have HS : Hid (crcI (xs.take (k + 1)) = crcStep (crcI (xs.take k)) xs[k].toNat) := by
        rw [take_snoc xs k hlt]; exact crcI_snoc _ _
      clear hc hx
      generalize hzz : crcI (xs.take k) = z at *
      clear hzz
      unfold TabOk at ht
      obtain ⟨h1, h2⟩ := xor_bd z (↑xs[k].toNat % 4294967296)
      obtain ⟨h3, h4⟩ := xor_bd (bits BinOp.xor IntKind.u32 z (↑xs[k].toNat % 4294967296) / 16) (tabAt (bits BinOp.xor IntKind.u32 z (↑xs[k].toNat % 4294967296)))
      go_wp2
      go_round
      case rel => exact ⟨k + 1, by omega, by go_num, by rw [HS.out]; rfl⟩
      case measure => simp [intOf]; omega
    · go_wp2
      go_ret
      exact ⟨by rw [List.take_of_length_le (by omega)]; rfl, rfl⟩
theorem TabOk.below {w w' : World} (h : TabOk w) (hb : Below w.heap.size w w') : TabOk w' := by
  intro m
  have h1 := h m
  exact (hb.cell (World.block_lt_of_cell? w _ h1)).trans h1
theorem TabOk.alloc {w : World} (h : TabOk w) (o : Obj) : TabOk (w.alloc o) := h.below ((Below.refl _ _).alloc (Nat.le_refl _) o)
end Go.Proofs.YtkjdeeamckmebaaDoor
